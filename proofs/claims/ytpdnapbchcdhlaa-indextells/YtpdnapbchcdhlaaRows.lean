/-
  No cell of these rows narrows 'for every input' (looked for: loops, veiled, ifaces, maps, wideKeys, modest, calm, conditions, laid).
  DERIVED. THE GIVEN ROWS OF THIS SEAT. 12 by the template 'for every input the law returns true; each argument reads behind the call as it read before'; 0 by the template 'total and deterministic' (their statements: YtpdnapbchcdhlaaTotals.lean).
  GIVEN WITH THE SEED: the statements are not yours to turn. If you find one false, say at which input.
  Laid BY PROGRAM, IN A SANDBOX (cutbox-rows.mjs): the forced cells as the released guide's own fill.sh prints them over the translation 157683a2c344702f… (all of the seat's roots in one cut). By AI agents, Wed Nov 11 2026. No macro, syntax, notation, axiom, sorry.
-/
import Derived.Test.YtpdnapbchcdhlaaChecked
import GoSem.Claim
import GoSem.ClaimJoined
import GoSem.ClaimMapViews
import Derived.JoinedTies
import Derived.KernelRfl
namespace Go.Proofs.Ytpdnapbchcdhlaa
/- THE CELL 'sum', in the pinned program and in every row, IS THE sha256 OF THE DUMP (.gsa) THAT YtpdnapbchcdhlaaProg.lean LOADS. Nothing in Lean hashes anything: it is a label: what it is worth is what the hold of that sum in a sandbox is worth. -/
noncomputable def Try.pinned : Pinned := { name := "ytpdnapbchcdhlaa", sum := "157683a2c344702fec80853c302f8d2d5070579fd1a3bae63f68fe42074ca6c8", checked := Try.checked }
namespace Rows
def none {H : Type} : Left H := { results := [], args := [] }

/-- 'sclaw1.SumTells': WHATEVER THE INPUT: true; the input reads as it did. -/
def sumTellsSpec : ChangeSpec := { name := "sumTells", fn := fun _ => fun
  | [d1, d2, d3, d4] => { results := [.lit (.bool true)], args := [d1, d2, d3, d4] }
  | _ => none }
def sumTellsRow : OpenClaim := { program := "ytpdnapbchcdhlaa", sum := "157683a2c344702fec80853c302f8d2d5070579fd1a3bae63f68fe42074ca6c8", func := "scrubstore/sclaw1.SumTells", spec := "sumTells", apart := false }
def SumTellsSaid : Prop := sumTellsRow.holds Try.pinned (OpenSpec.ofChange sumTellsSpec)

/-- ITS FALSE NEIGHBOUR: 'it returns false'. Refute it at one input. -/
def sumTellsWrong : ChangeSpec := { name := "sumTells", fn := fun _ => fun
  | [d1, d2, d3, d4] => { results := [.lit (.bool false)], args := [d1, d2, d3, d4] }
  | _ => none }
def SumTellsWrongFalsely : Prop := sumTellsRow.holds Try.pinned (OpenSpec.ofChange sumTellsWrong)

/-- 'sclaw1.SumByte': WHATEVER THE INPUT: true; the input reads as it did. -/
def sumByteSpec : ChangeSpec := { name := "sumByte", fn := fun _ => fun
  | [d1, d2, d3] => { results := [.lit (.bool true)], args := [d1, d2, d3] }
  | _ => none }
def sumByteRow : OpenClaim := { program := "ytpdnapbchcdhlaa", sum := "157683a2c344702fec80853c302f8d2d5070579fd1a3bae63f68fe42074ca6c8", func := "scrubstore/sclaw1.SumByte", spec := "sumByte", apart := false }
def SumByteSaid : Prop := sumByteRow.holds Try.pinned (OpenSpec.ofChange sumByteSpec)

/-- ITS FALSE NEIGHBOUR: 'it returns false'. Refute it at one input. -/
def sumByteWrong : ChangeSpec := { name := "sumByte", fn := fun _ => fun
  | [d1, d2, d3] => { results := [.lit (.bool false)], args := [d1, d2, d3] }
  | _ => none }
def SumByteWrongFalsely : Prop := sumByteRow.holds Try.pinned (OpenSpec.ofChange sumByteWrong)

/-- 'sclaw2.BlockTells': WHATEVER THE INPUT: true; the input reads as it did. -/
def blockTellsSpec : ChangeSpec := { name := "blockTells", fn := fun _ => fun
  | [d1, d2, d3, d4] => { results := [.lit (.bool true)], args := [d1, d2, d3, d4] }
  | _ => none }
def blockTellsRow : OpenClaim := { program := "ytpdnapbchcdhlaa", sum := "157683a2c344702fec80853c302f8d2d5070579fd1a3bae63f68fe42074ca6c8", func := "scrubstore/sclaw2.BlockTells", spec := "blockTells", unfollowed := true, recurses := true, apart := false }
def BlockTellsSaid : Prop := blockTellsRow.holds Try.pinned (OpenSpec.ofChange blockTellsSpec)

/-- ITS FALSE NEIGHBOUR: 'it returns false'. Refute it at one input. -/
def blockTellsWrong : ChangeSpec := { name := "blockTells", fn := fun _ => fun
  | [d1, d2, d3, d4] => { results := [.lit (.bool false)], args := [d1, d2, d3, d4] }
  | _ => none }
def BlockTellsWrongFalsely : Prop := blockTellsRow.holds Try.pinned (OpenSpec.ofChange blockTellsWrong)

/-- 'sclaw2.BlockTurns': WHATEVER THE INPUT: true; the input reads as it did. -/
def blockTurnsSpec : ChangeSpec := { name := "blockTurns", fn := fun _ => fun
  | [d1, d2, d3, d4] => { results := [.lit (.bool true)], args := [d1, d2, d3, d4] }
  | _ => none }
def blockTurnsRow : OpenClaim := { program := "ytpdnapbchcdhlaa", sum := "157683a2c344702fec80853c302f8d2d5070579fd1a3bae63f68fe42074ca6c8", func := "scrubstore/sclaw2.BlockTurns", spec := "blockTurns", apart := false }
def BlockTurnsSaid : Prop := blockTurnsRow.holds Try.pinned (OpenSpec.ofChange blockTurnsSpec)

/-- ITS FALSE NEIGHBOUR: 'it returns false'. Refute it at one input. -/
def blockTurnsWrong : ChangeSpec := { name := "blockTurns", fn := fun _ => fun
  | [d1, d2, d3, d4] => { results := [.lit (.bool false)], args := [d1, d2, d3, d4] }
  | _ => none }
def BlockTurnsWrongFalsely : Prop := blockTurnsRow.holds Try.pinned (OpenSpec.ofChange blockTurnsWrong)

/-- 'sclaw2.BlockByte': WHATEVER THE INPUT: true; the input reads as it did. -/
def blockByteSpec : ChangeSpec := { name := "blockByte", fn := fun _ => fun
  | [d1, d2, d3, d4] => { results := [.lit (.bool true)], args := [d1, d2, d3, d4] }
  | _ => none }
def blockByteRow : OpenClaim := { program := "ytpdnapbchcdhlaa", sum := "157683a2c344702fec80853c302f8d2d5070579fd1a3bae63f68fe42074ca6c8", func := "scrubstore/sclaw2.BlockByte", spec := "blockByte", apart := false }
def BlockByteSaid : Prop := blockByteRow.holds Try.pinned (OpenSpec.ofChange blockByteSpec)

/-- ITS FALSE NEIGHBOUR: 'it returns false'. Refute it at one input. -/
def blockByteWrong : ChangeSpec := { name := "blockByte", fn := fun _ => fun
  | [d1, d2, d3, d4] => { results := [.lit (.bool false)], args := [d1, d2, d3, d4] }
  | _ => none }
def BlockByteWrongFalsely : Prop := blockByteRow.holds Try.pinned (OpenSpec.ofChange blockByteWrong)

/-- 'sclaw3.DiskTells': WHATEVER THE INPUT: true; the input reads as it did. -/
def diskTellsSpec : ChangeSpec := { name := "diskTells", fn := fun _ => fun
  | [d1, d2, d3, d4] => { results := [.lit (.bool true)], args := [d1, d2, d3, d4] }
  | _ => none }
def diskTellsRow : OpenClaim := { program := "ytpdnapbchcdhlaa", sum := "157683a2c344702fec80853c302f8d2d5070579fd1a3bae63f68fe42074ca6c8", func := "scrubstore/sclaw3.DiskTells", spec := "diskTells", apart := false }
def DiskTellsSaid : Prop := diskTellsRow.holds Try.pinned (OpenSpec.ofChange diskTellsSpec)

/-- ITS FALSE NEIGHBOUR: 'it returns false'. Refute it at one input. -/
def diskTellsWrong : ChangeSpec := { name := "diskTells", fn := fun _ => fun
  | [d1, d2, d3, d4] => { results := [.lit (.bool false)], args := [d1, d2, d3, d4] }
  | _ => none }
def DiskTellsWrongFalsely : Prop := diskTellsRow.holds Try.pinned (OpenSpec.ofChange diskTellsWrong)

/-- 'sclaw3.DiskPut': WHATEVER THE INPUT: true; the input reads as it did. -/
def diskPutSpec : ChangeSpec := { name := "diskPut", fn := fun _ => fun
  | [d1, d2, d3, d4] => { results := [.lit (.bool true)], args := [d1, d2, d3, d4] }
  | _ => none }
def diskPutRow : OpenClaim := { program := "ytpdnapbchcdhlaa", sum := "157683a2c344702fec80853c302f8d2d5070579fd1a3bae63f68fe42074ca6c8", func := "scrubstore/sclaw3.DiskPut", spec := "diskPut", apart := false }
def DiskPutSaid : Prop := diskPutRow.holds Try.pinned (OpenSpec.ofChange diskPutSpec)

/-- ITS FALSE NEIGHBOUR: 'it returns false'. Refute it at one input. -/
def diskPutWrong : ChangeSpec := { name := "diskPut", fn := fun _ => fun
  | [d1, d2, d3, d4] => { results := [.lit (.bool false)], args := [d1, d2, d3, d4] }
  | _ => none }
def DiskPutWrongFalsely : Prop := diskPutRow.holds Try.pinned (OpenSpec.ofChange diskPutWrong)

/-- 'sclaw3.DiskKeep': WHATEVER THE INPUT: true; the input reads as it did. -/
def diskKeepSpec : ChangeSpec := { name := "diskKeep", fn := fun _ => fun
  | [d1, d2] => { results := [.lit (.bool true)], args := [d1, d2] }
  | _ => none }
def diskKeepRow : OpenClaim := { program := "ytpdnapbchcdhlaa", sum := "157683a2c344702fec80853c302f8d2d5070579fd1a3bae63f68fe42074ca6c8", func := "scrubstore/sclaw3.DiskKeep", spec := "diskKeep", apart := false }
def DiskKeepSaid : Prop := diskKeepRow.holds Try.pinned (OpenSpec.ofChange diskKeepSpec)

/-- ITS FALSE NEIGHBOUR: 'it returns false'. Refute it at one input. -/
def diskKeepWrong : ChangeSpec := { name := "diskKeep", fn := fun _ => fun
  | [d1, d2] => { results := [.lit (.bool false)], args := [d1, d2] }
  | _ => none }
def DiskKeepWrongFalsely : Prop := diskKeepRow.holds Try.pinned (OpenSpec.ofChange diskKeepWrong)

/-- 'sclaw4.PairTells': WHATEVER THE INPUT: true; the input reads as it did. -/
def pairTellsSpec : ChangeSpec := { name := "pairTells", fn := fun _ => fun
  | [d1, d2, d3] => { results := [.lit (.bool true)], args := [d1, d2, d3] }
  | _ => none }
def pairTellsRow : OpenClaim := { program := "ytpdnapbchcdhlaa", sum := "157683a2c344702fec80853c302f8d2d5070579fd1a3bae63f68fe42074ca6c8", func := "scrubstore/sclaw4.PairTells", spec := "pairTells", unfollowed := true, recurses := true, apart := false }
def PairTellsSaid : Prop := pairTellsRow.holds Try.pinned (OpenSpec.ofChange pairTellsSpec)

/-- ITS FALSE NEIGHBOUR: 'it returns false'. Refute it at one input. -/
def pairTellsWrong : ChangeSpec := { name := "pairTells", fn := fun _ => fun
  | [d1, d2, d3] => { results := [.lit (.bool false)], args := [d1, d2, d3] }
  | _ => none }
def PairTellsWrongFalsely : Prop := pairTellsRow.holds Try.pinned (OpenSpec.ofChange pairTellsWrong)

/-- 'sclaw4.PairMend': WHATEVER THE INPUT: true; the input reads as it did. -/
def pairMendSpec : ChangeSpec := { name := "pairMend", fn := fun _ => fun
  | [d1, d2] => { results := [.lit (.bool true)], args := [d1, d2] }
  | _ => none }
def pairMendRow : OpenClaim := { program := "ytpdnapbchcdhlaa", sum := "157683a2c344702fec80853c302f8d2d5070579fd1a3bae63f68fe42074ca6c8", func := "scrubstore/sclaw4.PairMend", spec := "pairMend", unfollowed := true, recurses := true, apart := false }
def PairMendSaid : Prop := pairMendRow.holds Try.pinned (OpenSpec.ofChange pairMendSpec)

/-- ITS FALSE NEIGHBOUR: 'it returns false'. Refute it at one input. -/
def pairMendWrong : ChangeSpec := { name := "pairMend", fn := fun _ => fun
  | [d1, d2] => { results := [.lit (.bool false)], args := [d1, d2] }
  | _ => none }
def PairMendWrongFalsely : Prop := pairMendRow.holds Try.pinned (OpenSpec.ofChange pairMendWrong)

/-- 'sclaw4.PairSpoil': WHATEVER THE INPUT: true; the input reads as it did. -/
def pairSpoilSpec : ChangeSpec := { name := "pairSpoil", fn := fun _ => fun
  | [d1, d2, d3, d4, d5, d6] => { results := [.lit (.bool true)], args := [d1, d2, d3, d4, d5, d6] }
  | _ => none }
def pairSpoilRow : OpenClaim := { program := "ytpdnapbchcdhlaa", sum := "157683a2c344702fec80853c302f8d2d5070579fd1a3bae63f68fe42074ca6c8", func := "scrubstore/sclaw4.PairSpoil", spec := "pairSpoil", unfollowed := true, recurses := true, apart := false }
def PairSpoilSaid : Prop := pairSpoilRow.holds Try.pinned (OpenSpec.ofChange pairSpoilSpec)

/-- ITS FALSE NEIGHBOUR: 'it returns false'. Refute it at one input. -/
def pairSpoilWrong : ChangeSpec := { name := "pairSpoil", fn := fun _ => fun
  | [d1, d2, d3, d4, d5, d6] => { results := [.lit (.bool false)], args := [d1, d2, d3, d4, d5, d6] }
  | _ => none }
def PairSpoilWrongFalsely : Prop := pairSpoilRow.holds Try.pinned (OpenSpec.ofChange pairSpoilWrong)

/-- 'sclaw5.IndexTells': WHATEVER THE INPUT: true; the input reads as it did. -/
def indexTellsSpec : ChangeSpec := { name := "indexTells", fn := fun _ => fun
  | [d1, d2, d3, d4, d5, d6] => { results := [.lit (.bool true)], args := [d1, d2, d3, d4, d5, d6] }
  | _ => none }
def indexTellsRow : OpenClaim := { program := "ytpdnapbchcdhlaa", sum := "157683a2c344702fec80853c302f8d2d5070579fd1a3bae63f68fe42074ca6c8", func := "scrubstore/sclaw5.IndexTells", spec := "indexTells", unfollowed := true, recurses := true, apart := false }
def IndexTellsSaid : Prop := indexTellsRow.holds Try.pinned (OpenSpec.ofChange indexTellsSpec)

/-- ITS FALSE NEIGHBOUR: 'it returns false'. Refute it at one input. -/
def indexTellsWrong : ChangeSpec := { name := "indexTells", fn := fun _ => fun
  | [d1, d2, d3, d4, d5, d6] => { results := [.lit (.bool false)], args := [d1, d2, d3, d4, d5, d6] }
  | _ => none }
def IndexTellsWrongFalsely : Prop := indexTellsRow.holds Try.pinned (OpenSpec.ofChange indexTellsWrong)

/- THE SECOND FORM. 'bulk': how many values and letters a reading holds, each counted each time it is reached (what is shared counts as often as it is met; a slice's spare places count too). A statement '..UptoSaid' is the law's where the arguments, and the package variables that the reading takes, are together of bulk at most 1048576: NARROWER than '..Said'. Prove '..Said' where nothing that the law and all that it calls make is longer than what came in: it says more and counts as full. Else prove '..UptoSaid'. A law counts once. -/
mutual
def uptoBulk {H : Type} : DataW H → Nat
  | .lit (.string bytes) => bytes.length + 1
  | .lit _ => 1
  | .nil => 1
  | .ptr d => uptoBulk d + 1
  | .slice elems spare => uptoBulkAll elems + uptoBulkAll spare + 1
  | .agg parts => uptoBulkAll parts + 1
  | .iface _ d => uptoBulk d + 1
  | .map entries => uptoBulkEntries entries + 1
  | .held _ => 1
def uptoBulkAll {H : Type} : List (DataW H) → Nat
  | [] => 0
  | d :: r => uptoBulk d + uptoBulkAll r
def uptoBulkEntries {H : Type} : List (Lit × DataW H) → Nat
  | [] => 0
  | x :: r => uptoBulkEntry x + uptoBulkEntries r
def uptoBulkEntry {H : Type} : Lit × DataW H → Nat
  | (.string bytes, d) => bytes.length + uptoBulk d + 1
  | (_, d) => uptoBulk d + 1
 end
def uptoSmall : (H : Type) → List (DataW H) → Bool := fun _ ds => decide (uptoBulkAll ds ≤ 1048576)
def OpenSpec.upto (s : _root_.Go.ChangeSpec) : _root_.Go.OpenSpec := { _root_.Go.OpenSpec.ofChange s with cond := some uptoSmall }

/-- 'sclaw1.SumTells', WHERE WHAT IT READS IS OF BULK AT MOST 1048576: true; the input reads as it did. -/
def sumTellsUptoRow : OpenClaim := { program := "ytpdnapbchcdhlaa", sum := "157683a2c344702fec80853c302f8d2d5070579fd1a3bae63f68fe42074ca6c8", func := "scrubstore/sclaw1.SumTells", spec := "sumTells", apart := false, narrowed := true }
def SumTellsUptoSaid : Prop := sumTellsUptoRow.holds Try.pinned (OpenSpec.upto sumTellsSpec)

/-- 'sclaw1.SumByte', WHERE WHAT IT READS IS OF BULK AT MOST 1048576: true; the input reads as it did. -/
def sumByteUptoRow : OpenClaim := { program := "ytpdnapbchcdhlaa", sum := "157683a2c344702fec80853c302f8d2d5070579fd1a3bae63f68fe42074ca6c8", func := "scrubstore/sclaw1.SumByte", spec := "sumByte", apart := false, narrowed := true }
def SumByteUptoSaid : Prop := sumByteUptoRow.holds Try.pinned (OpenSpec.upto sumByteSpec)

/-- 'sclaw2.BlockTells', WHERE WHAT IT READS IS OF BULK AT MOST 1048576: true; the input reads as it did. -/
def blockTellsUptoRow : OpenClaim := { program := "ytpdnapbchcdhlaa", sum := "157683a2c344702fec80853c302f8d2d5070579fd1a3bae63f68fe42074ca6c8", func := "scrubstore/sclaw2.BlockTells", spec := "blockTells", unfollowed := true, recurses := true, apart := false, narrowed := true }
def BlockTellsUptoSaid : Prop := blockTellsUptoRow.holds Try.pinned (OpenSpec.upto blockTellsSpec)

/-- 'sclaw2.BlockTurns', WHERE WHAT IT READS IS OF BULK AT MOST 1048576: true; the input reads as it did. -/
def blockTurnsUptoRow : OpenClaim := { program := "ytpdnapbchcdhlaa", sum := "157683a2c344702fec80853c302f8d2d5070579fd1a3bae63f68fe42074ca6c8", func := "scrubstore/sclaw2.BlockTurns", spec := "blockTurns", apart := false, narrowed := true }
def BlockTurnsUptoSaid : Prop := blockTurnsUptoRow.holds Try.pinned (OpenSpec.upto blockTurnsSpec)

/-- 'sclaw2.BlockByte', WHERE WHAT IT READS IS OF BULK AT MOST 1048576: true; the input reads as it did. -/
def blockByteUptoRow : OpenClaim := { program := "ytpdnapbchcdhlaa", sum := "157683a2c344702fec80853c302f8d2d5070579fd1a3bae63f68fe42074ca6c8", func := "scrubstore/sclaw2.BlockByte", spec := "blockByte", apart := false, narrowed := true }
def BlockByteUptoSaid : Prop := blockByteUptoRow.holds Try.pinned (OpenSpec.upto blockByteSpec)

/-- 'sclaw3.DiskTells', WHERE WHAT IT READS IS OF BULK AT MOST 1048576: true; the input reads as it did. -/
def diskTellsUptoRow : OpenClaim := { program := "ytpdnapbchcdhlaa", sum := "157683a2c344702fec80853c302f8d2d5070579fd1a3bae63f68fe42074ca6c8", func := "scrubstore/sclaw3.DiskTells", spec := "diskTells", apart := false, narrowed := true }
def DiskTellsUptoSaid : Prop := diskTellsUptoRow.holds Try.pinned (OpenSpec.upto diskTellsSpec)

/-- 'sclaw3.DiskPut', WHERE WHAT IT READS IS OF BULK AT MOST 1048576: true; the input reads as it did. -/
def diskPutUptoRow : OpenClaim := { program := "ytpdnapbchcdhlaa", sum := "157683a2c344702fec80853c302f8d2d5070579fd1a3bae63f68fe42074ca6c8", func := "scrubstore/sclaw3.DiskPut", spec := "diskPut", apart := false, narrowed := true }
def DiskPutUptoSaid : Prop := diskPutUptoRow.holds Try.pinned (OpenSpec.upto diskPutSpec)

/-- 'sclaw3.DiskKeep', WHERE WHAT IT READS IS OF BULK AT MOST 1048576: true; the input reads as it did. -/
def diskKeepUptoRow : OpenClaim := { program := "ytpdnapbchcdhlaa", sum := "157683a2c344702fec80853c302f8d2d5070579fd1a3bae63f68fe42074ca6c8", func := "scrubstore/sclaw3.DiskKeep", spec := "diskKeep", apart := false, narrowed := true }
def DiskKeepUptoSaid : Prop := diskKeepUptoRow.holds Try.pinned (OpenSpec.upto diskKeepSpec)

/-- 'sclaw4.PairTells', WHERE WHAT IT READS IS OF BULK AT MOST 1048576: true; the input reads as it did. -/
def pairTellsUptoRow : OpenClaim := { program := "ytpdnapbchcdhlaa", sum := "157683a2c344702fec80853c302f8d2d5070579fd1a3bae63f68fe42074ca6c8", func := "scrubstore/sclaw4.PairTells", spec := "pairTells", unfollowed := true, recurses := true, apart := false, narrowed := true }
def PairTellsUptoSaid : Prop := pairTellsUptoRow.holds Try.pinned (OpenSpec.upto pairTellsSpec)

/-- 'sclaw4.PairMend', WHERE WHAT IT READS IS OF BULK AT MOST 1048576: true; the input reads as it did. -/
def pairMendUptoRow : OpenClaim := { program := "ytpdnapbchcdhlaa", sum := "157683a2c344702fec80853c302f8d2d5070579fd1a3bae63f68fe42074ca6c8", func := "scrubstore/sclaw4.PairMend", spec := "pairMend", unfollowed := true, recurses := true, apart := false, narrowed := true }
def PairMendUptoSaid : Prop := pairMendUptoRow.holds Try.pinned (OpenSpec.upto pairMendSpec)

/-- 'sclaw4.PairSpoil', WHERE WHAT IT READS IS OF BULK AT MOST 1048576: true; the input reads as it did. -/
def pairSpoilUptoRow : OpenClaim := { program := "ytpdnapbchcdhlaa", sum := "157683a2c344702fec80853c302f8d2d5070579fd1a3bae63f68fe42074ca6c8", func := "scrubstore/sclaw4.PairSpoil", spec := "pairSpoil", unfollowed := true, recurses := true, apart := false, narrowed := true }
def PairSpoilUptoSaid : Prop := pairSpoilUptoRow.holds Try.pinned (OpenSpec.upto pairSpoilSpec)

/-- 'sclaw5.IndexTells', WHERE WHAT IT READS IS OF BULK AT MOST 1048576: true; the input reads as it did. -/
def indexTellsUptoRow : OpenClaim := { program := "ytpdnapbchcdhlaa", sum := "157683a2c344702fec80853c302f8d2d5070579fd1a3bae63f68fe42074ca6c8", func := "scrubstore/sclaw5.IndexTells", spec := "indexTells", unfollowed := true, recurses := true, apart := false, narrowed := true }
def IndexTellsUptoSaid : Prop := indexTellsUptoRow.holds Try.pinned (OpenSpec.upto indexTellsSpec)

end Rows
end Go.Proofs.Ytpdnapbchcdhlaa
