/-
  No cell of these rows narrows 'for every input' (looked for: loops, veiled, ifaces, maps, wideKeys, modest, calm, conditions, laid).
  DERIVED. THE GIVEN ROWS OF THIS SEAT. 4 by the template 'for every input the law returns true; each argument reads behind the call as it read before'; 0 by the template 'total and deterministic' (their statements: YtljogbielflgdacTotals.lean).
  GIVEN WITH THE SEED: the statements are not yours to turn. If you find one false, say at which input.
  Laid BY PROGRAM, IN A SANDBOX (cutbox-rows.mjs): the forced cells as the released guide's own fill.sh prints them over the translation 7f7c657d952e7e25… (all of the seat's roots in one cut). By AI agents, Wed Nov 11 2026. No macro, syntax, notation, axiom, sorry.
-/
import Derived.Test.YtljogbielflgdacChecked
import GoSem.Claim
import GoSem.ClaimJoined
import GoSem.ClaimMapViews
import Derived.JoinedTies
import Derived.KernelRfl
namespace Go.Proofs.Ytljogbielflgdac
/- THE CELL 'sum', in the pinned program and in every row, IS THE sha256 OF THE DUMP (.gsa) THAT YtljogbielflgdacProg.lean LOADS. Nothing in Lean hashes anything: it is a label: what it is worth is what the hold of that sum in a sandbox is worth. -/
noncomputable def Try.pinned : Pinned := { name := "ytljogbielflgdac", sum := "7f7c657d952e7e25be2a3162e324d1d94acc915432a3f756cafea70b63c4fe35", checked := Try.checked }
namespace Rows
def none {H : Type} : Left H := { results := [], args := [] }

/-- 'sclaw9.ScrubAll': WHATEVER THE INPUT: true; the input reads as it did. -/
def scrubAllSpec : ChangeSpec := { name := "scrubAll", fn := fun _ => fun
  | [d] => { results := [.lit (.bool true)], args := [d] }
  | _ => none }
def scrubAllRow : OpenClaim := { program := "ytljogbielflgdac", sum := "7f7c657d952e7e25be2a3162e324d1d94acc915432a3f756cafea70b63c4fe35", func := "scrubstore/sclaw9.ScrubAll", spec := "scrubAll", unfollowed := true, recurses := true, apart := false }
def ScrubAllSaid : Prop := scrubAllRow.holds Try.pinned (OpenSpec.ofChange scrubAllSpec)

/-- ITS FALSE NEIGHBOUR: 'it returns false'. Refute it at one input. -/
def scrubAllWrong : ChangeSpec := { name := "scrubAll", fn := fun _ => fun
  | [d] => { results := [.lit (.bool false)], args := [d] }
  | _ => none }
def ScrubAllWrongFalsely : Prop := scrubAllRow.holds Try.pinned (OpenSpec.ofChange scrubAllWrong)

/-- 'sclaw10.FsckTells': WHATEVER THE INPUT: true; the input reads as it did. -/
def fsckTellsSpec : ChangeSpec := { name := "fsckTells", fn := fun _ => fun
  | [d1, d2] => { results := [.lit (.bool true)], args := [d1, d2] }
  | _ => none }
def fsckTellsRow : OpenClaim := { program := "ytljogbielflgdac", sum := "7f7c657d952e7e25be2a3162e324d1d94acc915432a3f756cafea70b63c4fe35", func := "scrubstore/sclaw10.FsckTells", spec := "fsckTells", unfollowed := true, recurses := true, apart := false }
def FsckTellsSaid : Prop := fsckTellsRow.holds Try.pinned (OpenSpec.ofChange fsckTellsSpec)

/-- ITS FALSE NEIGHBOUR: 'it returns false'. Refute it at one input. -/
def fsckTellsWrong : ChangeSpec := { name := "fsckTells", fn := fun _ => fun
  | [d1, d2] => { results := [.lit (.bool false)], args := [d1, d2] }
  | _ => none }
def FsckTellsWrongFalsely : Prop := fsckTellsRow.holds Try.pinned (OpenSpec.ofChange fsckTellsWrong)

/-- 'sclaw10.FsckOrder': WHATEVER THE INPUT: true; the input reads as it did. -/
def fsckOrderSpec : ChangeSpec := { name := "fsckOrder", fn := fun _ => fun
  | [d] => { results := [.lit (.bool true)], args := [d] }
  | _ => none }
def fsckOrderRow : OpenClaim := { program := "ytljogbielflgdac", sum := "7f7c657d952e7e25be2a3162e324d1d94acc915432a3f756cafea70b63c4fe35", func := "scrubstore/sclaw10.FsckOrder", spec := "fsckOrder", unfollowed := true, recurses := true, apart := false }
def FsckOrderSaid : Prop := fsckOrderRow.holds Try.pinned (OpenSpec.ofChange fsckOrderSpec)

/-- ITS FALSE NEIGHBOUR: 'it returns false'. Refute it at one input. -/
def fsckOrderWrong : ChangeSpec := { name := "fsckOrder", fn := fun _ => fun
  | [d] => { results := [.lit (.bool false)], args := [d] }
  | _ => none }
def FsckOrderWrongFalsely : Prop := fsckOrderRow.holds Try.pinned (OpenSpec.ofChange fsckOrderWrong)

/-- 'sclaw10.FsckKeeps': WHATEVER THE INPUT: true; the input reads as it did. -/
def fsckKeepsSpec : ChangeSpec := { name := "fsckKeeps", fn := fun _ => fun
  | [d] => { results := [.lit (.bool true)], args := [d] }
  | _ => none }
def fsckKeepsRow : OpenClaim := { program := "ytljogbielflgdac", sum := "7f7c657d952e7e25be2a3162e324d1d94acc915432a3f756cafea70b63c4fe35", func := "scrubstore/sclaw10.FsckKeeps", spec := "fsckKeeps", unfollowed := true, recurses := true, apart := false }
def FsckKeepsSaid : Prop := fsckKeepsRow.holds Try.pinned (OpenSpec.ofChange fsckKeepsSpec)

/-- ITS FALSE NEIGHBOUR: 'it returns false'. Refute it at one input. -/
def fsckKeepsWrong : ChangeSpec := { name := "fsckKeeps", fn := fun _ => fun
  | [d] => { results := [.lit (.bool false)], args := [d] }
  | _ => none }
def FsckKeepsWrongFalsely : Prop := fsckKeepsRow.holds Try.pinned (OpenSpec.ofChange fsckKeepsWrong)

/- THE SECOND FORM. 'bulk': how many values and letters a reading holds, each counted each time it is reached (what is shared counts as often as it is met; a slice's spare places count too). A statement '..UptoSaid' is the law's where the arguments, and the package variables that the reading takes, are together of bulk at most 1048576: NARROWER than '..Said'. Prove '..Said' where nothing that the law and all that it calls make is longer than what came in: it says more and counts as full. Else prove '..UptoSaid'. A law counts once. -/
mutual
def uptoBulk {H : Type} : DataW H → Nat
  | .lit (.string bytes) => bytes.length + 1
  | .lit _ => 1
  | .nil => 1
  | .ptr d => uptoBulk d + 1
  | .slice elems spare => uptoBulkAll elems + uptoBulkAll spare + 1
  | .agg parts => uptoBulkAll parts + 1
  | .iface _ d => uptoBulk d + 1
  | .map entries => uptoBulkEntries entries + 1
  | .held _ => 1
def uptoBulkAll {H : Type} : List (DataW H) → Nat
  | [] => 0
  | d :: r => uptoBulk d + uptoBulkAll r
def uptoBulkEntries {H : Type} : List (Lit × DataW H) → Nat
  | [] => 0
  | x :: r => uptoBulkEntry x + uptoBulkEntries r
def uptoBulkEntry {H : Type} : Lit × DataW H → Nat
  | (.string bytes, d) => bytes.length + uptoBulk d + 1
  | (_, d) => uptoBulk d + 1
 end
def uptoSmall : (H : Type) → List (DataW H) → Bool := fun _ ds => decide (uptoBulkAll ds ≤ 1048576)
def OpenSpec.upto (s : _root_.Go.ChangeSpec) : _root_.Go.OpenSpec := { _root_.Go.OpenSpec.ofChange s with cond := some uptoSmall }

/-- 'sclaw9.ScrubAll', WHERE WHAT IT READS IS OF BULK AT MOST 1048576: true; the input reads as it did. -/
def scrubAllUptoRow : OpenClaim := { program := "ytljogbielflgdac", sum := "7f7c657d952e7e25be2a3162e324d1d94acc915432a3f756cafea70b63c4fe35", func := "scrubstore/sclaw9.ScrubAll", spec := "scrubAll", unfollowed := true, recurses := true, apart := false, narrowed := true }
def ScrubAllUptoSaid : Prop := scrubAllUptoRow.holds Try.pinned (OpenSpec.upto scrubAllSpec)

/-- 'sclaw10.FsckTells', WHERE WHAT IT READS IS OF BULK AT MOST 1048576: true; the input reads as it did. -/
def fsckTellsUptoRow : OpenClaim := { program := "ytljogbielflgdac", sum := "7f7c657d952e7e25be2a3162e324d1d94acc915432a3f756cafea70b63c4fe35", func := "scrubstore/sclaw10.FsckTells", spec := "fsckTells", unfollowed := true, recurses := true, apart := false, narrowed := true }
def FsckTellsUptoSaid : Prop := fsckTellsUptoRow.holds Try.pinned (OpenSpec.upto fsckTellsSpec)

/-- 'sclaw10.FsckOrder', WHERE WHAT IT READS IS OF BULK AT MOST 1048576: true; the input reads as it did. -/
def fsckOrderUptoRow : OpenClaim := { program := "ytljogbielflgdac", sum := "7f7c657d952e7e25be2a3162e324d1d94acc915432a3f756cafea70b63c4fe35", func := "scrubstore/sclaw10.FsckOrder", spec := "fsckOrder", unfollowed := true, recurses := true, apart := false, narrowed := true }
def FsckOrderUptoSaid : Prop := fsckOrderUptoRow.holds Try.pinned (OpenSpec.upto fsckOrderSpec)

/-- 'sclaw10.FsckKeeps', WHERE WHAT IT READS IS OF BULK AT MOST 1048576: true; the input reads as it did. -/
def fsckKeepsUptoRow : OpenClaim := { program := "ytljogbielflgdac", sum := "7f7c657d952e7e25be2a3162e324d1d94acc915432a3f756cafea70b63c4fe35", func := "scrubstore/sclaw10.FsckKeeps", spec := "fsckKeeps", unfollowed := true, recurses := true, apart := false, narrowed := true }
def FsckKeepsUptoSaid : Prop := fsckKeepsUptoRow.holds Try.pinned (OpenSpec.upto fsckKeepsSpec)

end Rows
end Go.Proofs.Ytljogbielflgdac
