/-
  No cell of these rows narrows 'for every input' (looked for: loops, veiled, ifaces, maps, wideKeys, modest, calm, conditions, laid).
  DERIVED. THE GIVEN ROWS OF THIS SEAT. 5 by the template 'for every input the law returns true; each argument reads behind the call as it read before'; 0 by the template 'total and deterministic' (their statements: YtpdnapbchcdhlabTotals.lean).
  GIVEN WITH THE SEED: the statements are not yours to turn. If you find one false, say at which input.
  Laid BY PROGRAM, IN A SANDBOX (cutbox-rows.mjs): the forced cells as the released guide's own fill.sh prints them over the translation b49b90a7091116d4… (all of the seat's roots in one cut). By AI agents, Wed Nov 11 2026. No macro, syntax, notation, axiom, sorry.
-/
import Derived.Test.YtpdnapbchcdhlabChecked
import GoSem.Claim
import GoSem.ClaimJoined
import GoSem.ClaimMapViews
import Derived.JoinedTies
import Derived.KernelRfl
namespace Go.Proofs.Ytpdnapbchcdhlab
/- THE CELL 'sum', in the pinned program and in every row, IS THE sha256 OF THE DUMP (.gsa) THAT YtpdnapbchcdhlabProg.lean LOADS. Nothing in Lean hashes anything: it is a label: what it is worth is what the hold of that sum in a sandbox is worth. -/
noncomputable def Try.pinned : Pinned := { name := "ytpdnapbchcdhlab", sum := "b49b90a7091116d446c2d56b2d15a11c63e562541147f23ede1c8c52d1098122", checked := Try.checked }
namespace Rows
def none {H : Type} : Left H := { results := [], args := [] }

/-- 'sclaw5.IndexScan': WHATEVER THE INPUT: true; the input reads as it did. -/
def indexScanSpec : ChangeSpec := { name := "indexScan", fn := fun _ => fun
  | [d] => { results := [.lit (.bool true)], args := [d] }
  | _ => none }
def indexScanRow : OpenClaim := { program := "ytpdnapbchcdhlab", sum := "b49b90a7091116d446c2d56b2d15a11c63e562541147f23ede1c8c52d1098122", func := "scrubstore/sclaw5.IndexScan", spec := "indexScan", unfollowed := true, recurses := true, apart := false }
def IndexScanSaid : Prop := indexScanRow.holds Try.pinned (OpenSpec.ofChange indexScanSpec)

/-- ITS FALSE NEIGHBOUR: 'it returns false'. Refute it at one input. -/
def indexScanWrong : ChangeSpec := { name := "indexScan", fn := fun _ => fun
  | [d] => { results := [.lit (.bool false)], args := [d] }
  | _ => none }
def IndexScanWrongFalsely : Prop := indexScanRow.holds Try.pinned (OpenSpec.ofChange indexScanWrong)

/-- 'sclaw5.IndexBack': WHATEVER THE INPUT: true; the input reads as it did. -/
def indexBackSpec : ChangeSpec := { name := "indexBack", fn := fun _ => fun
  | [d1, d2] => { results := [.lit (.bool true)], args := [d1, d2] }
  | _ => none }
def indexBackRow : OpenClaim := { program := "ytpdnapbchcdhlab", sum := "b49b90a7091116d446c2d56b2d15a11c63e562541147f23ede1c8c52d1098122", func := "scrubstore/sclaw5.IndexBack", spec := "indexBack", unfollowed := true, recurses := true, apart := false }
def IndexBackSaid : Prop := indexBackRow.holds Try.pinned (OpenSpec.ofChange indexBackSpec)

/-- ITS FALSE NEIGHBOUR: 'it returns false'. Refute it at one input. -/
def indexBackWrong : ChangeSpec := { name := "indexBack", fn := fun _ => fun
  | [d1, d2] => { results := [.lit (.bool false)], args := [d1, d2] }
  | _ => none }
def IndexBackWrongFalsely : Prop := indexBackRow.holds Try.pinned (OpenSpec.ofChange indexBackWrong)

/-- 'sclaw6.ModelTells': WHATEVER THE INPUT: true; the input reads as it did. -/
def modelTellsSpec : ChangeSpec := { name := "modelTells", fn := fun _ => fun
  | [d1, d2, d3, d4] => { results := [.lit (.bool true)], args := [d1, d2, d3, d4] }
  | _ => none }
def modelTellsRow : OpenClaim := { program := "ytpdnapbchcdhlab", sum := "b49b90a7091116d446c2d56b2d15a11c63e562541147f23ede1c8c52d1098122", func := "scrubstore/sclaw6.ModelTells", spec := "modelTells", unfollowed := true, recurses := true, apart := false }
def ModelTellsSaid : Prop := modelTellsRow.holds Try.pinned (OpenSpec.ofChange modelTellsSpec)

/-- ITS FALSE NEIGHBOUR: 'it returns false'. Refute it at one input. -/
def modelTellsWrong : ChangeSpec := { name := "modelTells", fn := fun _ => fun
  | [d1, d2, d3, d4] => { results := [.lit (.bool false)], args := [d1, d2, d3, d4] }
  | _ => none }
def ModelTellsWrongFalsely : Prop := modelTellsRow.holds Try.pinned (OpenSpec.ofChange modelTellsWrong)

/-- 'sclaw6.ModelNew': WHATEVER THE INPUT: true; the input reads as it did. -/
def modelNewSpec : ChangeSpec := { name := "modelNew", fn := fun _ => fun
  | [d1, d2] => { results := [.lit (.bool true)], args := [d1, d2] }
  | _ => none }
def modelNewRow : OpenClaim := { program := "ytpdnapbchcdhlab", sum := "b49b90a7091116d446c2d56b2d15a11c63e562541147f23ede1c8c52d1098122", func := "scrubstore/sclaw6.ModelNew", spec := "modelNew", unfollowed := true, recurses := true, apart := false }
def ModelNewSaid : Prop := modelNewRow.holds Try.pinned (OpenSpec.ofChange modelNewSpec)

/-- ITS FALSE NEIGHBOUR: 'it returns false'. Refute it at one input. -/
def modelNewWrong : ChangeSpec := { name := "modelNew", fn := fun _ => fun
  | [d1, d2] => { results := [.lit (.bool false)], args := [d1, d2] }
  | _ => none }
def ModelNewWrongFalsely : Prop := modelNewRow.holds Try.pinned (OpenSpec.ofChange modelNewWrong)

/-- 'sclaw6.ModelPurge': WHATEVER THE INPUT: true; the input reads as it did. -/
def modelPurgeSpec : ChangeSpec := { name := "modelPurge", fn := fun _ => fun
  | [d1, d2, d3] => { results := [.lit (.bool true)], args := [d1, d2, d3] }
  | _ => none }
def modelPurgeRow : OpenClaim := { program := "ytpdnapbchcdhlab", sum := "b49b90a7091116d446c2d56b2d15a11c63e562541147f23ede1c8c52d1098122", func := "scrubstore/sclaw6.ModelPurge", spec := "modelPurge", unfollowed := true, recurses := true, apart := false }
def ModelPurgeSaid : Prop := modelPurgeRow.holds Try.pinned (OpenSpec.ofChange modelPurgeSpec)

/-- ITS FALSE NEIGHBOUR: 'it returns false'. Refute it at one input. -/
def modelPurgeWrong : ChangeSpec := { name := "modelPurge", fn := fun _ => fun
  | [d1, d2, d3] => { results := [.lit (.bool false)], args := [d1, d2, d3] }
  | _ => none }
def ModelPurgeWrongFalsely : Prop := modelPurgeRow.holds Try.pinned (OpenSpec.ofChange modelPurgeWrong)

/- THE SECOND FORM. 'bulk': how many values and letters a reading holds, each counted each time it is reached (what is shared counts as often as it is met; a slice's spare places count too). A statement '..UptoSaid' is the law's where the arguments, and the package variables that the reading takes, are together of bulk at most 1048576: NARROWER than '..Said'. Prove '..Said' where nothing that the law and all that it calls make is longer than what came in: it says more and counts as full. Else prove '..UptoSaid'. A law counts once. -/
mutual
def uptoBulk {H : Type} : DataW H → Nat
  | .lit (.string bytes) => bytes.length + 1
  | .lit _ => 1
  | .nil => 1
  | .ptr d => uptoBulk d + 1
  | .slice elems spare => uptoBulkAll elems + uptoBulkAll spare + 1
  | .agg parts => uptoBulkAll parts + 1
  | .iface _ d => uptoBulk d + 1
  | .map entries => uptoBulkEntries entries + 1
  | .held _ => 1
def uptoBulkAll {H : Type} : List (DataW H) → Nat
  | [] => 0
  | d :: r => uptoBulk d + uptoBulkAll r
def uptoBulkEntries {H : Type} : List (Lit × DataW H) → Nat
  | [] => 0
  | x :: r => uptoBulkEntry x + uptoBulkEntries r
def uptoBulkEntry {H : Type} : Lit × DataW H → Nat
  | (.string bytes, d) => bytes.length + uptoBulk d + 1
  | (_, d) => uptoBulk d + 1
 end
def uptoSmall : (H : Type) → List (DataW H) → Bool := fun _ ds => decide (uptoBulkAll ds ≤ 1048576)
def OpenSpec.upto (s : _root_.Go.ChangeSpec) : _root_.Go.OpenSpec := { _root_.Go.OpenSpec.ofChange s with cond := some uptoSmall }

/-- 'sclaw5.IndexScan', WHERE WHAT IT READS IS OF BULK AT MOST 1048576: true; the input reads as it did. -/
def indexScanUptoRow : OpenClaim := { program := "ytpdnapbchcdhlab", sum := "b49b90a7091116d446c2d56b2d15a11c63e562541147f23ede1c8c52d1098122", func := "scrubstore/sclaw5.IndexScan", spec := "indexScan", unfollowed := true, recurses := true, apart := false, narrowed := true }
def IndexScanUptoSaid : Prop := indexScanUptoRow.holds Try.pinned (OpenSpec.upto indexScanSpec)

/-- 'sclaw5.IndexBack', WHERE WHAT IT READS IS OF BULK AT MOST 1048576: true; the input reads as it did. -/
def indexBackUptoRow : OpenClaim := { program := "ytpdnapbchcdhlab", sum := "b49b90a7091116d446c2d56b2d15a11c63e562541147f23ede1c8c52d1098122", func := "scrubstore/sclaw5.IndexBack", spec := "indexBack", unfollowed := true, recurses := true, apart := false, narrowed := true }
def IndexBackUptoSaid : Prop := indexBackUptoRow.holds Try.pinned (OpenSpec.upto indexBackSpec)

/-- 'sclaw6.ModelTells', WHERE WHAT IT READS IS OF BULK AT MOST 1048576: true; the input reads as it did. -/
def modelTellsUptoRow : OpenClaim := { program := "ytpdnapbchcdhlab", sum := "b49b90a7091116d446c2d56b2d15a11c63e562541147f23ede1c8c52d1098122", func := "scrubstore/sclaw6.ModelTells", spec := "modelTells", unfollowed := true, recurses := true, apart := false, narrowed := true }
def ModelTellsUptoSaid : Prop := modelTellsUptoRow.holds Try.pinned (OpenSpec.upto modelTellsSpec)

/-- 'sclaw6.ModelNew', WHERE WHAT IT READS IS OF BULK AT MOST 1048576: true; the input reads as it did. -/
def modelNewUptoRow : OpenClaim := { program := "ytpdnapbchcdhlab", sum := "b49b90a7091116d446c2d56b2d15a11c63e562541147f23ede1c8c52d1098122", func := "scrubstore/sclaw6.ModelNew", spec := "modelNew", unfollowed := true, recurses := true, apart := false, narrowed := true }
def ModelNewUptoSaid : Prop := modelNewUptoRow.holds Try.pinned (OpenSpec.upto modelNewSpec)

/-- 'sclaw6.ModelPurge', WHERE WHAT IT READS IS OF BULK AT MOST 1048576: true; the input reads as it did. -/
def modelPurgeUptoRow : OpenClaim := { program := "ytpdnapbchcdhlab", sum := "b49b90a7091116d446c2d56b2d15a11c63e562541147f23ede1c8c52d1098122", func := "scrubstore/sclaw6.ModelPurge", spec := "modelPurge", unfollowed := true, recurses := true, apart := false, narrowed := true }
def ModelPurgeUptoSaid : Prop := modelPurgeUptoRow.holds Try.pinned (OpenSpec.upto modelPurgeSpec)

end Rows
end Go.Proofs.Ytpdnapbchcdhlab
