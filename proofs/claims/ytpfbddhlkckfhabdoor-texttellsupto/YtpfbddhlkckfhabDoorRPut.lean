/-
  What the document's free and PutPair tell: a disk with both blocks of a pair written.
  Condition: the disk lies in memory, of at most 256 blocks, and the record's data do.
-/
import Derived.Test.YtpfbddhlkckfhabDoorRGet
import Derived.Test.YtpfbddhlkckfhabDoorJReg
namespace Go.Proofs.YtpfbddhlkckfhabDoor
set_option maxRecDepth 100000
open Go.RowKit
open Go.Proofs.YtpfbddhlkckfhabDoor.Plain Go.Proofs.YtpfbddhlkckfhabDoor.Reg

/-- Two cells of a block are written. -/
theorem box_put2 {w : World} {g : Nat} {T : TypeId} {f} {c0 c1 : Value} (h : w.heap[g]? = some (.cells #[c0, c1] T f)) (x0 x1 : Value) :
    ((w.setCell ⟨g, 0, none⟩ x0).setCell ⟨g, 1, none⟩ x1).heap[g]? = some (.cells #[x0, x1] T f) ∧ GrowBut g w ((w.setCell ⟨g, 0, none⟩ x0).setCell ⟨g, 1, none⟩ x1) := by
  refine ⟨?_, ((GrowBut.refl g w).set _ _ _).set _ _ _⟩
  have h1 := heap_set (heap_set h 0 x0) 1 x1
  simpa using h1

end Go.Proofs.YtpfbddhlkckfhabDoor
