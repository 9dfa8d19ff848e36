/-
  What a disk is, told of lists: of none of its writes, of some, of all; a block turned; a new disk. No program.
-/
import Derived.Test.YtpfbddhlkckfhabDoorRGet
namespace Go.Proofs.YtpfbddhlkckfhabDoor
set_option maxRecDepth 100000
open Go.Proofs.YtpfbddhlkckfhabDoor.Plain

/-- A byte turned. -/
def turned (b : List UInt8) (n : Int) (y : Int) : List UInt8 := if 0 ≤ n ∧ n < (b.length : Int) then b.set n.toNat (b.getD n.toNat 0 ^^^ lo y) else b
theorem getD_set {α : Type} (l : List α) (i j : Nat) (y x : α) (h : i < l.length) : (l.set j y).getD i x = if j = i then y else l.getD i x := by
  rw [List.getD_eq_getElem?_getD, List.getD_eq_getElem?_getD, List.getElem?_set]
  by_cases hj : j = i
  · subst hj; simp [h]
  · simp [hj]

end Go.Proofs.YtpfbddhlkckfhabDoor
