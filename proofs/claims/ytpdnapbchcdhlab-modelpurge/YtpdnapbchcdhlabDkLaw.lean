import Derived.Test.YtpdnapbchcdhlabRGet
set_option maxHeartbeats 8000000
namespace Go.Proofs.Ytpdnapbchcdhlab
set_option maxRecDepth 100000
open Plain
def Zb1 (b : List UInt8) (n : Int) (y : Int) : List UInt8 := if 0 ≤ n ∧ n < (b.length : Int) then b.set n.toNat (b.getD n.toNat 0 ^^^ lo y) else b
theorem Xn {α : Type} (l : List α) (i j : Nat) (y x : α) (h : i < l.length) : (l.set j y).getD i x = if j = i then y else l.getD i x := by
 rw [List.getD_eq_getElem?_getD, List.getD_eq_getElem?_getD, List.getElem?_set];by_cases hj : j = i
 ·subst hj; simp [h]
 ·simp [hj]
end Go.Proofs.Ytpdnapbchcdhlab
