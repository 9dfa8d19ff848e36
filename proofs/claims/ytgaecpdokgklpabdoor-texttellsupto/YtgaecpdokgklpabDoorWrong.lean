/-
  What block.Wrong and the document's Wrong tell of any record: the number of what is wrong with it.
  Condition: the record's data lie in memory.
-/
import Derived.Test.YtgaecpdokgklpabDoorJSum
namespace Go.Proofs.YtgaecpdokgklpabDoor
set_option maxRecDepth 100000
open Go.RowKit
open Go.Proofs.YtgaecpdokgklpabDoor.Plain Go.Proofs.YtgaecpdokgklpabDoor.Reg

theorem md1 : maxData 1 = 0 := rfl
theorem md2 : maxData 2 = 8 := rfl
theorem md3 : maxData 3 = 0 := rfl
theorem wrong_out (k y n : Int) (l : List UInt8) (h : k < 1 ∨ 3 < k) : wrong ⟨k, y, n, l⟩ = 1 := by unfold wrong; rw [if_pos (by exact h)]
theorem wrong_range (k y n : Int) (l : List UInt8) (h : ¬ (k < 1 ∨ 3 < k)) (hr : inRangeB ⟨k, y, n, l⟩ = false) : wrong ⟨k, y, n, l⟩ = 3 := by unfold wrong; rw [if_neg (by exact h), if_pos hr]
theorem wrong_much (k y n : Int) (l : List UInt8) (h : ¬ (k < 1 ∨ 3 < k)) (hr : inRangeB ⟨k, y, n, l⟩ = true) (hm : maxData k < (l.length : Int)) : wrong ⟨k, y, n, l⟩ = 4 := by
 unfold wrong; rw [if_neg (by exact h), if_neg (by rw [hr]; simp), if_pos (by exact hm)]
theorem wrong_ok (k y n : Int) (l : List UInt8) (h : ¬ (k < 1 ∨ 3 < k)) (hr : inRangeB ⟨k, y, n, l⟩ = true) (hm : ¬ maxData k < (l.length : Int)) : wrong ⟨k, y, n, l⟩ = 0 := by
 unfold wrong; rw [if_neg (by exact h), if_neg (by rw [hr]; simp), if_neg (by exact hm)]
theorem range_free (y n : Int) (l : List UInt8) : inRangeB ⟨1, y, n, l⟩ = decide (y = 0 ∧ n = 0) := by simp [inRangeB]
theorem range_some (k y n : Int) (l : List UInt8) (h : k ≠ 1) : inRangeB ⟨k, y, n, l⟩ = decide (1 ≤ y ∧ y ≤ 255 ∧ 1 ≤ n ∧ n ≤ 60000) := by unfold inRangeB; rw [if_neg (by exact h)]

end Go.Proofs.YtgaecpdokgklpabDoor
