import Derived.Test.YtpdnapbchcdhlabJSum
set_option maxHeartbeats 8000000
namespace Go.Proofs.Ytpdnapbchcdhlab
set_option maxRecDepth 100000
open Go.RowKit
open Plain Reg
theorem md1 : Yn 1 = 0 := rfl
theorem md2 : Yn 2 = 8 := rfl
theorem md3 : Yn 3 = 0 := rfl
theorem Vy (k y n : Int) (l : List UInt8) (h : k < 1 ∨ 3 < k) : Yd ⟨k, y, n, l⟩ = 1 := by unfold Yd; rw [if_pos (by exact h)]
theorem Xq (k y n : Int) (l : List UInt8) (h : ¬ (k < 1 ∨ 3 < k)) (hr : Ya ⟨k, y, n, l⟩ = false) : Yd ⟨k, y, n, l⟩ = 3 := by unfold Yd; rw [if_neg (by exact h), if_pos hr]
theorem Xz (k y n : Int) (l : List UInt8) (h : ¬ (k < 1 ∨ 3 < k)) (hr : Ya ⟨k, y, n, l⟩ = true) (hm : Yn k < (l.length : Int)) : Yd ⟨k, y, n, l⟩ = 4 := by
 unfold Yd; rw [if_neg (by exact h), if_neg (by rw [hr]; simp), if_pos (by exact hm)]
theorem Q9 (k y n : Int) (l : List UInt8) (h : ¬ (k < 1 ∨ 3 < k)) (hr : Ya ⟨k, y, n, l⟩ = true) (hm : ¬ Yn k < (l.length : Int)) : Yd ⟨k, y, n, l⟩ = 0 := by
 unfold Yd; rw [if_neg (by exact h), if_neg (by rw [hr]; simp), if_neg (by exact hm)]
theorem Y4 (y n : Int) (l : List UInt8) : Ya ⟨1, y, n, l⟩ = decide (y = 0 ∧ n = 0) := by simp [Ya]
theorem Z8 (k y n : Int) (l : List UInt8) (h : k ≠ 1) : Ya ⟨k, y, n, l⟩ = decide (1 ≤ y ∧ y ≤ 255 ∧ 1 ≤ n ∧ n ≤ 60000) := by unfold Ya; rw [if_neg (by exact h)]
theorem Jf (k y n : Int) (l : List UInt8) (v : Value) (w : World) (h : k < 1 ∨ 3 < k) :
  Calls Try.prog 40 #[.agg #[.int .i64 k, .int .i64 y, .int .i64 n, v]] w fun e w' => e = .returned (.int .i64 (Yd ⟨k, y, n, l⟩)) ∧ Zi w w' := by
 have HW : Hid (Yd ⟨k, y, n, l⟩ = 1) := Vy k y n l h;rcases h with h | h
 ·go_enter Try.func40, Try.ntmps40;go_wp2;all_goals go_ret
  all_goals refine ⟨Yp ?_, Ze _ _⟩
  all_goals symm
  exact HW.out
 ·have h' : ¬ k < 1 := by omega
  go_enter Try.func40, Try.ntmps40;go_wp2;all_goals go_ret
  all_goals refine ⟨Yp ?_, Ze _ _⟩
  all_goals symm
  exact HW.out
theorem Kt (y n : Int) (l : List UInt8) (ao : Option Addr) (cap : Nat) (w : World) :
  Calls Try.prog 40 #[.agg #[.int .i64 1, .int .i64 y, .int .i64 n, .slice ao l.length cap]] w fun e w' => e = .returned (.int .i64 (Yd ⟨1, y, n, l⟩)) ∧ Zi w w' := by
 by_cases h0 : l.length = 0
 all_goals
  first | (have d0 : ((l.length : Int) != 0) = false := by simp [h0]; done) | (have d0 : ((l.length : Int) != 0) = true := by simp [h0]; done)
  go_enter Try.func40, Try.ntmps40;go_wp2;all_goals go_ret
  all_goals refine ⟨Yp ?_, Ze _ _⟩
  all_goals symm
  all_goals first
   | (refine Xq 1 y n l ?_ ?_ <;> first | omega | (rw [Y4]; simp; done) | (rw [Y4]; simp; omega) | (rw [md1]; omega))
   | (refine Xz 1 y n l ?_ ?_ ?_ <;> first | omega | (rw [Y4]; simp; done) | (rw [Y4]; simp; omega) | (rw [md1]; omega))
   | (refine Q9 1 y n l ?_ ?_ ?_ <;> first | omega | (rw [Y4]; simp; done) | (rw [Y4]; simp; omega) | (rw [md1]; omega))
theorem Ku (y n : Int) (l : List UInt8) (ao : Option Addr) (cap : Nat) (w : World) :
  Calls Try.prog 40 #[.agg #[.int .i64 2, .int .i64 y, .int .i64 n, .slice ao l.length cap]] w fun e w' => e = .returned (.int .i64 (Yd ⟨2, y, n, l⟩)) ∧ Zi w w' := by
 go_enter Try.func40, Try.ntmps40;go_wp2;all_goals go_ret
 all_goals refine ⟨Yp ?_, Ze _ _⟩
 all_goals symm
 all_goals first
  | (refine Xq 2 y n l ?_ ?_ <;> first | omega | (rw [Z8 _ _ _ _ (by omega)]; simp; done) | (rw [Z8 _ _ _ _ (by omega)]; simp; omega) | (rw [md2]; omega))
  | (refine Xz 2 y n l ?_ ?_ ?_ <;> first | omega | (rw [Z8 _ _ _ _ (by omega)]; simp; done) | (rw [Z8 _ _ _ _ (by omega)]; simp; omega) | (rw [md2]; omega))
  | (refine Q9 2 y n l ?_ ?_ ?_ <;> first | omega | (rw [Z8 _ _ _ _ (by omega)]; simp; done) | (rw [Z8 _ _ _ _ (by omega)]; simp; omega) | (rw [md2]; omega))
theorem Ks (y n : Int) (l : List UInt8) (ao : Option Addr) (cap : Nat) (w : World) :
  Calls Try.prog 40 #[.agg #[.int .i64 3, .int .i64 y, .int .i64 n, .slice ao l.length cap]] w fun e w' => e = .returned (.int .i64 (Yd ⟨3, y, n, l⟩)) ∧ Zi w w' := by
 by_cases h0 : l.length = 0
 all_goals
  first | (have d0 : ((l.length : Int) != 0) = false := by simp [h0]; done) | (have d0 : ((l.length : Int) != 0) = true := by simp [h0]; done)
  go_enter Try.func40, Try.ntmps40;go_wp2;all_goals go_ret
  all_goals refine ⟨Yp ?_, Ze _ _⟩
  all_goals symm
  all_goals first
   | (refine Xq 3 y n l ?_ ?_ <;> first | omega | (rw [Z8 _ _ _ _ (by omega)]; simp; done) | (rw [Z8 _ _ _ _ (by omega)]; simp; omega) | (rw [md3]; omega))
   | (refine Xz 3 y n l ?_ ?_ ?_ <;> first | omega | (rw [Z8 _ _ _ _ (by omega)]; simp; done) | (rw [Z8 _ _ _ _ (by omega)]; simp; omega) | (rw [md3]; omega))
   | (refine Q9 3 y n l ?_ ?_ ?_ <;> first | omega | (rw [Z8 _ _ _ _ (by omega)]; simp; done) | (rw [Z8 _ _ _ _ (by omega)]; simp; omega) | (rw [md3]; omega))
theorem Jg (k y n : Int) (l : List UInt8) (v : Value) (w : World) (hv : Bytes w v l) :
  Calls Try.prog 40 #[.agg #[.int .i64 k, .int .i64 y, .int .i64 n, v]] w fun e w' => e = .returned (.int .i64 (Yd ⟨k, y, n, l⟩)) ∧ Zi w w' := by
 obtain ⟨ao, cap, rfl, -, -⟩ := Xg hv;by_cases h : k < 1 ∨ 3 < k
 ·exact Jf k y n l _ w h
 ·have h3 : k = 1 ∨ k = 2 ∨ k = 3 := by omega
  rcases h3 with rfl | rfl | rfl
  ·exact Kt y n l ao cap w
  ·exact Ku y n l ao cap w
  ·exact Ks y n l ao cap w
end Go.Proofs.Ytpdnapbchcdhlab
