import Derived.Test.YtljogbielflgdacJSum
set_option maxHeartbeats 8000000
namespace Go.Proofs.Ytljogbielflgdac
set_option maxRecDepth 100000
open Go.RowKit
open Plain Reg
theorem Kp (k y n : Int) (l : List UInt8) (v : Value) (w : World) :
  Calls Try.prog 97 #[.agg #[.int .i64 k, .int .i64 y, .int .i64 n, v]] w fun e w' => e = .returned (.bool (Xg ⟨k, y, n, l⟩)) ∧ Zt w w' := by
 go_enter Try.func97, Try.ntmps97;go_wp2;all_goals go_ret
 all_goals refine ⟨?_, Zd _ _⟩
 all_goals simp_all [Xg]
 all_goals first | omega | (rw [Bool.eq_iff_iff]; simp)
theorem J1 (k : Int) (w : World) :
  Calls Try.prog 98 #[.int .i64 k] w fun e w' => e = .returned (.int .i64 (Yx k)) ∧ w = w' := by
 go_enter Try.func98, Try.ntmps98;go_wp2;all_goals go_ret
 all_goals simp_all [Yx]
theorem Zin (k y n : Int) (l : List UInt8) (v : Value) (w : World) (hk : k < 1 ∨ 3 < k) :
  Calls Try.prog 84 #[.agg #[.int .i64 k, .int .i64 y, .int .i64 n, v]] w fun e w' => e = .returned (.int .i64 (Z5 ⟨k, y, n, l⟩)) ∧ Zt w w' := by
 have HW : Hid (Z5 ⟨k, y, n, l⟩ = 1) := by show Z5 _ = 1; unfold Z5; rw [if_pos (by exact hk)]
 have d1 : (k != 1) = true := by simp; omega
 have d2 : (k != 2) = true := by simp; omega
 have d3 : (k != 3) = true := by simp; omega
 go_enter Try.func84, Try.ntmps84;go_wp2_with fail;go_ret;exact ⟨Xq HW.out.symm, Zd _ _⟩
theorem Zmi (k y n : Int) (l : List UInt8) (v : Value) (w : World) (hk : 1 ≤ k ∧ k ≤ 3) (hv : Bytes w v l) :
  Calls Try.prog 84 #[.agg #[.int .i64 k, .int .i64 y, .int .i64 n, v]] w fun e w' => e = .returned (.int .i64 (Z5 ⟨k, y, n, l⟩)) ∧ Zt w w' := by
 obtain ⟨ao, cap, rfl, -, -⟩ := Z7 hv;clear hv;have HK : Hid (k = 1 ∨ k = 2 ∨ k = 3) := by show _ ∨ _; omega
 have hw : Z5 ⟨k, y, n, l⟩ = if Xg ⟨k, y, n, l⟩ = false then 3 else if Yx k < (l.length : Int) then 4 else 0 := by
  unfold Z5; rw [if_neg (by simp; omega)]
 clear hk;cases hr : Xg ⟨k, y, n, l⟩ with
 | false =>
  have HF : Hid (Z5 ⟨k, y, n, l⟩ = 3) := by show Z5 _ = 3; rw [hw, hr]; rfl
  have HR : Hid (Xg ⟨k, y, n, l⟩ = false) := hr;clear hw hr;rcases HK.out with h | h | h
  all_goals
   first
    | (have d1 : (k != 1) = false := by simp [h])
    | (have d1 : (k != 1) = true := by simp [h]); (have d2 : (k != 2) = false := by simp [h])
    | (have d1 : (k != 1) = true := by simp [h]); (have d2 : (k != 2) = true := by simp [h]); (have d3 : (k != 3) = false := by simp [h])
   clear h;go_enter Try.func84, Try.ntmps84;go_wp2_with fail;refine (Kp k y n l _ _).mono ?_;rw [HR.out];rintro e w1 ⟨rfl, g1⟩;go_wp2_with fail;go_ret;exact ⟨Xq HF.out.symm, (Zd _ _).trans g1⟩
 | true =>
  have HW : Hid (Z5 ⟨k, y, n, l⟩ = if Yx k < (l.length : Int) then 4 else 0) := by show Z5 _ = _; rw [hw, hr]; rfl
  have HR : Hid (Xg ⟨k, y, n, l⟩ = true) := hr;clear hw hr;rcases HK.out with h | h | h
  ·have d1 : (k != 1) = false := by simp [h]
   clear h;go_enter Try.func84, Try.ntmps84;go_wp2_with fail;refine (Kp k y n l _ _).mono ?_;rw [HR.out];rintro e w1 ⟨rfl, g1⟩;have g : Zt w w1 := (Zd _ _).trans g1;have hc0 : w1.cell? ⟨w.heap.size, 0, none⟩ = some (.int .i64 k) := (Below.cell g1 (p := ⟨w.heap.size, 0, none⟩) (by simp)).trans (by simp);have hc3 : w1.cell? ⟨w.heap.size, 3, none⟩ = some (.slice ao l.length cap) := (Below.cell g1 (p := ⟨w.heap.size, 3, none⟩) (by simp)).trans (by simp);clear g1;go_wp2_with fail;refine Z3 [ex (.pointer (some ⟨w.heap.size, 3, none⟩)), ex (.slice ao l.length cap), ex (.int .i64 l.length), ex (.pointer (some ⟨w.heap.size, 0, none⟩)), ex (.int .i64 k), ex (.int .i64 (Yx k)), ex (.bool (decide (Yx k < (l.length : Int)))), ex (.bool (decide (Yx k < (l.length : Int))))] (by kernel_rfl) (by kernel_rfl) ⟨Ze _, Ze _, Ze _, Ze _, Ze _, Ze _, Ze _, Ze _, trivial⟩ ?_ ?_
   ·refine ⟨?_, ?_, ?_, ?_, ?_, ?_, ?_, ?_, trivial⟩
    ·refine Zb rfl fun a w' ek ef hg hin => ?_;have e1 : a (.tmp 1) = .pointer (some ⟨w.heap.size, 0, none⟩) := Zu hin 1 rfl;refine Zj ?_ rfl;clear hin hg;go_simp;all_goals go_arith
    ·refine Zb rfl fun a w' ek ef hg hin => ?_;have e22 : a (.tmp 22) = _ := Zc hin 0 rfl;have h1 := (Below.cell hg (Zo hc3)).trans hc3;refine Zj ?_ rfl;clear hin hg;go_simp;all_goals go_arith
    ·refine Zb rfl fun a w' ek ef hg hin => ?_;have e23 : a (.tmp 23) = _ := Zc hin 1 rfl;refine Zj ?_ rfl;clear hin hg;go_simp;all_goals go_arith
    ·refine Zb rfl fun a w' ek ef hg hin => ?_;have e1 : a (.tmp 1) = .pointer (some ⟨w.heap.size, 0, none⟩) := Zu hin 1 rfl;refine Zj ?_ rfl;clear hin hg;go_simp;all_goals go_arith
    ·refine Zb rfl fun a w' ek ef hg hin => ?_;have e25 : a (.tmp 25) = _ := Zc hin 3 rfl;have h1 := (Below.cell hg (Zo hc0)).trans hc0;refine Zj ?_ rfl;clear hin hg;go_simp;all_goals go_arith
    ·refine Zb rfl fun a w' ek ef hg hin => ?_;have e26 : a (.tmp 26) = _ := Zc hin 4 rfl;refine Yq (f := 98) (args := #[.int .i64 k]) ?_ ((J1 k w').mono ?_)
     ·clear hin hg;go_simp;all_goals go_arith
     ·rintro e w2 ⟨rfl, rfl⟩;exact ⟨_, rfl, Zt.refl _, rfl⟩
    ·refine Zb rfl fun a w' ek ef hg hin => ?_;have e24 : a (.tmp 24) = _ := Zc hin 2 rfl;have e27 : a (.tmp 27) = _ := Zc hin 5 rfl;refine Zj ?_ rfl;clear hin hg;go_simp;all_goals go_arith
    ·refine Zb rfl fun a w' ek ef hg hin => ?_;have e : a (.tmp 28) = _ := Zc hin 6 rfl;exact Y4 rfl e
   ·intro vs w' hg ht;obtain ⟨q22, q23, q24, q25, q26, q27, q28, q21, -⟩ := ht;have r22 : vs 0 = .pointer (some ⟨w.heap.size, 3, none⟩) := q22;have r23 : vs 1 = .slice ao l.length cap := q23;have r24 : vs 2 = .int .i64 l.length := q24;have r25 : vs 3 = .pointer (some ⟨w.heap.size, 0, none⟩) := q25;have r26 : vs 4 = .int .i64 k := q26;have r27 : vs 5 = .int .i64 (Yx k) := q27;have r28 : vs 6 = .bool (decide (Yx k < (l.length : Int))) := q28;have r21 : vs 7 = .bool (decide (Yx k < (l.length : Int))) := q21;clear q22 q23 q24 q25 q26 q27 q28 q21;simp only [Z8, Act.put, List.setIfInBounds_toArray, List.set_cons_zero, List.set_cons_succ, r22, r23, r24, r25, r26, r27, r28, r21];clear r22 r23 r24 r25 r26 r27 r28 r21;have g2 : Zt w w' := g.trans hg;clear hg g hc0 hc3;by_cases hlt : Yx k < (l.length : Int)
    ·have HF : Hid (Z5 ⟨k, y, n, l⟩ = 4) := by show Z5 _ = 4; rw [HW.out, if_pos hlt]
     rw [decide_eq_true hlt];clear hlt;go_wp2;go_ret;exact ⟨Xq HF.out.symm, g2⟩
    ·have HF : Hid (Z5 ⟨k, y, n, l⟩ = 0) := by show Z5 _ = 0; rw [HW.out, if_neg hlt]
     rw [decide_eq_false hlt];clear hlt;go_wp2;go_ret;exact ⟨Xq HF.out.symm, g2⟩
  ·have d1 : (k != 1) = true := by simp [h]
   have d2 : (k != 2) = false := by simp [h]
   clear h;go_enter Try.func84, Try.ntmps84;go_wp2_with fail;refine (Kp k y n l _ _).mono ?_;rw [HR.out];rintro e w1 ⟨rfl, g1⟩;have g : Zt w w1 := (Zd _ _).trans g1;have hc0 : w1.cell? ⟨w.heap.size, 0, none⟩ = some (.int .i64 k) := (Below.cell g1 (p := ⟨w.heap.size, 0, none⟩) (by simp)).trans (by simp);have hc3 : w1.cell? ⟨w.heap.size, 3, none⟩ = some (.slice ao l.length cap) := (Below.cell g1 (p := ⟨w.heap.size, 3, none⟩) (by simp)).trans (by simp);clear g1;go_wp2_with fail;refine Z3 [ex (.pointer (some ⟨w.heap.size, 3, none⟩)), ex (.slice ao l.length cap), ex (.int .i64 l.length), ex (.pointer (some ⟨w.heap.size, 0, none⟩)), ex (.int .i64 k), ex (.int .i64 (Yx k)), ex (.bool (decide (Yx k < (l.length : Int)))), ex (.bool (decide (Yx k < (l.length : Int))))] (by kernel_rfl) (by kernel_rfl) ⟨Ze _, Ze _, Ze _, Ze _, Ze _, Ze _, Ze _, Ze _, trivial⟩ ?_ ?_
   ·refine ⟨?_, ?_, ?_, ?_, ?_, ?_, ?_, ?_, trivial⟩
    ·refine Zb rfl fun a w' ek ef hg hin => ?_;have e1 : a (.tmp 1) = .pointer (some ⟨w.heap.size, 0, none⟩) := Zu hin 1 rfl;refine Zj ?_ rfl;clear hin hg;go_simp;all_goals go_arith
    ·refine Zb rfl fun a w' ek ef hg hin => ?_;have e22 : a (.tmp 22) = _ := Zc hin 0 rfl;have h1 := (Below.cell hg (Zo hc3)).trans hc3;refine Zj ?_ rfl;clear hin hg;go_simp;all_goals go_arith
    ·refine Zb rfl fun a w' ek ef hg hin => ?_;have e23 : a (.tmp 23) = _ := Zc hin 1 rfl;refine Zj ?_ rfl;clear hin hg;go_simp;all_goals go_arith
    ·refine Zb rfl fun a w' ek ef hg hin => ?_;have e1 : a (.tmp 1) = .pointer (some ⟨w.heap.size, 0, none⟩) := Zu hin 1 rfl;refine Zj ?_ rfl;clear hin hg;go_simp;all_goals go_arith
    ·refine Zb rfl fun a w' ek ef hg hin => ?_;have e25 : a (.tmp 25) = _ := Zc hin 3 rfl;have h1 := (Below.cell hg (Zo hc0)).trans hc0;refine Zj ?_ rfl;clear hin hg;go_simp;all_goals go_arith
    ·refine Zb rfl fun a w' ek ef hg hin => ?_;have e26 : a (.tmp 26) = _ := Zc hin 4 rfl;refine Yq (f := 98) (args := #[.int .i64 k]) ?_ ((J1 k w').mono ?_)
     ·clear hin hg;go_simp;all_goals go_arith
     ·rintro e w2 ⟨rfl, rfl⟩;exact ⟨_, rfl, Zt.refl _, rfl⟩
    ·refine Zb rfl fun a w' ek ef hg hin => ?_;have e24 : a (.tmp 24) = _ := Zc hin 2 rfl;have e27 : a (.tmp 27) = _ := Zc hin 5 rfl;refine Zj ?_ rfl;clear hin hg;go_simp;all_goals go_arith
    ·refine Zb rfl fun a w' ek ef hg hin => ?_;have e : a (.tmp 28) = _ := Zc hin 6 rfl;exact Y4 rfl e
   ·intro vs w' hg ht;obtain ⟨q22, q23, q24, q25, q26, q27, q28, q21, -⟩ := ht;have r22 : vs 0 = .pointer (some ⟨w.heap.size, 3, none⟩) := q22;have r23 : vs 1 = .slice ao l.length cap := q23;have r24 : vs 2 = .int .i64 l.length := q24;have r25 : vs 3 = .pointer (some ⟨w.heap.size, 0, none⟩) := q25;have r26 : vs 4 = .int .i64 k := q26;have r27 : vs 5 = .int .i64 (Yx k) := q27;have r28 : vs 6 = .bool (decide (Yx k < (l.length : Int))) := q28;have r21 : vs 7 = .bool (decide (Yx k < (l.length : Int))) := q21;clear q22 q23 q24 q25 q26 q27 q28 q21;simp only [Z8, Act.put, List.setIfInBounds_toArray, List.set_cons_zero, List.set_cons_succ, r22, r23, r24, r25, r26, r27, r28, r21];clear r22 r23 r24 r25 r26 r27 r28 r21;have g2 : Zt w w' := g.trans hg;clear hg g hc0 hc3;by_cases hlt : Yx k < (l.length : Int)
    ·have HF : Hid (Z5 ⟨k, y, n, l⟩ = 4) := by show Z5 _ = 4; rw [HW.out, if_pos hlt]
     rw [decide_eq_true hlt];clear hlt;go_wp2;go_ret;exact ⟨Xq HF.out.symm, g2⟩
    ·have HF : Hid (Z5 ⟨k, y, n, l⟩ = 0) := by show Z5 _ = 0; rw [HW.out, if_neg hlt]
     rw [decide_eq_false hlt];clear hlt;go_wp2;go_ret;exact ⟨Xq HF.out.symm, g2⟩
  ·have d1 : (k != 1) = true := by simp [h]
   have d2 : (k != 2) = true := by simp [h]
   have d3 : (k != 3) = false := by simp [h]
   clear h;go_enter Try.func84, Try.ntmps84;go_wp2_with fail;refine (Kp k y n l _ _).mono ?_;rw [HR.out];rintro e w1 ⟨rfl, g1⟩;have g : Zt w w1 := (Zd _ _).trans g1;have hc0 : w1.cell? ⟨w.heap.size, 0, none⟩ = some (.int .i64 k) := (Below.cell g1 (p := ⟨w.heap.size, 0, none⟩) (by simp)).trans (by simp);have hc3 : w1.cell? ⟨w.heap.size, 3, none⟩ = some (.slice ao l.length cap) := (Below.cell g1 (p := ⟨w.heap.size, 3, none⟩) (by simp)).trans (by simp);clear g1;go_wp2_with fail;refine Z3 [ex (.pointer (some ⟨w.heap.size, 3, none⟩)), ex (.slice ao l.length cap), ex (.int .i64 l.length), ex (.pointer (some ⟨w.heap.size, 0, none⟩)), ex (.int .i64 k), ex (.int .i64 (Yx k)), ex (.bool (decide (Yx k < (l.length : Int)))), ex (.bool (decide (Yx k < (l.length : Int))))] (by kernel_rfl) (by kernel_rfl) ⟨Ze _, Ze _, Ze _, Ze _, Ze _, Ze _, Ze _, Ze _, trivial⟩ ?_ ?_
   ·refine ⟨?_, ?_, ?_, ?_, ?_, ?_, ?_, ?_, trivial⟩
    ·refine Zb rfl fun a w' ek ef hg hin => ?_;have e1 : a (.tmp 1) = .pointer (some ⟨w.heap.size, 0, none⟩) := Zu hin 1 rfl;refine Zj ?_ rfl;clear hin hg;go_simp;all_goals go_arith
    ·refine Zb rfl fun a w' ek ef hg hin => ?_;have e22 : a (.tmp 22) = _ := Zc hin 0 rfl;have h1 := (Below.cell hg (Zo hc3)).trans hc3;refine Zj ?_ rfl;clear hin hg;go_simp;all_goals go_arith
    ·refine Zb rfl fun a w' ek ef hg hin => ?_;have e23 : a (.tmp 23) = _ := Zc hin 1 rfl;refine Zj ?_ rfl;clear hin hg;go_simp;all_goals go_arith
    ·refine Zb rfl fun a w' ek ef hg hin => ?_;have e1 : a (.tmp 1) = .pointer (some ⟨w.heap.size, 0, none⟩) := Zu hin 1 rfl;refine Zj ?_ rfl;clear hin hg;go_simp;all_goals go_arith
    ·refine Zb rfl fun a w' ek ef hg hin => ?_;have e25 : a (.tmp 25) = _ := Zc hin 3 rfl;have h1 := (Below.cell hg (Zo hc0)).trans hc0;refine Zj ?_ rfl;clear hin hg;go_simp;all_goals go_arith
    ·refine Zb rfl fun a w' ek ef hg hin => ?_;have e26 : a (.tmp 26) = _ := Zc hin 4 rfl;refine Yq (f := 98) (args := #[.int .i64 k]) ?_ ((J1 k w').mono ?_)
     ·clear hin hg;go_simp;all_goals go_arith
     ·rintro e w2 ⟨rfl, rfl⟩;exact ⟨_, rfl, Zt.refl _, rfl⟩
    ·refine Zb rfl fun a w' ek ef hg hin => ?_;have e24 : a (.tmp 24) = _ := Zc hin 2 rfl;have e27 : a (.tmp 27) = _ := Zc hin 5 rfl;refine Zj ?_ rfl;clear hin hg;go_simp;all_goals go_arith
    ·refine Zb rfl fun a w' ek ef hg hin => ?_;have e : a (.tmp 28) = _ := Zc hin 6 rfl;exact Y4 rfl e
   ·intro vs w' hg ht;obtain ⟨q22, q23, q24, q25, q26, q27, q28, q21, -⟩ := ht;have r22 : vs 0 = .pointer (some ⟨w.heap.size, 3, none⟩) := q22;have r23 : vs 1 = .slice ao l.length cap := q23;have r24 : vs 2 = .int .i64 l.length := q24;have r25 : vs 3 = .pointer (some ⟨w.heap.size, 0, none⟩) := q25;have r26 : vs 4 = .int .i64 k := q26;have r27 : vs 5 = .int .i64 (Yx k) := q27;have r28 : vs 6 = .bool (decide (Yx k < (l.length : Int))) := q28;have r21 : vs 7 = .bool (decide (Yx k < (l.length : Int))) := q21;clear q22 q23 q24 q25 q26 q27 q28 q21;simp only [Z8, Act.put, List.setIfInBounds_toArray, List.set_cons_zero, List.set_cons_succ, r22, r23, r24, r25, r26, r27, r28, r21];clear r22 r23 r24 r25 r26 r27 r28 r21;have g2 : Zt w w' := g.trans hg;clear hg g hc0 hc3;by_cases hlt : Yx k < (l.length : Int)
    ·have HF : Hid (Z5 ⟨k, y, n, l⟩ = 4) := by show Z5 _ = 4; rw [HW.out, if_pos hlt]
     rw [decide_eq_true hlt];clear hlt;go_wp2;go_ret;exact ⟨Xq HF.out.symm, g2⟩
    ·have HF : Hid (Z5 ⟨k, y, n, l⟩ = 0) := by show Z5 _ = 0; rw [HW.out, if_neg hlt]
     rw [decide_eq_false hlt];clear hlt;go_wp2;go_ret;exact ⟨Xq HF.out.symm, g2⟩
theorem Zae (k y n : Int) (l : List UInt8) (v : Value) (w : World) (hv : Bytes w v l) :
  Calls Try.prog 84 #[.agg #[.int .i64 k, .int .i64 y, .int .i64 n, v]] w fun e w' => e = .returned (.int .i64 (Z5 ⟨k, y, n, l⟩)) ∧ Zt w w' := by
 by_cases hk : 1 ≤ k ∧ k ≤ 3
 ·exact Zmi k y n l v w hk hv
 ·exact Zin k y n l v w (by omega)
theorem md1 : Yx 1 = 0 := rfl
theorem md2 : Yx 2 = 8 := rfl
theorem md3 : Yx 3 = 0 := rfl
theorem Zk6 (k y n : Int) (l : List UInt8) (h : k < 1 ∨ 3 < k) : Z5 ⟨k, y, n, l⟩ = 1 := by unfold Z5; rw [if_pos (by exact h)]
theorem Jv (k y n : Int) (l : List UInt8) (h : ¬ (k < 1 ∨ 3 < k)) (hr : Xg ⟨k, y, n, l⟩ = false) : Z5 ⟨k, y, n, l⟩ = 3 := by unfold Z5; rw [if_neg (by exact h), if_pos hr]
theorem Za6 (k y n : Int) (l : List UInt8) (h : ¬ (k < 1 ∨ 3 < k)) (hr : Xg ⟨k, y, n, l⟩ = true) (hm : Yx k < (l.length : Int)) : Z5 ⟨k, y, n, l⟩ = 4 := by
 unfold Z5; rw [if_neg (by exact h), if_neg (by rw [hr]; simp), if_pos (by exact hm)]
theorem Zc8 (k y n : Int) (l : List UInt8) (h : ¬ (k < 1 ∨ 3 < k)) (hr : Xg ⟨k, y, n, l⟩ = true) (hm : ¬ Yx k < (l.length : Int)) : Z5 ⟨k, y, n, l⟩ = 0 := by
 unfold Z5; rw [if_neg (by exact h), if_neg (by rw [hr]; simp), if_neg (by exact hm)]
theorem Vi (y n : Int) (l : List UInt8) : Xg ⟨1, y, n, l⟩ = decide (y = 0 ∧ n = 0) := by simp [Xg]
theorem X0 (k y n : Int) (l : List UInt8) (h : k ≠ 1) : Xg ⟨k, y, n, l⟩ = decide (1 ≤ y ∧ y ≤ 255 ∧ 1 ≤ n ∧ n ≤ 60000) := by unfold Xg; rw [if_neg (by exact h)]
theorem Ziy (k y n : Int) (l : List UInt8) (v : Value) (w : World) (h : k < 1 ∨ 3 < k) :
  Calls Try.prog 65 #[.agg #[.int .i64 k, .int .i64 y, .int .i64 n, v]] w fun e w' => e = .returned (.int .i64 (Z5 ⟨k, y, n, l⟩)) ∧ Zt w w' := by
 have HW : Hid (Z5 ⟨k, y, n, l⟩ = 1) := Zk6 k y n l h;rcases h with h | h
 ·go_enter Try.func65, Try.ntmps65;go_wp2;all_goals go_ret
  all_goals refine ⟨Xq ?_, Zd _ _⟩
  all_goals symm
  exact HW.out
 ·have h' : ¬ k < 1 := by omega
  go_enter Try.func65, Try.ntmps65;go_wp2;all_goals go_ret
  all_goals refine ⟨Xq ?_, Zd _ _⟩
  all_goals symm
  exact HW.out
theorem Zg4 (y n : Int) (l : List UInt8) (ao : Option Addr) (cap : Nat) (w : World) :
  Calls Try.prog 65 #[.agg #[.int .i64 1, .int .i64 y, .int .i64 n, .slice ao l.length cap]] w fun e w' => e = .returned (.int .i64 (Z5 ⟨1, y, n, l⟩)) ∧ Zt w w' := by
 by_cases h0 : l.length = 0
 all_goals
  first | (have d0 : ((l.length : Int) != 0) = false := by simp [h0]; done) | (have d0 : ((l.length : Int) != 0) = true := by simp [h0]; done)
  go_enter Try.func65, Try.ntmps65;go_wp2;all_goals go_ret
  all_goals refine ⟨Xq ?_, Zd _ _⟩
  all_goals symm
  all_goals first
   | (refine Jv 1 y n l ?_ ?_ <;> first | omega | (rw [Vi]; simp; done) | (rw [Vi]; simp; omega) | (rw [md1]; omega))
   | (refine Za6 1 y n l ?_ ?_ ?_ <;> first | omega | (rw [Vi]; simp; done) | (rw [Vi]; simp; omega) | (rw [md1]; omega))
   | (refine Zc8 1 y n l ?_ ?_ ?_ <;> first | omega | (rw [Vi]; simp; done) | (rw [Vi]; simp; omega) | (rw [md1]; omega))
theorem Zg5 (y n : Int) (l : List UInt8) (ao : Option Addr) (cap : Nat) (w : World) :
  Calls Try.prog 65 #[.agg #[.int .i64 2, .int .i64 y, .int .i64 n, .slice ao l.length cap]] w fun e w' => e = .returned (.int .i64 (Z5 ⟨2, y, n, l⟩)) ∧ Zt w w' := by
 go_enter Try.func65, Try.ntmps65;go_wp2;all_goals go_ret
 all_goals refine ⟨Xq ?_, Zd _ _⟩
 all_goals symm
 all_goals first
  | (refine Jv 2 y n l ?_ ?_ <;> first | omega | (rw [X0 _ _ _ _ (by omega)]; simp; done) | (rw [X0 _ _ _ _ (by omega)]; simp; omega) | (rw [md2]; omega))
  | (refine Za6 2 y n l ?_ ?_ ?_ <;> first | omega | (rw [X0 _ _ _ _ (by omega)]; simp; done) | (rw [X0 _ _ _ _ (by omega)]; simp; omega) | (rw [md2]; omega))
  | (refine Zc8 2 y n l ?_ ?_ ?_ <;> first | omega | (rw [X0 _ _ _ _ (by omega)]; simp; done) | (rw [X0 _ _ _ _ (by omega)]; simp; omega) | (rw [md2]; omega))
theorem Zg3 (y n : Int) (l : List UInt8) (ao : Option Addr) (cap : Nat) (w : World) :
  Calls Try.prog 65 #[.agg #[.int .i64 3, .int .i64 y, .int .i64 n, .slice ao l.length cap]] w fun e w' => e = .returned (.int .i64 (Z5 ⟨3, y, n, l⟩)) ∧ Zt w w' := by
 by_cases h0 : l.length = 0
 all_goals
  first | (have d0 : ((l.length : Int) != 0) = false := by simp [h0]; done) | (have d0 : ((l.length : Int) != 0) = true := by simp [h0]; done)
  go_enter Try.func65, Try.ntmps65;go_wp2;all_goals go_ret
  all_goals refine ⟨Xq ?_, Zd _ _⟩
  all_goals symm
  all_goals first
   | (refine Jv 3 y n l ?_ ?_ <;> first | omega | (rw [X0 _ _ _ _ (by omega)]; simp; done) | (rw [X0 _ _ _ _ (by omega)]; simp; omega) | (rw [md3]; omega))
   | (refine Za6 3 y n l ?_ ?_ ?_ <;> first | omega | (rw [X0 _ _ _ _ (by omega)]; simp; done) | (rw [X0 _ _ _ _ (by omega)]; simp; omega) | (rw [md3]; omega))
   | (refine Zc8 3 y n l ?_ ?_ ?_ <;> first | omega | (rw [X0 _ _ _ _ (by omega)]; simp; done) | (rw [X0 _ _ _ _ (by omega)]; simp; omega) | (rw [md3]; omega))
theorem Za8 (k y n : Int) (l : List UInt8) (v : Value) (w : World) (hv : Bytes w v l) :
  Calls Try.prog 65 #[.agg #[.int .i64 k, .int .i64 y, .int .i64 n, v]] w fun e w' => e = .returned (.int .i64 (Z5 ⟨k, y, n, l⟩)) ∧ Zt w w' := by
 obtain ⟨ao, cap, rfl, -, -⟩ := Z7 hv;by_cases h : k < 1 ∨ 3 < k
 ·exact Ziy k y n l _ w h
 ·have h3 : k = 1 ∨ k = 2 ∨ k = 3 := by omega
  rcases h3 with rfl | rfl | rfl
  ·exact Zg4 y n l ao cap w
  ·exact Zg5 y n l ao cap w
  ·exact Zg3 y n l ao cap w
end Go.Proofs.Ytljogbielflgdac
