import Derived.Test.YtikhknkpndhakabGreatJSum
import Derived.Lib.SliceRun
set_option maxHeartbeats 8000000
namespace Go.Proofs.YtikhknkpndhakabGreat
set_option maxRecDepth 100000
open Go.RowKit
open Plain Reg
theorem Jp (k y n : Int) (l : List UInt8) (v : Value) (w : World) :
  Calls Tryz.prog 108 #[.agg #[.int .i64 k, .int .i64 y, .int .i64 n, v]] w fun e w' => e = .returned (.bool (Xe ⟨k, y, n, l⟩)) ∧ Zp w w' := by
 go_enter Tryz.func108, Tryz.ntmps108;go_wp2;all_goals go_ret
 all_goals refine ⟨?_, Zd _ _⟩
 all_goals simp_all [Xe]
 all_goals first | omega | (rw [Bool.eq_iff_iff]; simp)
theorem Za8 (k : Int) (w : World) :
  Calls Tryz.prog 109 #[.int .i64 k] w fun e w' => e = .returned (.int .i64 (Yx k)) ∧ w = w' := by
 go_enter Tryz.func109, Tryz.ntmps109;go_wp2;all_goals go_ret
 all_goals simp_all [Yx]
theorem Zk1 (k y n : Int) (l : List UInt8) (v : Value) (w : World) (hk : k < 1 ∨ 3 < k) :
  Calls Tryz.prog 72 #[.agg #[.int .i64 k, .int .i64 y, .int .i64 n, v]] w fun e w' => e = .returned (.int .i64 (Yh ⟨k, y, n, l⟩)) ∧ Zp w w' := by
 have HW : Hid (Yh ⟨k, y, n, l⟩ = 1) := by show Yh _ = 1; unfold Yh; rw [if_pos (by exact hk)]
 have d1 : (k != 1) = true := by simp; omega
 have d2 : (k != 2) = true := by simp; omega
 have d3 : (k != 3) = true := by simp; omega
 go_enter Tryz.func72, Tryz.ntmps72;go_wp2_with fail;go_ret;exact ⟨Xb HW.out.symm, Zd _ _⟩
theorem Zqf (k y n : Int) (l : List UInt8) (v : Value) (w : World) (hk : 1 ≤ k ∧ k ≤ 3) (hv : Bytes w v l) :
  Calls Tryz.prog 72 #[.agg #[.int .i64 k, .int .i64 y, .int .i64 n, v]] w fun e w' => e = .returned (.int .i64 (Yh ⟨k, y, n, l⟩)) ∧ Zp w w' := by
 obtain ⟨ao, cap, rfl, -, -⟩ := Yg hv;clear hv;have HK : Hid (k = 1 ∨ k = 2 ∨ k = 3) := by show _ ∨ _; omega
 have hw : Yh ⟨k, y, n, l⟩ = if Xe ⟨k, y, n, l⟩ = false then 3 else if Yx k < (l.length : Int) then 4 else 0 := by
  unfold Yh; rw [if_neg (by simp; omega)]
 clear hk;cases hr : Xe ⟨k, y, n, l⟩ with
 | false =>
  have HF : Hid (Yh ⟨k, y, n, l⟩ = 3) := by show Yh _ = 3; rw [hw, hr]; rfl
  have HR : Hid (Xe ⟨k, y, n, l⟩ = false) := hr;clear hw hr;rcases HK.out with h | h | h
  all_goals
   first
    | (have d1 : (k != 1) = false := by simp [h])
    | (have d1 : (k != 1) = true := by simp [h]); (have d2 : (k != 2) = false := by simp [h])
    | (have d1 : (k != 1) = true := by simp [h]); (have d2 : (k != 2) = true := by simp [h]); (have d3 : (k != 3) = false := by simp [h])
   clear h;go_enter Tryz.func72, Tryz.ntmps72;go_wp2_with fail;refine (Jp k y n l _ _).mono ?_;rw [HR.out];rintro e w1 ⟨rfl, g1⟩;go_wp2_with fail;go_ret;exact ⟨Xb HF.out.symm, (Zd _ _).trans g1⟩
 | true =>
  have HW : Hid (Yh ⟨k, y, n, l⟩ = if Yx k < (l.length : Int) then 4 else 0) := by show Yh _ = _; rw [hw, hr]; rfl
  have HR : Hid (Xe ⟨k, y, n, l⟩ = true) := hr;clear hw hr;rcases HK.out with h | h | h
  ·have d1 : (k != 1) = false := by simp [h]
   clear h;go_enter Tryz.func72, Tryz.ntmps72;go_wp2_with fail;refine (Jp k y n l _ _).mono ?_;rw [HR.out];rintro e w1 ⟨rfl, g1⟩;have g : Zp w w1 := (Zd _ _).trans g1;have hc0 : w1.cell? ⟨w.heap.size, 0, none⟩ = some (.int .i64 k) := (Below.cell g1 (p := ⟨w.heap.size, 0, none⟩) (by simp)).trans (by simp);have hc3 : w1.cell? ⟨w.heap.size, 3, none⟩ = some (.slice ao l.length cap) := (Below.cell g1 (p := ⟨w.heap.size, 3, none⟩) (by simp)).trans (by simp);clear g1;go_wp2_with fail;refine Z1 [ex (.pointer (some ⟨w.heap.size, 3, none⟩)), ex (.slice ao l.length cap), ex (.int .i64 l.length), ex (.pointer (some ⟨w.heap.size, 0, none⟩)), ex (.int .i64 k), ex (.int .i64 (Yx k)), ex (.bool (decide (Yx k < (l.length : Int)))), ex (.bool (decide (Yx k < (l.length : Int))))] (by kernel_rfl) (by kernel_rfl) ⟨Zh _, Zh _, Zh _, Zh _, Zh _, Zh _, Zh _, Zh _, trivial⟩ ?_ ?_
   ·refine ⟨?_, ?_, ?_, ?_, ?_, ?_, ?_, ?_, trivial⟩
    ·refine Za rfl fun a w' ek ef hg hin => ?_;have e1 : a (.tmp 1) = .pointer (some ⟨w.heap.size, 0, none⟩) := Zs hin 1 rfl;refine Zi ?_ rfl;clear hin hg;go_simp;all_goals go_arith
    ·refine Za rfl fun a w' ek ef hg hin => ?_;have e22 : a (.tmp 22) = _ := Zc hin 0 rfl;have h1 := (Below.cell hg (Zt hc3)).trans hc3;refine Zi ?_ rfl;clear hin hg;go_simp;all_goals go_arith
    ·refine Za rfl fun a w' ek ef hg hin => ?_;have e23 : a (.tmp 23) = _ := Zc hin 1 rfl;refine Zi ?_ rfl;clear hin hg;go_simp;all_goals go_arith
    ·refine Za rfl fun a w' ek ef hg hin => ?_;have e1 : a (.tmp 1) = .pointer (some ⟨w.heap.size, 0, none⟩) := Zs hin 1 rfl;refine Zi ?_ rfl;clear hin hg;go_simp;all_goals go_arith
    ·refine Za rfl fun a w' ek ef hg hin => ?_;have e25 : a (.tmp 25) = _ := Zc hin 3 rfl;have h1 := (Below.cell hg (Zt hc0)).trans hc0;refine Zi ?_ rfl;clear hin hg;go_simp;all_goals go_arith
    ·refine Za rfl fun a w' ek ef hg hin => ?_;have e26 : a (.tmp 26) = _ := Zc hin 4 rfl;refine Yo (f := 109) (args := #[.int .i64 k]) ?_ ((Za8 k w').mono ?_)
     ·clear hin hg;go_simp;all_goals go_arith
     ·rintro e w2 ⟨rfl, rfl⟩;exact ⟨_, rfl, Zp.refl _, rfl⟩
    ·refine Za rfl fun a w' ek ef hg hin => ?_;have e24 : a (.tmp 24) = _ := Zc hin 2 rfl;have e27 : a (.tmp 27) = _ := Zc hin 5 rfl;refine Zi ?_ rfl;clear hin hg;go_simp;all_goals go_arith
    ·refine Za rfl fun a w' ek ef hg hin => ?_;have e : a (.tmp 28) = _ := Zc hin 6 rfl;exact Yp rfl e
   ·intro vs w' hg ht;obtain ⟨q22, q23, q24, q25, q26, q27, q28, q21, -⟩ := ht;have r22 : vs 0 = .pointer (some ⟨w.heap.size, 3, none⟩) := q22;have r23 : vs 1 = .slice ao l.length cap := q23;have r24 : vs 2 = .int .i64 l.length := q24;have r25 : vs 3 = .pointer (some ⟨w.heap.size, 0, none⟩) := q25;have r26 : vs 4 = .int .i64 k := q26;have r27 : vs 5 = .int .i64 (Yx k) := q27;have r28 : vs 6 = .bool (decide (Yx k < (l.length : Int))) := q28;have r21 : vs 7 = .bool (decide (Yx k < (l.length : Int))) := q21;clear q22 q23 q24 q25 q26 q27 q28 q21;simp only [Z9, Act.put, List.setIfInBounds_toArray, List.set_cons_zero, List.set_cons_succ, r22, r23, r24, r25, r26, r27, r28, r21];clear r22 r23 r24 r25 r26 r27 r28 r21;have g2 : Zp w w' := g.trans hg;clear hg g hc0 hc3;by_cases hlt : Yx k < (l.length : Int)
    ·have HF : Hid (Yh ⟨k, y, n, l⟩ = 4) := by show Yh _ = 4; rw [HW.out, if_pos hlt]
     rw [decide_eq_true hlt];clear hlt;go_wp2;go_ret;exact ⟨Xb HF.out.symm, g2⟩
    ·have HF : Hid (Yh ⟨k, y, n, l⟩ = 0) := by show Yh _ = 0; rw [HW.out, if_neg hlt]
     rw [decide_eq_false hlt];clear hlt;go_wp2;go_ret;exact ⟨Xb HF.out.symm, g2⟩
  ·have d1 : (k != 1) = true := by simp [h]
   have d2 : (k != 2) = false := by simp [h]
   clear h;go_enter Tryz.func72, Tryz.ntmps72;go_wp2_with fail;refine (Jp k y n l _ _).mono ?_;rw [HR.out];rintro e w1 ⟨rfl, g1⟩;have g : Zp w w1 := (Zd _ _).trans g1;have hc0 : w1.cell? ⟨w.heap.size, 0, none⟩ = some (.int .i64 k) := (Below.cell g1 (p := ⟨w.heap.size, 0, none⟩) (by simp)).trans (by simp);have hc3 : w1.cell? ⟨w.heap.size, 3, none⟩ = some (.slice ao l.length cap) := (Below.cell g1 (p := ⟨w.heap.size, 3, none⟩) (by simp)).trans (by simp);clear g1;go_wp2_with fail;refine Z1 [ex (.pointer (some ⟨w.heap.size, 3, none⟩)), ex (.slice ao l.length cap), ex (.int .i64 l.length), ex (.pointer (some ⟨w.heap.size, 0, none⟩)), ex (.int .i64 k), ex (.int .i64 (Yx k)), ex (.bool (decide (Yx k < (l.length : Int)))), ex (.bool (decide (Yx k < (l.length : Int))))] (by kernel_rfl) (by kernel_rfl) ⟨Zh _, Zh _, Zh _, Zh _, Zh _, Zh _, Zh _, Zh _, trivial⟩ ?_ ?_
   ·refine ⟨?_, ?_, ?_, ?_, ?_, ?_, ?_, ?_, trivial⟩
    ·refine Za rfl fun a w' ek ef hg hin => ?_;have e1 : a (.tmp 1) = .pointer (some ⟨w.heap.size, 0, none⟩) := Zs hin 1 rfl;refine Zi ?_ rfl;clear hin hg;go_simp;all_goals go_arith
    ·refine Za rfl fun a w' ek ef hg hin => ?_;have e22 : a (.tmp 22) = _ := Zc hin 0 rfl;have h1 := (Below.cell hg (Zt hc3)).trans hc3;refine Zi ?_ rfl;clear hin hg;go_simp;all_goals go_arith
    ·refine Za rfl fun a w' ek ef hg hin => ?_;have e23 : a (.tmp 23) = _ := Zc hin 1 rfl;refine Zi ?_ rfl;clear hin hg;go_simp;all_goals go_arith
    ·refine Za rfl fun a w' ek ef hg hin => ?_;have e1 : a (.tmp 1) = .pointer (some ⟨w.heap.size, 0, none⟩) := Zs hin 1 rfl;refine Zi ?_ rfl;clear hin hg;go_simp;all_goals go_arith
    ·refine Za rfl fun a w' ek ef hg hin => ?_;have e25 : a (.tmp 25) = _ := Zc hin 3 rfl;have h1 := (Below.cell hg (Zt hc0)).trans hc0;refine Zi ?_ rfl;clear hin hg;go_simp;all_goals go_arith
    ·refine Za rfl fun a w' ek ef hg hin => ?_;have e26 : a (.tmp 26) = _ := Zc hin 4 rfl;refine Yo (f := 109) (args := #[.int .i64 k]) ?_ ((Za8 k w').mono ?_)
     ·clear hin hg;go_simp;all_goals go_arith
     ·rintro e w2 ⟨rfl, rfl⟩;exact ⟨_, rfl, Zp.refl _, rfl⟩
    ·refine Za rfl fun a w' ek ef hg hin => ?_;have e24 : a (.tmp 24) = _ := Zc hin 2 rfl;have e27 : a (.tmp 27) = _ := Zc hin 5 rfl;refine Zi ?_ rfl;clear hin hg;go_simp;all_goals go_arith
    ·refine Za rfl fun a w' ek ef hg hin => ?_;have e : a (.tmp 28) = _ := Zc hin 6 rfl;exact Yp rfl e
   ·intro vs w' hg ht;obtain ⟨q22, q23, q24, q25, q26, q27, q28, q21, -⟩ := ht;have r22 : vs 0 = .pointer (some ⟨w.heap.size, 3, none⟩) := q22;have r23 : vs 1 = .slice ao l.length cap := q23;have r24 : vs 2 = .int .i64 l.length := q24;have r25 : vs 3 = .pointer (some ⟨w.heap.size, 0, none⟩) := q25;have r26 : vs 4 = .int .i64 k := q26;have r27 : vs 5 = .int .i64 (Yx k) := q27;have r28 : vs 6 = .bool (decide (Yx k < (l.length : Int))) := q28;have r21 : vs 7 = .bool (decide (Yx k < (l.length : Int))) := q21;clear q22 q23 q24 q25 q26 q27 q28 q21;simp only [Z9, Act.put, List.setIfInBounds_toArray, List.set_cons_zero, List.set_cons_succ, r22, r23, r24, r25, r26, r27, r28, r21];clear r22 r23 r24 r25 r26 r27 r28 r21;have g2 : Zp w w' := g.trans hg;clear hg g hc0 hc3;by_cases hlt : Yx k < (l.length : Int)
    ·have HF : Hid (Yh ⟨k, y, n, l⟩ = 4) := by show Yh _ = 4; rw [HW.out, if_pos hlt]
     rw [decide_eq_true hlt];clear hlt;go_wp2;go_ret;exact ⟨Xb HF.out.symm, g2⟩
    ·have HF : Hid (Yh ⟨k, y, n, l⟩ = 0) := by show Yh _ = 0; rw [HW.out, if_neg hlt]
     rw [decide_eq_false hlt];clear hlt;go_wp2;go_ret;exact ⟨Xb HF.out.symm, g2⟩
  ·have d1 : (k != 1) = true := by simp [h]
   have d2 : (k != 2) = true := by simp [h]
   have d3 : (k != 3) = false := by simp [h]
   clear h;go_enter Tryz.func72, Tryz.ntmps72;go_wp2_with fail;refine (Jp k y n l _ _).mono ?_;rw [HR.out];rintro e w1 ⟨rfl, g1⟩;have g : Zp w w1 := (Zd _ _).trans g1;have hc0 : w1.cell? ⟨w.heap.size, 0, none⟩ = some (.int .i64 k) := (Below.cell g1 (p := ⟨w.heap.size, 0, none⟩) (by simp)).trans (by simp);have hc3 : w1.cell? ⟨w.heap.size, 3, none⟩ = some (.slice ao l.length cap) := (Below.cell g1 (p := ⟨w.heap.size, 3, none⟩) (by simp)).trans (by simp);clear g1;go_wp2_with fail;refine Z1 [ex (.pointer (some ⟨w.heap.size, 3, none⟩)), ex (.slice ao l.length cap), ex (.int .i64 l.length), ex (.pointer (some ⟨w.heap.size, 0, none⟩)), ex (.int .i64 k), ex (.int .i64 (Yx k)), ex (.bool (decide (Yx k < (l.length : Int)))), ex (.bool (decide (Yx k < (l.length : Int))))] (by kernel_rfl) (by kernel_rfl) ⟨Zh _, Zh _, Zh _, Zh _, Zh _, Zh _, Zh _, Zh _, trivial⟩ ?_ ?_
   ·refine ⟨?_, ?_, ?_, ?_, ?_, ?_, ?_, ?_, trivial⟩
    ·refine Za rfl fun a w' ek ef hg hin => ?_;have e1 : a (.tmp 1) = .pointer (some ⟨w.heap.size, 0, none⟩) := Zs hin 1 rfl;refine Zi ?_ rfl;clear hin hg;go_simp;all_goals go_arith
    ·refine Za rfl fun a w' ek ef hg hin => ?_;have e22 : a (.tmp 22) = _ := Zc hin 0 rfl;have h1 := (Below.cell hg (Zt hc3)).trans hc3;refine Zi ?_ rfl;clear hin hg;go_simp;all_goals go_arith
    ·refine Za rfl fun a w' ek ef hg hin => ?_;have e23 : a (.tmp 23) = _ := Zc hin 1 rfl;refine Zi ?_ rfl;clear hin hg;go_simp;all_goals go_arith
    ·refine Za rfl fun a w' ek ef hg hin => ?_;have e1 : a (.tmp 1) = .pointer (some ⟨w.heap.size, 0, none⟩) := Zs hin 1 rfl;refine Zi ?_ rfl;clear hin hg;go_simp;all_goals go_arith
    ·refine Za rfl fun a w' ek ef hg hin => ?_;have e25 : a (.tmp 25) = _ := Zc hin 3 rfl;have h1 := (Below.cell hg (Zt hc0)).trans hc0;refine Zi ?_ rfl;clear hin hg;go_simp;all_goals go_arith
    ·refine Za rfl fun a w' ek ef hg hin => ?_;have e26 : a (.tmp 26) = _ := Zc hin 4 rfl;refine Yo (f := 109) (args := #[.int .i64 k]) ?_ ((Za8 k w').mono ?_)
     ·clear hin hg;go_simp;all_goals go_arith
     ·rintro e w2 ⟨rfl, rfl⟩;exact ⟨_, rfl, Zp.refl _, rfl⟩
    ·refine Za rfl fun a w' ek ef hg hin => ?_;have e24 : a (.tmp 24) = _ := Zc hin 2 rfl;have e27 : a (.tmp 27) = _ := Zc hin 5 rfl;refine Zi ?_ rfl;clear hin hg;go_simp;all_goals go_arith
    ·refine Za rfl fun a w' ek ef hg hin => ?_;have e : a (.tmp 28) = _ := Zc hin 6 rfl;exact Yp rfl e
   ·intro vs w' hg ht;obtain ⟨q22, q23, q24, q25, q26, q27, q28, q21, -⟩ := ht;have r22 : vs 0 = .pointer (some ⟨w.heap.size, 3, none⟩) := q22;have r23 : vs 1 = .slice ao l.length cap := q23;have r24 : vs 2 = .int .i64 l.length := q24;have r25 : vs 3 = .pointer (some ⟨w.heap.size, 0, none⟩) := q25;have r26 : vs 4 = .int .i64 k := q26;have r27 : vs 5 = .int .i64 (Yx k) := q27;have r28 : vs 6 = .bool (decide (Yx k < (l.length : Int))) := q28;have r21 : vs 7 = .bool (decide (Yx k < (l.length : Int))) := q21;clear q22 q23 q24 q25 q26 q27 q28 q21;simp only [Z9, Act.put, List.setIfInBounds_toArray, List.set_cons_zero, List.set_cons_succ, r22, r23, r24, r25, r26, r27, r28, r21];clear r22 r23 r24 r25 r26 r27 r28 r21;have g2 : Zp w w' := g.trans hg;clear hg g hc0 hc3;by_cases hlt : Yx k < (l.length : Int)
    ·have HF : Hid (Yh ⟨k, y, n, l⟩ = 4) := by show Yh _ = 4; rw [HW.out, if_pos hlt]
     rw [decide_eq_true hlt];clear hlt;go_wp2;go_ret;exact ⟨Xb HF.out.symm, g2⟩
    ·have HF : Hid (Yh ⟨k, y, n, l⟩ = 0) := by show Yh _ = 0; rw [HW.out, if_neg hlt]
     rw [decide_eq_false hlt];clear hlt;go_wp2;go_ret;exact ⟨Xb HF.out.symm, g2⟩
theorem Zbm (k y n : Int) (l : List UInt8) (v : Value) (w : World) (hv : Bytes w v l) :
  Calls Tryz.prog 72 #[.agg #[.int .i64 k, .int .i64 y, .int .i64 n, v]] w fun e w' => e = .returned (.int .i64 (Yh ⟨k, y, n, l⟩)) ∧ Zp w w' := by
 by_cases hk : 1 ≤ k ∧ k ≤ 3
 ·exact Zqf k y n l v w hk hv
 ·exact Zk1 k y n l v w (by omega)
theorem md1 : Yx 1 = 0 := rfl
theorem md2 : Yx 2 = 8 := rfl
theorem md3 : Yx 3 = 0 := rfl
theorem Zgs (k y n : Int) (l : List UInt8) (h : k < 1 ∨ 3 < k) : Yh ⟨k, y, n, l⟩ = 1 := by unfold Yh; rw [if_pos (by exact h)]
theorem Ji (k y n : Int) (l : List UInt8) (h : ¬ (k < 1 ∨ 3 < k)) (hr : Xe ⟨k, y, n, l⟩ = false) : Yh ⟨k, y, n, l⟩ = 3 := by unfold Yh; rw [if_neg (by exact h), if_pos hr]
theorem Zai (k y n : Int) (l : List UInt8) (h : ¬ (k < 1 ∨ 3 < k)) (hr : Xe ⟨k, y, n, l⟩ = true) (hm : Yx k < (l.length : Int)) : Yh ⟨k, y, n, l⟩ = 4 := by
 unfold Yh; rw [if_neg (by exact h), if_neg (by rw [hr]; simp), if_pos (by exact hm)]
theorem Zeg (k y n : Int) (l : List UInt8) (h : ¬ (k < 1 ∨ 3 < k)) (hr : Xe ⟨k, y, n, l⟩ = true) (hm : ¬ Yx k < (l.length : Int)) : Yh ⟨k, y, n, l⟩ = 0 := by
 unfold Yh; rw [if_neg (by exact h), if_neg (by rw [hr]; simp), if_neg (by exact hm)]
theorem Ka (y n : Int) (l : List UInt8) : Xe ⟨1, y, n, l⟩ = decide (y = 0 ∧ n = 0) := by simp [Xe]
theorem X2 (k y n : Int) (l : List UInt8) (h : k ≠ 1) : Xe ⟨k, y, n, l⟩ = decide (1 ≤ y ∧ y ≤ 255 ∧ 1 ≤ n ∧ n ≤ 60000) := by unfold Xe; rw [if_neg (by exact h)]
theorem Zlk (k y n : Int) (l : List UInt8) (v : Value) (w : World) (h : k < 1 ∨ 3 < k) :
  Calls Tryz.prog 76 #[.agg #[.int .i64 k, .int .i64 y, .int .i64 n, v]] w fun e w' => e = .returned (.int .i64 (Yh ⟨k, y, n, l⟩)) ∧ Zp w w' := by
 have HW : Hid (Yh ⟨k, y, n, l⟩ = 1) := Zgs k y n l h;rcases h with h | h
 ·go_enter Tryz.func76, Tryz.ntmps76;go_wp2;all_goals go_ret
  all_goals refine ⟨Xb ?_, Zd _ _⟩
  all_goals symm
  exact HW.out
 ·have h' : ¬ k < 1 := by omega
  go_enter Tryz.func76, Tryz.ntmps76;go_wp2;all_goals go_ret
  all_goals refine ⟨Xb ?_, Zd _ _⟩
  all_goals symm
  exact HW.out
theorem Zja (y n : Int) (l : List UInt8) (ao : Option Addr) (cap : Nat) (w : World) :
  Calls Tryz.prog 76 #[.agg #[.int .i64 1, .int .i64 y, .int .i64 n, .slice ao l.length cap]] w fun e w' => e = .returned (.int .i64 (Yh ⟨1, y, n, l⟩)) ∧ Zp w w' := by
 by_cases h0 : l.length = 0
 all_goals
  first | (have d0 : ((l.length : Int) != 0) = false := by simp [h0]; done) | (have d0 : ((l.length : Int) != 0) = true := by simp [h0]; done)
  go_enter Tryz.func76, Tryz.ntmps76;go_wp2;all_goals go_ret
  all_goals refine ⟨Xb ?_, Zd _ _⟩
  all_goals symm
  all_goals first
   | (refine Ji 1 y n l ?_ ?_ <;> first | omega | (rw [Ka]; simp; done) | (rw [Ka]; simp; omega) | (rw [md1]; omega))
   | (refine Zai 1 y n l ?_ ?_ ?_ <;> first | omega | (rw [Ka]; simp; done) | (rw [Ka]; simp; omega) | (rw [md1]; omega))
   | (refine Zeg 1 y n l ?_ ?_ ?_ <;> first | omega | (rw [Ka]; simp; done) | (rw [Ka]; simp; omega) | (rw [md1]; omega))
theorem Zjb (y n : Int) (l : List UInt8) (ao : Option Addr) (cap : Nat) (w : World) :
  Calls Tryz.prog 76 #[.agg #[.int .i64 2, .int .i64 y, .int .i64 n, .slice ao l.length cap]] w fun e w' => e = .returned (.int .i64 (Yh ⟨2, y, n, l⟩)) ∧ Zp w w' := by
 go_enter Tryz.func76, Tryz.ntmps76;go_wp2;all_goals go_ret
 all_goals refine ⟨Xb ?_, Zd _ _⟩
 all_goals symm
 all_goals first
  | (refine Ji 2 y n l ?_ ?_ <;> first | omega | (rw [X2 _ _ _ _ (by omega)]; simp; done) | (rw [X2 _ _ _ _ (by omega)]; simp; omega) | (rw [md2]; omega))
  | (refine Zai 2 y n l ?_ ?_ ?_ <;> first | omega | (rw [X2 _ _ _ _ (by omega)]; simp; done) | (rw [X2 _ _ _ _ (by omega)]; simp; omega) | (rw [md2]; omega))
  | (refine Zeg 2 y n l ?_ ?_ ?_ <;> first | omega | (rw [X2 _ _ _ _ (by omega)]; simp; done) | (rw [X2 _ _ _ _ (by omega)]; simp; omega) | (rw [md2]; omega))
theorem Zi9 (y n : Int) (l : List UInt8) (ao : Option Addr) (cap : Nat) (w : World) :
  Calls Tryz.prog 76 #[.agg #[.int .i64 3, .int .i64 y, .int .i64 n, .slice ao l.length cap]] w fun e w' => e = .returned (.int .i64 (Yh ⟨3, y, n, l⟩)) ∧ Zp w w' := by
 by_cases h0 : l.length = 0
 all_goals
  first | (have d0 : ((l.length : Int) != 0) = false := by simp [h0]; done) | (have d0 : ((l.length : Int) != 0) = true := by simp [h0]; done)
  go_enter Tryz.func76, Tryz.ntmps76;go_wp2;all_goals go_ret
  all_goals refine ⟨Xb ?_, Zd _ _⟩
  all_goals symm
  all_goals first
   | (refine Ji 3 y n l ?_ ?_ <;> first | omega | (rw [X2 _ _ _ _ (by omega)]; simp; done) | (rw [X2 _ _ _ _ (by omega)]; simp; omega) | (rw [md3]; omega))
   | (refine Zai 3 y n l ?_ ?_ ?_ <;> first | omega | (rw [X2 _ _ _ _ (by omega)]; simp; done) | (rw [X2 _ _ _ _ (by omega)]; simp; omega) | (rw [md3]; omega))
   | (refine Zeg 3 y n l ?_ ?_ ?_ <;> first | omega | (rw [X2 _ _ _ _ (by omega)]; simp; done) | (rw [X2 _ _ _ _ (by omega)]; simp; omega) | (rw [md3]; omega))
theorem Zb7 (k y n : Int) (l : List UInt8) (v : Value) (w : World) (hv : Bytes w v l) :
  Calls Tryz.prog 76 #[.agg #[.int .i64 k, .int .i64 y, .int .i64 n, v]] w fun e w' => e = .returned (.int .i64 (Yh ⟨k, y, n, l⟩)) ∧ Zp w w' := by
 obtain ⟨ao, cap, rfl, -, -⟩ := Yg hv;by_cases h : k < 1 ∨ 3 < k
 ·exact Zlk k y n l _ w h
 ·have h3 : k = 1 ∨ k = 2 ∨ k = 3 := by omega
  rcases h3 with rfl | rfl | rfl
  ·exact Zja y n l ao cap w
  ·exact Zjb y n l ao cap w
  ·exact Zi9 y n l ao cap w
theorem Znx {W w1 : World} (hb : Zp W w1) : (∀ b o, b < W.heap.size → w1.cell? ⟨b, o, none⟩ = W.cell? ⟨b, o, none⟩) ∧ (∀ b o, b < W.heap.size → w1.frozen? ⟨b, o, none⟩ = W.frozen? ⟨b, o, none⟩) :=
 ⟨fun b o h => Below.cell hb (p := ⟨b, o, none⟩) h, fun b o h => Below.frozen hb (p := ⟨b, o, none⟩) h⟩
theorem Zy (W : World) (a : Addr) (x : Value) : (W.setCell a x).cell? a = (W.cell? a).map fun _ => x := by
 cases h : W.cell? a with
 | some u => exact World.cell?_setCell_same W a x h
 | none =>
  unfold World.cell? at h ⊢;simp only [World.setCell, Array.getElem?_modify, ↓reduceIte];cases hb : W.heap[a.block]? with
  | none => simp
  | some o =>
   cases o with
   | cells c e f =>
    simp only [hb] at h;simp only [Option.map_some];split at h
    ·simp_all
    ·simp_all
   | _ => simp_all
theorem Xk {a b c d : Prop} (h : a ∨ b) (f : a → c) (g : b → d) : c ∨ d := by
 rcases h with h | h
 ·exact .inl (f h)
 ·exact .inr (g h)
theorem Ye {w : World} {base base' : Nat} {e : TypeId} {size : Nat} {v : Value} {n : Nat} {xs : List Value} (h : w.ownsRow base e size v n xs) (hb : base' ≤ base) : w.ownsRow base' e size v n xs :=
 ⟨h.1, Xk h.2 (fun x => x) fun ⟨g, cap, cur, h1, h2, r⟩ => ⟨g, cap, cur, h1, Nat.le_trans hb h2, r⟩⟩
theorem Xh {w : World} {base : Nat} {e : TypeId} {size : Nat} {v : Value} {n : Nat} {xs : List Value} (h : w.ownsRow base e size v n xs) {a : Addr} (ha : a.block < base) (u : Value) : (w.setCell a u).ownsRow base e size v n xs :=
 ownsRow_setCell_below h ha u
theorem Z3 {w W : World} (h : Zp w W) {a : Addr} (ha : w.heap.size ≤ a.block) (u : Value) : Zp w (W.setCell a u) := Below.setCell h ha u
theorem Z8 {w : World} {base n : Nat} {e : TypeId} {v : Value} {xs : List Value} (h : w.ownsRow base e 1 v n xs) : ∃ ao cap, v = .slice ao n cap := by
 rcases h.2 with ⟨h1, h0⟩ | ⟨g, cap, cur, rfl, hb, _⟩
 ·subst h0; exact ⟨none, 0, h1⟩
 ·exact ⟨_, cap, rfl⟩
theorem Zpv (w : World) :
  Calls Tryz.prog 93 #[.slice none 0 0] w fun e w' => ∃ v', e = .returned v' ∧ w'.ownsRow w.heap.size 5 1 v' 0 [] ∧ Zp w w' := by
 have q := fun (w : World) (a : Option Addr) (n c n' c' : Nat) => Lib.run_eql_slice_nil (P := Tryz.prog) w 23 5 a n c n' c' Tryz.underlying23
 go_enter Tryz.func93, Tryz.ntmps93;go_wp2;go_ret;exact ⟨_, rfl, World.ownsRow_nil _ _ _ _, Zp.refl _⟩
theorem Zmt (l : List UInt8) (ad : Addr) (cap : Nat) (w : World) (hm : l.length ≤ 140737488355328)
  (hcells : ∀ (j : Nat) u, (l.map bv)[j]? = some u → w.cell? (ad.add j) = some u) :
  Calls Tryz.prog 93 #[.slice (some ad) l.length cap] w fun e w' => ∃ v', e = .returned v' ∧ w'.ownsRow w.heap.size 5 1 v' l.length (l.map bv) ∧ Zp w w' := by
 obtain ⟨i0, hif, hz0, hz1, hz2⟩ := info_parts Vz;have ho := Zbu w;have hc1 : ∀ (j : Nat) u, (l.map bv)[j]? = some u → (w.alloc (.cells #[] 5)).cell? (ad.add j) = some u := by
  intro j u hj;have h2 := hcells j u hj;rw [← h2];exact Below.cell (Zd w _) (Zt h2)
 clear hcells;have q := fun (w : World) (a : Option Addr) (n c n' c' : Nat) => Lib.run_eql_slice_nil (P := Tryz.prog) w 23 5 a n c n' c' Tryz.underlying23
 go_enter Tryz.func93, Tryz.ntmps93;go_wp2_with (at_builtin; refine wpList_append_own _ rfl (.tmp 5) (.tmp 6) 23 rfl w.heap.size 5 i0 (.int .u8 0) 1 1 Tryz.underlying23 hif hz0 hz1 hz2 rfl (by decide) (.slice (some ⟨w.heap.size, 0, none⟩) 0 0) 0 [] rfl ho ad l.length cap (l.map bv) rfl (by simp) hc1 (Ja l) (by unfold maxLen; omega) (by omega) (by simp) ?_; intro v2 w2 hown2 hgrow2 _; simp only [Nat.zero_add, List.nil_append] at hown2);have g2 : Zp w w2 := Z7 (Zd w _) hgrow2 (fun k e => by simp [Value.ownBlock] at e; omega);go_ret;exact ⟨_, rfl, hown2, g2⟩
theorem V0 (l : List UInt8) (v : Value) (w : World) (hm : l.length ≤ 140737488355328) (h : Bytes w v l) :
  Calls Tryz.prog 93 #[v] w fun e w' => ∃ v', e = .returned v' ∧ w'.ownsRow w.heap.size 5 1 v' l.length (l.map bv) ∧ Zp w w' := by
 obtain ⟨ao, cap, rfl, hnone, hcells⟩ := Yg h;cases ao with
 | some ad => exact Zmt l ad cap w hm (hcells ad rfl)
 | none =>
  obtain ⟨h1, rfl⟩ := hnone rfl;obtain rfl := List.eq_nil_of_length_eq_zero h1;exact Zpv w
theorem Zcr (k y n : Int) (l : List UInt8) (v : Value) (w : World) (hm : l.length ≤ 140737488355328) (h : Bytes w v l) :
  Calls Tryz.prog 53 #[.agg #[.int .i64 k, .int .i64 y, .int .i64 n, v]] w fun e w' => ∃ v', e = .returned (.agg #[.int .i64 k, .int .i64 y, .int .i64 n, v']) ∧ w'.ownsRow w.heap.size 5 1 v' l.length (l.map bv) ∧ Zp w w' := by
 obtain ⟨ao, cap, rfl, -, -⟩ := Yg h;go_enter Tryz.func53, Tryz.ntmps53;go_wp2_with fail;refine (V0 l _ _ hm (by exact Z2 h (Zv _ _ _))).mono ?_;rintro e w1 ⟨v', rfl, ho, g1⟩;obtain ⟨ao', cap', rfl⟩ := Z8 ho;obtain ⟨hc, hf⟩ := Znx g1;have cs := Zy;clear h;go_wp2_with fail;refine bodyPost_ret (v := .agg #[.int .i64 k, .int .i64 y, .int .i64 n, .slice ao' l.length cap']) (by simp [results, Tryz.results53, go_sem, hc, cs]) rfl ⟨_, rfl, Ye (base := w.heap.size + 2) ?_ (by omega), ?_⟩
 ·replace ho : w1.ownsRow (w.heap.size + 2) 5 1 (.slice ao' l.length cap') l.length (l.map bv) := by simpa using ho
  exact Xh (Xh (Xh (Xh (Xh ho (by simp) _) (by simp) _) (by simp) _) (by simp) _) (by simp) _
 ·exact Z3 (Z3 (Z3 (Z3 (Z3 ((Zv _ _ _).trans g1) (by simp) _) (by simp) _) (by simp) _) (by simp) _) (by simp) _
end Go.Proofs.YtikhknkpndhakabGreat
