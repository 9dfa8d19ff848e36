import Derived.Test.YtpdnapbchcdhlacGreatJSum
import Derived.Lib.SliceRun
set_option maxHeartbeats 8000000
namespace Go.Proofs.YtpdnapbchcdhlacGreat
set_option maxRecDepth 100000
open Go.RowKit
open Plain Reg
theorem Jj (k y n : Int) (l : List UInt8) (v : Value) (w : World) :
  Calls Tryz.prog 136 #[.agg #[.int .i64 k, .int .i64 y, .int .i64 n, v]] w fun e w' => e = .returned (.bool (Xc ⟨k, y, n, l⟩)) ∧ Zl w w' := by
 go_enter Tryz.func136, Tryz.ntmps136;go_wp2;all_goals go_ret
 all_goals refine ⟨?_, Zb _ _⟩
 all_goals simp_all [Xc]
 all_goals first | omega | (rw [Bool.eq_iff_iff]; simp)
theorem Za0 (k : Int) (w : World) :
  Calls Tryz.prog 137 #[.int .i64 k] w fun e w' => e = .returned (.int .i64 (Xa k)) ∧ w = w' := by
 go_enter Tryz.func137, Tryz.ntmps137;go_wp2;all_goals go_ret
 all_goals simp_all [Xa]
theorem Zld (k y n : Int) (l : List UInt8) (v : Value) (w : World) (hk : k < 1 ∨ 3 < k) :
  Calls Tryz.prog 105 #[.agg #[.int .i64 k, .int .i64 y, .int .i64 n, v]] w fun e w' => e = .returned (.int .i64 (Z3 ⟨k, y, n, l⟩)) ∧ Zl w w' := by
 have HW : Hid (Z3 ⟨k, y, n, l⟩ = 1) := by show Z3 _ = 1; unfold Z3; rw [if_pos (by exact hk)]
 have d1 : (k != 1) = true := by simp; omega
 have d2 : (k != 2) = true := by simp; omega
 have d3 : (k != 3) = true := by simp; omega
 go_enter Tryz.func105, Tryz.ntmps105;go_wp2_with fail;go_ret;exact ⟨Xe HW.out.symm, Zb _ _⟩
theorem Zq1 (k y n : Int) (l : List UInt8) (v : Value) (w : World) (hk : 1 ≤ k ∧ k ≤ 3) (hv : Bytes w v l) :
  Calls Tryz.prog 105 #[.agg #[.int .i64 k, .int .i64 y, .int .i64 n, v]] w fun e w' => e = .returned (.int .i64 (Z3 ⟨k, y, n, l⟩)) ∧ Zl w w' := by
 obtain ⟨ao, cap, rfl, -, -⟩ := Yo hv;clear hv;have HK : Hid (k = 1 ∨ k = 2 ∨ k = 3) := by show _ ∨ _; omega
 have hw : Z3 ⟨k, y, n, l⟩ = if Xc ⟨k, y, n, l⟩ = false then 3 else if Xa k < (l.length : Int) then 4 else 0 := by
  unfold Z3; rw [if_neg (by simp; omega)]
 clear hk;cases hr : Xc ⟨k, y, n, l⟩ with
 | false =>
  have HF : Hid (Z3 ⟨k, y, n, l⟩ = 3) := by show Z3 _ = 3; rw [hw, hr]; rfl
  have HR : Hid (Xc ⟨k, y, n, l⟩ = false) := hr;clear hw hr;rcases HK.out with h | h | h
  all_goals
   first
    | (have d1 : (k != 1) = false := by simp [h])
    | (have d1 : (k != 1) = true := by simp [h]); (have d2 : (k != 2) = false := by simp [h])
    | (have d1 : (k != 1) = true := by simp [h]); (have d2 : (k != 2) = true := by simp [h]); (have d3 : (k != 3) = false := by simp [h])
   clear h;go_enter Tryz.func105, Tryz.ntmps105;go_wp2_with fail;refine (Jj k y n l _ _).mono ?_;rw [HR.out];rintro e w1 ⟨rfl, g1⟩;go_wp2_with fail;go_ret;exact ⟨Xe HF.out.symm, (Zb _ _).trans g1⟩
 | true =>
  have HW : Hid (Z3 ⟨k, y, n, l⟩ = if Xa k < (l.length : Int) then 4 else 0) := by show Z3 _ = _; rw [hw, hr]; rfl
  have HR : Hid (Xc ⟨k, y, n, l⟩ = true) := hr;clear hw hr;rcases HK.out with h | h | h
  ·have d1 : (k != 1) = false := by simp [h]
   clear h;go_enter Tryz.func105, Tryz.ntmps105;go_wp2_with fail;refine (Jj k y n l _ _).mono ?_;rw [HR.out];rintro e w1 ⟨rfl, g1⟩;have g : Zl w w1 := (Zb _ _).trans g1;have hc0 : w1.cell? ⟨w.heap.size, 0, none⟩ = some (.int .i64 k) := (Below.cell g1 (p := ⟨w.heap.size, 0, none⟩) (by simp)).trans (by simp);have hc3 : w1.cell? ⟨w.heap.size, 3, none⟩ = some (.slice ao l.length cap) := (Below.cell g1 (p := ⟨w.heap.size, 3, none⟩) (by simp)).trans (by simp);clear g1;go_wp2_with fail;refine Z9 [ex (.pointer (some ⟨w.heap.size, 3, none⟩)), ex (.slice ao l.length cap), ex (.int .i64 l.length), ex (.pointer (some ⟨w.heap.size, 0, none⟩)), ex (.int .i64 k), ex (.int .i64 (Xa k)), ex (.bool (decide (Xa k < (l.length : Int)))), ex (.bool (decide (Xa k < (l.length : Int))))] (by kernel_rfl) (by kernel_rfl) ⟨Zj _, Zj _, Zj _, Zj _, Zj _, Zj _, Zj _, Zj _, trivial⟩ ?_ ?_
   ·refine ⟨?_, ?_, ?_, ?_, ?_, ?_, ?_, ?_, trivial⟩
    ·refine Ze rfl fun a _ _ _ B A => ?_;have e1 : a (.tmp 1) = .pointer (some ⟨w.heap.size, 0, none⟩) := Zy A 1 rfl;refine Zn ?_ rfl;clear A B;go_simp;all_goals go_arith
    ·refine Ze rfl fun a _ _ _ B A => ?_;have e22 : a (.tmp 22) = _ := Zg A 0 rfl;have h1 := (Below.cell B (Zs hc3)).trans hc3;refine Zn ?_ rfl;clear A B;go_simp;all_goals go_arith
    ·refine Ze rfl fun a _ _ _ B A => ?_;have e23 : a (.tmp 23) = _ := Zg A 1 rfl;refine Zn ?_ rfl;clear A B;go_simp;all_goals go_arith
    ·refine Ze rfl fun a _ _ _ B A => ?_;have e1 : a (.tmp 1) = .pointer (some ⟨w.heap.size, 0, none⟩) := Zy A 1 rfl;refine Zn ?_ rfl;clear A B;go_simp;all_goals go_arith
    ·refine Ze rfl fun a _ _ _ B A => ?_;have e25 : a (.tmp 25) = _ := Zg A 3 rfl;have h1 := (Below.cell B (Zs hc0)).trans hc0;refine Zn ?_ rfl;clear A B;go_simp;all_goals go_arith
    ·refine Ze rfl fun a B _ _ C A => ?_;have e26 : a (.tmp 26) = _ := Zg A 4 rfl;refine Y0 (f := 137) (args := #[.int .i64 k]) ?_ ((Za0 k B).mono ?_)
     ·clear A C;go_simp;all_goals go_arith
     ·rintro e w2 ⟨rfl, rfl⟩;exact ⟨_, rfl, Zl.refl _, rfl⟩
    ·refine Ze rfl fun a _ _ _ B A => ?_;have e24 : a (.tmp 24) = _ := Zg A 2 rfl;have e27 : a (.tmp 27) = _ := Zg A 5 rfl;refine Zn ?_ rfl;clear A B;go_simp;all_goals go_arith
    ·exact Ze rfl fun a _ _ _ _ A => Yz rfl (Zg A 6 rfl)
   ·intro vs w' hg ht;obtain ⟨q22, q23, q24, q25, q26, q27, q28, q21, -⟩ := ht;have r22 : vs 0 = _ := q22;have r23 : vs 1 = _ := q23;have r24 : vs 2 = _ := q24;have r25 : vs 3 = _ := q25;have r26 : vs 4 = _ := q26;have r27 : vs 5 = _ := q27;have r28 : vs 6 = _ := q28;have r21 : vs 7 = _ := q21;clear q22 q23 q24 q25 q26 q27 q28 q21;simp only [Ye, Act.put, List.setIfInBounds_toArray, List.set_cons_zero, List.set_cons_succ, r22, r23, r24, r25, r26, r27, r28, r21];clear r22 r23 r24 r25 r26 r27 r28 r21;have g2 : Zl w w' := g.trans hg;clear hg g hc0 hc3;by_cases hlt : Xa k < (l.length : Int)
    ·have HF : Hid (Z3 ⟨k, y, n, l⟩ = 4) := by show Z3 _ = 4; rw [HW.out, if_pos hlt]
     rw [decide_eq_true hlt];clear hlt;go_wp2;go_ret;exact ⟨Xe HF.out.symm, g2⟩
    ·have HF : Hid (Z3 ⟨k, y, n, l⟩ = 0) := by show Z3 _ = 0; rw [HW.out, if_neg hlt]
     rw [decide_eq_false hlt];clear hlt;go_wp2;go_ret;exact ⟨Xe HF.out.symm, g2⟩
  ·have d1 : (k != 1) = true := by simp [h]
   have d2 : (k != 2) = false := by simp [h]
   clear h;go_enter Tryz.func105, Tryz.ntmps105;go_wp2_with fail;refine (Jj k y n l _ _).mono ?_;rw [HR.out];rintro e w1 ⟨rfl, g1⟩;have g : Zl w w1 := (Zb _ _).trans g1;have hc0 : w1.cell? ⟨w.heap.size, 0, none⟩ = some (.int .i64 k) := (Below.cell g1 (p := ⟨w.heap.size, 0, none⟩) (by simp)).trans (by simp);have hc3 : w1.cell? ⟨w.heap.size, 3, none⟩ = some (.slice ao l.length cap) := (Below.cell g1 (p := ⟨w.heap.size, 3, none⟩) (by simp)).trans (by simp);clear g1;go_wp2_with fail;refine Z9 [ex (.pointer (some ⟨w.heap.size, 3, none⟩)), ex (.slice ao l.length cap), ex (.int .i64 l.length), ex (.pointer (some ⟨w.heap.size, 0, none⟩)), ex (.int .i64 k), ex (.int .i64 (Xa k)), ex (.bool (decide (Xa k < (l.length : Int)))), ex (.bool (decide (Xa k < (l.length : Int))))] (by kernel_rfl) (by kernel_rfl) ⟨Zj _, Zj _, Zj _, Zj _, Zj _, Zj _, Zj _, Zj _, trivial⟩ ?_ ?_
   ·refine ⟨?_, ?_, ?_, ?_, ?_, ?_, ?_, ?_, trivial⟩
    ·refine Ze rfl fun a _ _ _ B A => ?_;have e1 : a (.tmp 1) = .pointer (some ⟨w.heap.size, 0, none⟩) := Zy A 1 rfl;refine Zn ?_ rfl;clear A B;go_simp;all_goals go_arith
    ·refine Ze rfl fun a _ _ _ B A => ?_;have e22 : a (.tmp 22) = _ := Zg A 0 rfl;have h1 := (Below.cell B (Zs hc3)).trans hc3;refine Zn ?_ rfl;clear A B;go_simp;all_goals go_arith
    ·refine Ze rfl fun a _ _ _ B A => ?_;have e23 : a (.tmp 23) = _ := Zg A 1 rfl;refine Zn ?_ rfl;clear A B;go_simp;all_goals go_arith
    ·refine Ze rfl fun a _ _ _ B A => ?_;have e1 : a (.tmp 1) = .pointer (some ⟨w.heap.size, 0, none⟩) := Zy A 1 rfl;refine Zn ?_ rfl;clear A B;go_simp;all_goals go_arith
    ·refine Ze rfl fun a _ _ _ B A => ?_;have e25 : a (.tmp 25) = _ := Zg A 3 rfl;have h1 := (Below.cell B (Zs hc0)).trans hc0;refine Zn ?_ rfl;clear A B;go_simp;all_goals go_arith
    ·refine Ze rfl fun a B _ _ C A => ?_;have e26 : a (.tmp 26) = _ := Zg A 4 rfl;refine Y0 (f := 137) (args := #[.int .i64 k]) ?_ ((Za0 k B).mono ?_)
     ·clear A C;go_simp;all_goals go_arith
     ·rintro e w2 ⟨rfl, rfl⟩;exact ⟨_, rfl, Zl.refl _, rfl⟩
    ·refine Ze rfl fun a _ _ _ B A => ?_;have e24 : a (.tmp 24) = _ := Zg A 2 rfl;have e27 : a (.tmp 27) = _ := Zg A 5 rfl;refine Zn ?_ rfl;clear A B;go_simp;all_goals go_arith
    ·exact Ze rfl fun a _ _ _ _ A => Yz rfl (Zg A 6 rfl)
   ·intro vs w' hg ht;obtain ⟨q22, q23, q24, q25, q26, q27, q28, q21, -⟩ := ht;have r22 : vs 0 = _ := q22;have r23 : vs 1 = _ := q23;have r24 : vs 2 = _ := q24;have r25 : vs 3 = _ := q25;have r26 : vs 4 = _ := q26;have r27 : vs 5 = _ := q27;have r28 : vs 6 = _ := q28;have r21 : vs 7 = _ := q21;clear q22 q23 q24 q25 q26 q27 q28 q21;simp only [Ye, Act.put, List.setIfInBounds_toArray, List.set_cons_zero, List.set_cons_succ, r22, r23, r24, r25, r26, r27, r28, r21];clear r22 r23 r24 r25 r26 r27 r28 r21;have g2 : Zl w w' := g.trans hg;clear hg g hc0 hc3;by_cases hlt : Xa k < (l.length : Int)
    ·have HF : Hid (Z3 ⟨k, y, n, l⟩ = 4) := by show Z3 _ = 4; rw [HW.out, if_pos hlt]
     rw [decide_eq_true hlt];clear hlt;go_wp2;go_ret;exact ⟨Xe HF.out.symm, g2⟩
    ·have HF : Hid (Z3 ⟨k, y, n, l⟩ = 0) := by show Z3 _ = 0; rw [HW.out, if_neg hlt]
     rw [decide_eq_false hlt];clear hlt;go_wp2;go_ret;exact ⟨Xe HF.out.symm, g2⟩
  ·have d1 : (k != 1) = true := by simp [h]
   have d2 : (k != 2) = true := by simp [h]
   have d3 : (k != 3) = false := by simp [h]
   clear h;go_enter Tryz.func105, Tryz.ntmps105;go_wp2_with fail;refine (Jj k y n l _ _).mono ?_;rw [HR.out];rintro e w1 ⟨rfl, g1⟩;have g : Zl w w1 := (Zb _ _).trans g1;have hc0 : w1.cell? ⟨w.heap.size, 0, none⟩ = some (.int .i64 k) := (Below.cell g1 (p := ⟨w.heap.size, 0, none⟩) (by simp)).trans (by simp);have hc3 : w1.cell? ⟨w.heap.size, 3, none⟩ = some (.slice ao l.length cap) := (Below.cell g1 (p := ⟨w.heap.size, 3, none⟩) (by simp)).trans (by simp);clear g1;go_wp2_with fail;refine Z9 [ex (.pointer (some ⟨w.heap.size, 3, none⟩)), ex (.slice ao l.length cap), ex (.int .i64 l.length), ex (.pointer (some ⟨w.heap.size, 0, none⟩)), ex (.int .i64 k), ex (.int .i64 (Xa k)), ex (.bool (decide (Xa k < (l.length : Int)))), ex (.bool (decide (Xa k < (l.length : Int))))] (by kernel_rfl) (by kernel_rfl) ⟨Zj _, Zj _, Zj _, Zj _, Zj _, Zj _, Zj _, Zj _, trivial⟩ ?_ ?_
   ·refine ⟨?_, ?_, ?_, ?_, ?_, ?_, ?_, ?_, trivial⟩
    ·refine Ze rfl fun a _ _ _ B A => ?_;have e1 : a (.tmp 1) = .pointer (some ⟨w.heap.size, 0, none⟩) := Zy A 1 rfl;refine Zn ?_ rfl;clear A B;go_simp;all_goals go_arith
    ·refine Ze rfl fun a _ _ _ B A => ?_;have e22 : a (.tmp 22) = _ := Zg A 0 rfl;have h1 := (Below.cell B (Zs hc3)).trans hc3;refine Zn ?_ rfl;clear A B;go_simp;all_goals go_arith
    ·refine Ze rfl fun a _ _ _ B A => ?_;have e23 : a (.tmp 23) = _ := Zg A 1 rfl;refine Zn ?_ rfl;clear A B;go_simp;all_goals go_arith
    ·refine Ze rfl fun a _ _ _ B A => ?_;have e1 : a (.tmp 1) = .pointer (some ⟨w.heap.size, 0, none⟩) := Zy A 1 rfl;refine Zn ?_ rfl;clear A B;go_simp;all_goals go_arith
    ·refine Ze rfl fun a _ _ _ B A => ?_;have e25 : a (.tmp 25) = _ := Zg A 3 rfl;have h1 := (Below.cell B (Zs hc0)).trans hc0;refine Zn ?_ rfl;clear A B;go_simp;all_goals go_arith
    ·refine Ze rfl fun a B _ _ C A => ?_;have e26 : a (.tmp 26) = _ := Zg A 4 rfl;refine Y0 (f := 137) (args := #[.int .i64 k]) ?_ ((Za0 k B).mono ?_)
     ·clear A C;go_simp;all_goals go_arith
     ·rintro e w2 ⟨rfl, rfl⟩;exact ⟨_, rfl, Zl.refl _, rfl⟩
    ·refine Ze rfl fun a _ _ _ B A => ?_;have e24 : a (.tmp 24) = _ := Zg A 2 rfl;have e27 : a (.tmp 27) = _ := Zg A 5 rfl;refine Zn ?_ rfl;clear A B;go_simp;all_goals go_arith
    ·exact Ze rfl fun a _ _ _ _ A => Yz rfl (Zg A 6 rfl)
   ·intro vs w' hg ht;obtain ⟨q22, q23, q24, q25, q26, q27, q28, q21, -⟩ := ht;have r22 : vs 0 = _ := q22;have r23 : vs 1 = _ := q23;have r24 : vs 2 = _ := q24;have r25 : vs 3 = _ := q25;have r26 : vs 4 = _ := q26;have r27 : vs 5 = _ := q27;have r28 : vs 6 = _ := q28;have r21 : vs 7 = _ := q21;clear q22 q23 q24 q25 q26 q27 q28 q21;simp only [Ye, Act.put, List.setIfInBounds_toArray, List.set_cons_zero, List.set_cons_succ, r22, r23, r24, r25, r26, r27, r28, r21];clear r22 r23 r24 r25 r26 r27 r28 r21;have g2 : Zl w w' := g.trans hg;clear hg g hc0 hc3;by_cases hlt : Xa k < (l.length : Int)
    ·have HF : Hid (Z3 ⟨k, y, n, l⟩ = 4) := by show Z3 _ = 4; rw [HW.out, if_pos hlt]
     rw [decide_eq_true hlt];clear hlt;go_wp2;go_ret;exact ⟨Xe HF.out.symm, g2⟩
    ·have HF : Hid (Z3 ⟨k, y, n, l⟩ = 0) := by show Z3 _ = 0; rw [HW.out, if_neg hlt]
     rw [decide_eq_false hlt];clear hlt;go_wp2;go_ret;exact ⟨Xe HF.out.symm, g2⟩
theorem Zbd (k y n : Int) (l : List UInt8) (v : Value) (w : World) (hv : Bytes w v l) :
  Calls Tryz.prog 105 #[.agg #[.int .i64 k, .int .i64 y, .int .i64 n, v]] w fun e w' => e = .returned (.int .i64 (Z3 ⟨k, y, n, l⟩)) ∧ Zl w w' := by
 by_cases hk : 1 ≤ k ∧ k ≤ 3
 ·exact Zq1 k y n l v w hk hv
 ·exact Zld k y n l v w (by omega)
theorem md1 : Xa 1 = 0 := rfl
theorem md2 : Xa 2 = 8 := rfl
theorem md3 : Xa 3 = 0 := rfl
theorem Zgv (k y n : Int) (l : List UInt8) (h : k < 1 ∨ 3 < k) : Z3 ⟨k, y, n, l⟩ = 1 := by unfold Z3; rw [if_pos (by exact h)]
theorem Ja (k y n : Int) (l : List UInt8) (h : ¬ (k < 1 ∨ 3 < k)) (hr : Xc ⟨k, y, n, l⟩ = false) : Z3 ⟨k, y, n, l⟩ = 3 := by unfold Z3; rw [if_neg (by exact h), if_pos hr]
theorem Zae (k y n : Int) (l : List UInt8) (h : ¬ (k < 1 ∨ 3 < k)) (hr : Xc ⟨k, y, n, l⟩ = true) (hm : Xa k < (l.length : Int)) : Z3 ⟨k, y, n, l⟩ = 4 := by
 unfold Z3; rw [if_neg (by exact h), if_neg (by rw [hr]; simp), if_pos (by exact hm)]
theorem Zer (k y n : Int) (l : List UInt8) (h : ¬ (k < 1 ∨ 3 < k)) (hr : Xc ⟨k, y, n, l⟩ = true) (hm : ¬ Xa k < (l.length : Int)) : Z3 ⟨k, y, n, l⟩ = 0 := by
 unfold Z3; rw [if_neg (by exact h), if_neg (by rw [hr]; simp), if_neg (by exact hm)]
theorem V4 (y n : Int) (l : List UInt8) : Xc ⟨1, y, n, l⟩ = decide (y = 0 ∧ n = 0) := by simp [Xc]
theorem Xx (k y n : Int) (l : List UInt8) (h : k ≠ 1) : Xc ⟨k, y, n, l⟩ = decide (1 ≤ y ∧ y ≤ 255 ∧ 1 ≤ n ∧ n ≤ 60000) := by unfold Xc; rw [if_neg (by exact h)]
theorem Zlu (k y n : Int) (l : List UInt8) (v : Value) (w : World) (h : k < 1 ∨ 3 < k) :
  Calls Tryz.prog 64 #[.agg #[.int .i64 k, .int .i64 y, .int .i64 n, v]] w fun e w' => e = .returned (.int .i64 (Z3 ⟨k, y, n, l⟩)) ∧ Zl w w' := by
 have HW : Hid (Z3 ⟨k, y, n, l⟩ = 1) := Zgv k y n l h;rcases h with h | h
 ·go_enter Tryz.func64, Tryz.ntmps64;go_wp2;all_goals go_ret
  all_goals refine ⟨Xe ?_, Zb _ _⟩
  all_goals symm
  exact HW.out
 ·have h' : ¬ k < 1 := by omega
  go_enter Tryz.func64, Tryz.ntmps64;go_wp2;all_goals go_ret
  all_goals refine ⟨Xe ?_, Zb _ _⟩
  all_goals symm
  exact HW.out
theorem Zjf (y n : Int) (l : List UInt8) (ao : Option Addr) (cap : Nat) (w : World) :
  Calls Tryz.prog 64 #[.agg #[.int .i64 1, .int .i64 y, .int .i64 n, .slice ao l.length cap]] w fun e w' => e = .returned (.int .i64 (Z3 ⟨1, y, n, l⟩)) ∧ Zl w w' := by
 by_cases h0 : l.length = 0
 all_goals
  first | (have d0 : ((l.length : Int) != 0) = false := by simp [h0]; done) | (have d0 : ((l.length : Int) != 0) = true := by simp [h0]; done)
  go_enter Tryz.func64, Tryz.ntmps64;go_wp2;all_goals go_ret
  all_goals refine ⟨Xe ?_, Zb _ _⟩
  all_goals symm
  all_goals first
   | (refine Ja 1 y n l ?_ ?_ <;> first | omega | (rw [V4]; simp; done) | (rw [V4]; simp; omega) | (rw [md1]; omega))
   | (refine Zae 1 y n l ?_ ?_ ?_ <;> first | omega | (rw [V4]; simp; done) | (rw [V4]; simp; omega) | (rw [md1]; omega))
   | (refine Zer 1 y n l ?_ ?_ ?_ <;> first | omega | (rw [V4]; simp; done) | (rw [V4]; simp; omega) | (rw [md1]; omega))
theorem Zjg (y n : Int) (l : List UInt8) (ao : Option Addr) (cap : Nat) (w : World) :
  Calls Tryz.prog 64 #[.agg #[.int .i64 2, .int .i64 y, .int .i64 n, .slice ao l.length cap]] w fun e w' => e = .returned (.int .i64 (Z3 ⟨2, y, n, l⟩)) ∧ Zl w w' := by
 go_enter Tryz.func64, Tryz.ntmps64;go_wp2;all_goals go_ret
 all_goals refine ⟨Xe ?_, Zb _ _⟩
 all_goals symm
 all_goals first
  | (refine Ja 2 y n l ?_ ?_ <;> first | omega | (rw [Xx _ _ _ _ (by omega)]; simp; done) | (rw [Xx _ _ _ _ (by omega)]; simp; omega) | (rw [md2]; omega))
  | (refine Zae 2 y n l ?_ ?_ ?_ <;> first | omega | (rw [Xx _ _ _ _ (by omega)]; simp; done) | (rw [Xx _ _ _ _ (by omega)]; simp; omega) | (rw [md2]; omega))
  | (refine Zer 2 y n l ?_ ?_ ?_ <;> first | omega | (rw [Xx _ _ _ _ (by omega)]; simp; done) | (rw [Xx _ _ _ _ (by omega)]; simp; omega) | (rw [md2]; omega))
theorem Zje (y n : Int) (l : List UInt8) (ao : Option Addr) (cap : Nat) (w : World) :
  Calls Tryz.prog 64 #[.agg #[.int .i64 3, .int .i64 y, .int .i64 n, .slice ao l.length cap]] w fun e w' => e = .returned (.int .i64 (Z3 ⟨3, y, n, l⟩)) ∧ Zl w w' := by
 by_cases h0 : l.length = 0
 all_goals
  first | (have d0 : ((l.length : Int) != 0) = false := by simp [h0]; done) | (have d0 : ((l.length : Int) != 0) = true := by simp [h0]; done)
  go_enter Tryz.func64, Tryz.ntmps64;go_wp2;all_goals go_ret
  all_goals refine ⟨Xe ?_, Zb _ _⟩
  all_goals symm
  all_goals first
   | (refine Ja 3 y n l ?_ ?_ <;> first | omega | (rw [Xx _ _ _ _ (by omega)]; simp; done) | (rw [Xx _ _ _ _ (by omega)]; simp; omega) | (rw [md3]; omega))
   | (refine Zae 3 y n l ?_ ?_ ?_ <;> first | omega | (rw [Xx _ _ _ _ (by omega)]; simp; done) | (rw [Xx _ _ _ _ (by omega)]; simp; omega) | (rw [md3]; omega))
   | (refine Zer 3 y n l ?_ ?_ ?_ <;> first | omega | (rw [Xx _ _ _ _ (by omega)]; simp; done) | (rw [Xx _ _ _ _ (by omega)]; simp; omega) | (rw [md3]; omega))
theorem Ze9 (k y n : Int) (l : List UInt8) (v : Value) (w : World) (hv : Bytes w v l) :
  Calls Tryz.prog 64 #[.agg #[.int .i64 k, .int .i64 y, .int .i64 n, v]] w fun e w' => e = .returned (.int .i64 (Z3 ⟨k, y, n, l⟩)) ∧ Zl w w' := by
 obtain ⟨ao, cap, rfl, -, -⟩ := Yo hv;by_cases h : k < 1 ∨ 3 < k
 ·exact Zlu k y n l _ w h
 ·have h3 : k = 1 ∨ k = 2 ∨ k = 3 := by omega
  rcases h3 with rfl | rfl | rfl
  ·exact Zjf y n l ao cap w
  ·exact Zjg y n l ao cap w
  ·exact Zje y n l ao cap w
variable {W w : World} {base n size : Nat} {e : TypeId} {v : Value} {xs : List Value}
theorem Zoi {w1 : World} (hb : Zl W w1) : (∀ b o, b < W.heap.size → w1.cell? ⟨b, o, none⟩ = W.cell? ⟨b, o, none⟩) ∧ (∀ b o, b < W.heap.size → w1.frozen? ⟨b, o, none⟩ = W.frozen? ⟨b, o, none⟩) :=
 ⟨fun b o h => Below.cell hb (p := ⟨b, o, none⟩) h, fun b o h => Below.frozen hb (p := ⟨b, o, none⟩) h⟩
theorem Zu (W : World) (a : Addr) (x : Value) : (W.setCell a x).cell? a = (W.cell? a).map fun _ => x := by
 cases h : W.cell? a with
 | some u => exact World.cell?_setCell_same W a x h
 | none =>
  unfold World.cell? at h ⊢;simp only [World.setCell, Array.getElem?_modify, ↓reduceIte];cases hb : W.heap[a.block]? with
  | none => simp
  | some o =>
   cases o with
   | cells c e f =>
    simp only [hb] at h;simp only [Option.map_some];split at h
    ·simp_all
    ·simp_all
   | _ => simp_all
theorem Xk {a b c d : Prop} (h : a ∨ b) (f : a → c) (g : b → d) : c ∨ d := by
 rcases h with h | h
 ·exact .inl (f h)
 ·exact .inr (g h)
theorem Yd {base' : Nat} (h : w.ownsRow base e size v n xs) (hb : base' ≤ base) : w.ownsRow base' e size v n xs :=
 ⟨h.1, Xk h.2 (fun x => x) fun ⟨g, cap, cur, h1, h2, r⟩ => ⟨g, cap, cur, h1, Nat.le_trans hb h2, r⟩⟩
theorem Xo (h : w.ownsRow base e size v n xs) {a : Addr} (ha : a.block < base) (u : Value) : (w.setCell a u).ownsRow base e size v n xs :=
 ownsRow_setCell_below h ha u
theorem Zx (h : Zl w W) {a : Addr} (ha : w.heap.size ≤ a.block) (u : Value) : Zl w (W.setCell a u) := Below.setCell h ha u
theorem Z8 (h : w.ownsRow base e 1 v n xs) : ∃ ao cap, v = .slice ao n cap := by
 rcases h.2 with ⟨h1, h0⟩ | ⟨g, cap, cur, rfl, hb, _⟩
 ·subst h0; exact ⟨none, 0, h1⟩
 ·exact ⟨_, cap, rfl⟩
theorem Zqf (w : World) :
  Calls Tryz.prog 108 #[.slice none 0 0] w fun e w' => ∃ v', e = .returned v' ∧ w'.ownsRow w.heap.size 5 1 v' 0 [] ∧ Zl w w' := by
 have q := fun (w : World) (a : Option Addr) (n c n' c' : Nat) => Lib.run_eql_slice_nil (P := Tryz.prog) w 45 5 a n c n' c' Tryz.underlying45
 go_enter Tryz.func108, Tryz.ntmps108;go_wp2;go_ret;exact ⟨_, rfl, World.ownsRow_nil _ _ _ _, Zl.refl _⟩
theorem Znc (l : List UInt8) (ad : Addr) (cap : Nat) (w : World) (hm : l.length ≤ 140737488355328)
  (hcells : ∀ (j : Nat) u, (l.map bv)[j]? = some u → w.cell? (ad.add j) = some u) :
  Calls Tryz.prog 108 #[.slice (some ad) l.length cap] w fun e w' => ∃ v', e = .returned v' ∧ w'.ownsRow w.heap.size 5 1 v' l.length (l.map bv) ∧ Zl w w' := by
 obtain ⟨i0, hif, hz0, hz1, hz2⟩ := info_parts V7;have ho := Zdq w;have hc1 : ∀ (j : Nat) u, (l.map bv)[j]? = some u → (w.alloc (.cells #[] 5)).cell? (ad.add j) = some u := by
  intro j u hj;have h2 := hcells j u hj;rw [← h2];exact Below.cell (Zb w _) (Zs h2)
 clear hcells;have q := fun (w : World) (a : Option Addr) (n c n' c' : Nat) => Lib.run_eql_slice_nil (P := Tryz.prog) w 45 5 a n c n' c' Tryz.underlying45
 go_enter Tryz.func108, Tryz.ntmps108;go_wp2_with (at_builtin; refine wpList_append_own _ rfl (.tmp 5) (.tmp 6) 45 rfl w.heap.size 5 i0 (.int .u8 0) 1 1 Tryz.underlying45 hif hz0 hz1 hz2 rfl (by decide) (.slice (some ⟨w.heap.size, 0, none⟩) 0 0) 0 [] rfl ho ad l.length cap (l.map bv) rfl (by simp) hc1 (Zao l) (by unfold maxLen; omega) (by omega) (by simp) ?_; intro v2 w2 hown2 hgrow2 _; simp only [Nat.zero_add, List.nil_append] at hown2);have g2 : Zl w w2 := Yj (Zb w _) hgrow2 (fun k e => by simp [Value.ownBlock] at e; omega);go_ret;exact ⟨_, rfl, hown2, g2⟩
theorem Vu (l : List UInt8) (v : Value) (w : World) (hm : l.length ≤ 140737488355328) (h : Bytes w v l) :
  Calls Tryz.prog 108 #[v] w fun e w' => ∃ v', e = .returned v' ∧ w'.ownsRow w.heap.size 5 1 v' l.length (l.map bv) ∧ Zl w w' := by
 obtain ⟨ao, cap, rfl, hnone, hcells⟩ := Yo h;cases ao with
 | some ad => exact Znc l ad cap w hm (hcells ad rfl)
 | none =>
  obtain ⟨h1, rfl⟩ := hnone rfl;obtain rfl := List.eq_nil_of_length_eq_zero h1;exact Zqf w
theorem Zem (k y n : Int) (l : List UInt8) (v : Value) (w : World) (hm : l.length ≤ 140737488355328) (h : Bytes w v l) :
  Calls Tryz.prog 101 #[.agg #[.int .i64 k, .int .i64 y, .int .i64 n, v]] w fun e w' => ∃ v', e = .returned (.agg #[.int .i64 k, .int .i64 y, .int .i64 n, v']) ∧ w'.ownsRow w.heap.size 5 1 v' l.length (l.map bv) ∧ Zl w w' := by
 obtain ⟨ao, cap, rfl, -, -⟩ := Yo h;go_enter Tryz.func101, Tryz.ntmps101;go_wp2_with fail;refine (Vu l _ _ hm (by exact Zz h (Zq _ _ _))).mono ?_;rintro e w1 ⟨v', rfl, ho, g1⟩;obtain ⟨ao', cap', rfl⟩ := Z8 ho;obtain ⟨hc, hf⟩ := Zoi g1;have cs := Zu;clear h;go_wp2_with fail;refine bodyPost_ret (v := .agg #[.int .i64 k, .int .i64 y, .int .i64 n, .slice ao' l.length cap']) (by simp [results, Tryz.results101, go_sem, hc, cs]) rfl ⟨_, rfl, Yd (base := w.heap.size + 2) ?_ (by omega), ?_⟩
 ·replace ho : w1.ownsRow (w.heap.size + 2) 5 1 (.slice ao' l.length cap') l.length (l.map bv) := by simpa using ho
  exact Xo (Xo (Xo (Xo (Xo ho (by simp) _) (by simp) _) (by simp) _) (by simp) _) (by simp) _
 ·exact Zx (Zx (Zx (Zx (Zx ((Zq _ _ _).trans g1) (by simp) _) (by simp) _) (by simp) _) (by simp) _) (by simp) _
end Go.Proofs.YtpdnapbchcdhlacGreat
