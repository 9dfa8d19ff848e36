import Derived.Test.YtpdnapbchcdhlacGreatRStore2
set_option maxHeartbeats 8000000
namespace Go.Proofs.YtpdnapbchcdhlacGreat
set_option maxRecDepth 100000
open Go.RowKit
open Plain Reg
def Kf (d : Dd) : Bool := if d.kind = 3 then decide (1 ≤ d.key ∧ d.key ≤ 255 ∧ 1 ≤ d.num ∧ d.num ≤ 60000) else decide (1 ≤ d.key ∧ d.key ≤ 255 ∧ d.num = 0)
def Zau (k : Int) : Int := if k = 1 then 8 else 0
theorem Zcm (d : Dd) : Yh d = if d.kind < 1 ∨ 3 < d.kind then 1 else if Kf d = false then 3 else if Zau d.kind < (d.data.length : Int) then 4 else 0 := by
 unfold Yh Kf Zau;by_cases hk : d.kind < 1 ∨ 3 < d.kind
 ·rw [if_pos hk, if_pos hk]
 ·rw [if_neg hk, if_neg hk];by_cases h3 : d.kind = 3
  ·rw [if_pos h3, if_pos h3, if_pos h3, if_neg (show ¬ d.kind = 1 by omega)];by_cases hr : 1 ≤ d.key ∧ d.key ≤ 255 ∧ 1 ≤ d.num ∧ d.num ≤ 60000
   ·rw [if_neg (show ¬ (d.key < 1 ∨ 255 < d.key ∨ d.num < 1 ∨ 60000 < d.num) by omega), decide_eq_true hr, if_neg (show ¬ true = false by simp)];by_cases h0 : d.data.length = 0
    ·rw [if_neg (by omega), if_neg (by omega)]
    ·rw [if_pos (by omega), if_pos (by omega)]
   ·rw [if_pos (show d.key < 1 ∨ 255 < d.key ∨ d.num < 1 ∨ 60000 < d.num by omega), decide_eq_false hr, if_pos rfl]
  ·rw [if_neg h3, if_neg h3, if_neg h3];by_cases hr : 1 ≤ d.key ∧ d.key ≤ 255 ∧ d.num = 0
   ·rw [if_neg (show ¬ (d.key < 1 ∨ 255 < d.key ∨ d.num < 0 ∨ 0 < d.num) by omega), decide_eq_true hr, if_neg (show ¬ true = false by simp)];by_cases h1 : d.kind = 1
    ·rw [if_pos h1];by_cases h8 : 8 < d.data.length
     ·rw [if_pos (by omega), if_pos (by omega)]
     ·rw [if_neg (by omega), if_neg (by omega)]
    ·rw [if_neg h1];by_cases h0 : d.data.length = 0
     ·rw [if_neg (by omega), if_neg (by omega)]
     ·rw [if_pos (by omega), if_pos (by omega)]
   ·rw [if_pos (show d.key < 1 ∨ 255 < d.key ∨ d.num < 0 ∨ 0 < d.num by omega), decide_eq_false hr, if_pos rfl]
theorem Kw (k y n : Int) (l : List UInt8) (v : Value) (w : World) :
  Calls Tryz.prog 129 #[.agg #[.int .i64 k, .int .i64 y, .int .i64 n, v]] w fun e w' => e = .returned (.bool (Kf ⟨k, y, n, l⟩)) ∧ Zl w w' := by
 go_enter Tryz.func129, Tryz.ntmps129;go_wp2;all_goals go_ret
 all_goals refine ⟨?_, Zb _ _⟩
 all_goals simp_all [Kf]
 all_goals first | omega | (split <;> omega) | (rw [Bool.eq_iff_iff]; simp; done) | (rw [Bool.eq_iff_iff]; simp; omega)
theorem Zah (k : Int) (w : World) :
  Calls Tryz.prog 130 #[.int .i64 k] w fun e w' => e = .returned (.int .i64 (Zau k)) ∧ w = w' := by
 go_enter Tryz.func130, Tryz.ntmps130;go_wp2;all_goals go_ret
 all_goals simp_all [Zau]
theorem Zj6 (k y n : Int) (l : List UInt8) (v : Value) (w : World) (hk : k < 1 ∨ 3 < k) :
  Calls Tryz.prog 98 #[.agg #[.int .i64 k, .int .i64 y, .int .i64 n, v]] w fun e w' => e = .returned (.int .i64 (Yh ⟨k, y, n, l⟩)) ∧ Zl w w' := by
 have HW : Hid (Yh ⟨k, y, n, l⟩ = 1) := by show Yh _ = 1; rw [Zcm, if_pos (by exact hk)]
 have d1 : (k != 1) = true := by simp; omega
 have d2 : (k != 2) = true := by simp; omega
 have d3 : (k != 3) = true := by simp; omega
 go_enter Tryz.func98, Tryz.ntmps98;go_wp2_with fail;go_ret;exact ⟨Xe HW.out.symm, Zb _ _⟩
theorem Zpo (k y n : Int) (l : List UInt8) (v : Value) (w : World) (hk : 1 ≤ k ∧ k ≤ 3) (hv : Bytes w v l) :
  Calls Tryz.prog 98 #[.agg #[.int .i64 k, .int .i64 y, .int .i64 n, v]] w fun e w' => e = .returned (.int .i64 (Yh ⟨k, y, n, l⟩)) ∧ Zl w w' := by
 obtain ⟨ao, cap, rfl, -, -⟩ := Yo hv;clear hv;have HK : Hid (k = 1 ∨ k = 2 ∨ k = 3) := by show _ ∨ _; omega
 have hw : Yh ⟨k, y, n, l⟩ = if Kf ⟨k, y, n, l⟩ = false then 3 else if Zau k < (l.length : Int) then 4 else 0 := by
  rw [Zcm, if_neg (by simp; omega)]
 clear hk;cases hr : Kf ⟨k, y, n, l⟩ with
 | false =>
  have HF : Hid (Yh ⟨k, y, n, l⟩ = 3) := by show Yh _ = 3; rw [hw, hr]; rfl
  have HR : Hid (Kf ⟨k, y, n, l⟩ = false) := hr;clear hw hr;rcases HK.out with h | h | h
  all_goals
   first
    | (have d1 : (k != 1) = false := by simp [h])
    | (have d1 : (k != 1) = true := by simp [h]); (have d2 : (k != 2) = false := by simp [h])
    | (have d1 : (k != 1) = true := by simp [h]); (have d2 : (k != 2) = true := by simp [h]); (have d3 : (k != 3) = false := by simp [h])
   clear h;go_enter Tryz.func98, Tryz.ntmps98;go_wp2_with fail;refine (Kw k y n l _ _).mono ?_;rw [HR.out];rintro e w1 ⟨rfl, g1⟩;go_wp2_with fail;go_ret;exact ⟨Xe HF.out.symm, (Zb _ _).trans g1⟩
 | true =>
  have HW : Hid (Yh ⟨k, y, n, l⟩ = if Zau k < (l.length : Int) then 4 else 0) := by show Yh _ = _; rw [hw, hr]; rfl
  have HR : Hid (Kf ⟨k, y, n, l⟩ = true) := hr;clear hw hr;rcases HK.out with h | h | h
  ·have d1 : (k != 1) = false := by simp [h]
   clear h;go_enter Tryz.func98, Tryz.ntmps98;go_wp2_with fail;refine (Kw k y n l _ _).mono ?_;rw [HR.out];rintro e w1 ⟨rfl, g1⟩;have g : Zl w w1 := (Zb _ _).trans g1;have hc0 : w1.cell? ⟨w.heap.size, 0, none⟩ = some (.int .i64 k) := (Below.cell g1 (p := ⟨w.heap.size, 0, none⟩) (by simp)).trans (by simp);have hc3 : w1.cell? ⟨w.heap.size, 3, none⟩ = some (.slice ao l.length cap) := (Below.cell g1 (p := ⟨w.heap.size, 3, none⟩) (by simp)).trans (by simp);clear g1;go_wp2_with fail;refine Z9 [ex (.pointer (some ⟨w.heap.size, 3, none⟩)), ex (.slice ao l.length cap), ex (.int .i64 l.length), ex (.pointer (some ⟨w.heap.size, 0, none⟩)), ex (.int .i64 k), ex (.int .i64 (Zau k)), ex (.bool (decide (Zau k < (l.length : Int)))), ex (.bool (decide (Zau k < (l.length : Int))))] (by kernel_rfl) (by kernel_rfl) ⟨Zj _, Zj _, Zj _, Zj _, Zj _, Zj _, Zj _, Zj _, trivial⟩ ?_ ?_
   ·refine ⟨?_, ?_, ?_, ?_, ?_, ?_, ?_, ?_, trivial⟩
    ·refine Ze rfl fun a _ _ _ B A => ?_;have e1 : a (.tmp 1) = .pointer (some ⟨w.heap.size, 0, none⟩) := Zy A 1 rfl;refine Zn ?_ rfl;clear A B;go_simp;all_goals go_arith
    ·refine Ze rfl fun a _ _ _ B A => ?_;have e22 : a (.tmp 22) = _ := Zg A 0 rfl;have h1 := (Below.cell B (Zs hc3)).trans hc3;refine Zn ?_ rfl;clear A B;go_simp;all_goals go_arith
    ·refine Ze rfl fun a _ _ _ B A => ?_;have e23 : a (.tmp 23) = _ := Zg A 1 rfl;refine Zn ?_ rfl;clear A B;go_simp;all_goals go_arith
    ·refine Ze rfl fun a _ _ _ B A => ?_;have e1 : a (.tmp 1) = .pointer (some ⟨w.heap.size, 0, none⟩) := Zy A 1 rfl;refine Zn ?_ rfl;clear A B;go_simp;all_goals go_arith
    ·refine Ze rfl fun a _ _ _ B A => ?_;have e25 : a (.tmp 25) = _ := Zg A 3 rfl;have h1 := (Below.cell B (Zs hc0)).trans hc0;refine Zn ?_ rfl;clear A B;go_simp;all_goals go_arith
    ·refine Ze rfl fun a B _ _ C A => ?_;have e26 : a (.tmp 26) = _ := Zg A 4 rfl;refine Y0 (f := 130) (args := #[.int .i64 k]) ?_ ((Zah k B).mono ?_)
     ·clear A C;go_simp;all_goals go_arith
     ·rintro e w2 ⟨rfl, rfl⟩;exact ⟨_, rfl, Zl.refl _, rfl⟩
    ·refine Ze rfl fun a _ _ _ B A => ?_;have e24 : a (.tmp 24) = _ := Zg A 2 rfl;have e27 : a (.tmp 27) = _ := Zg A 5 rfl;refine Zn ?_ rfl;clear A B;go_simp;all_goals go_arith
    ·exact Ze rfl fun a _ _ _ _ A => Yz rfl (Zg A 6 rfl)
   ·intro vs w' hg ht;obtain ⟨q22, q23, q24, q25, q26, q27, q28, q21, -⟩ := ht;have r22 : vs 0 = _ := q22;have r23 : vs 1 = _ := q23;have r24 : vs 2 = _ := q24;have r25 : vs 3 = _ := q25;have r26 : vs 4 = _ := q26;have r27 : vs 5 = _ := q27;have r28 : vs 6 = _ := q28;have r21 : vs 7 = _ := q21;clear q22 q23 q24 q25 q26 q27 q28 q21;simp only [Ye, Act.put, List.setIfInBounds_toArray, List.set_cons_zero, List.set_cons_succ, r22, r23, r24, r25, r26, r27, r28, r21];clear r22 r23 r24 r25 r26 r27 r28 r21;have g2 : Zl w w' := g.trans hg;clear hg g hc0 hc3;by_cases hlt : Zau k < (l.length : Int)
    ·have HF : Hid (Yh ⟨k, y, n, l⟩ = 4) := by show Yh _ = 4; rw [HW.out, if_pos hlt]
     rw [decide_eq_true hlt];clear hlt;go_wp2;go_ret;exact ⟨Xe HF.out.symm, g2⟩
    ·have HF : Hid (Yh ⟨k, y, n, l⟩ = 0) := by show Yh _ = 0; rw [HW.out, if_neg hlt]
     rw [decide_eq_false hlt];clear hlt;go_wp2;go_ret;exact ⟨Xe HF.out.symm, g2⟩
  ·have d1 : (k != 1) = true := by simp [h]
   have d2 : (k != 2) = false := by simp [h]
   clear h;go_enter Tryz.func98, Tryz.ntmps98;go_wp2_with fail;refine (Kw k y n l _ _).mono ?_;rw [HR.out];rintro e w1 ⟨rfl, g1⟩;have g : Zl w w1 := (Zb _ _).trans g1;have hc0 : w1.cell? ⟨w.heap.size, 0, none⟩ = some (.int .i64 k) := (Below.cell g1 (p := ⟨w.heap.size, 0, none⟩) (by simp)).trans (by simp);have hc3 : w1.cell? ⟨w.heap.size, 3, none⟩ = some (.slice ao l.length cap) := (Below.cell g1 (p := ⟨w.heap.size, 3, none⟩) (by simp)).trans (by simp);clear g1;go_wp2_with fail;refine Z9 [ex (.pointer (some ⟨w.heap.size, 3, none⟩)), ex (.slice ao l.length cap), ex (.int .i64 l.length), ex (.pointer (some ⟨w.heap.size, 0, none⟩)), ex (.int .i64 k), ex (.int .i64 (Zau k)), ex (.bool (decide (Zau k < (l.length : Int)))), ex (.bool (decide (Zau k < (l.length : Int))))] (by kernel_rfl) (by kernel_rfl) ⟨Zj _, Zj _, Zj _, Zj _, Zj _, Zj _, Zj _, Zj _, trivial⟩ ?_ ?_
   ·refine ⟨?_, ?_, ?_, ?_, ?_, ?_, ?_, ?_, trivial⟩
    ·refine Ze rfl fun a _ _ _ B A => ?_;have e1 : a (.tmp 1) = .pointer (some ⟨w.heap.size, 0, none⟩) := Zy A 1 rfl;refine Zn ?_ rfl;clear A B;go_simp;all_goals go_arith
    ·refine Ze rfl fun a _ _ _ B A => ?_;have e22 : a (.tmp 22) = _ := Zg A 0 rfl;have h1 := (Below.cell B (Zs hc3)).trans hc3;refine Zn ?_ rfl;clear A B;go_simp;all_goals go_arith
    ·refine Ze rfl fun a _ _ _ B A => ?_;have e23 : a (.tmp 23) = _ := Zg A 1 rfl;refine Zn ?_ rfl;clear A B;go_simp;all_goals go_arith
    ·refine Ze rfl fun a _ _ _ B A => ?_;have e1 : a (.tmp 1) = .pointer (some ⟨w.heap.size, 0, none⟩) := Zy A 1 rfl;refine Zn ?_ rfl;clear A B;go_simp;all_goals go_arith
    ·refine Ze rfl fun a _ _ _ B A => ?_;have e25 : a (.tmp 25) = _ := Zg A 3 rfl;have h1 := (Below.cell B (Zs hc0)).trans hc0;refine Zn ?_ rfl;clear A B;go_simp;all_goals go_arith
    ·refine Ze rfl fun a B _ _ C A => ?_;have e26 : a (.tmp 26) = _ := Zg A 4 rfl;refine Y0 (f := 130) (args := #[.int .i64 k]) ?_ ((Zah k B).mono ?_)
     ·clear A C;go_simp;all_goals go_arith
     ·rintro e w2 ⟨rfl, rfl⟩;exact ⟨_, rfl, Zl.refl _, rfl⟩
    ·refine Ze rfl fun a _ _ _ B A => ?_;have e24 : a (.tmp 24) = _ := Zg A 2 rfl;have e27 : a (.tmp 27) = _ := Zg A 5 rfl;refine Zn ?_ rfl;clear A B;go_simp;all_goals go_arith
    ·exact Ze rfl fun a _ _ _ _ A => Yz rfl (Zg A 6 rfl)
   ·intro vs w' hg ht;obtain ⟨q22, q23, q24, q25, q26, q27, q28, q21, -⟩ := ht;have r22 : vs 0 = _ := q22;have r23 : vs 1 = _ := q23;have r24 : vs 2 = _ := q24;have r25 : vs 3 = _ := q25;have r26 : vs 4 = _ := q26;have r27 : vs 5 = _ := q27;have r28 : vs 6 = _ := q28;have r21 : vs 7 = _ := q21;clear q22 q23 q24 q25 q26 q27 q28 q21;simp only [Ye, Act.put, List.setIfInBounds_toArray, List.set_cons_zero, List.set_cons_succ, r22, r23, r24, r25, r26, r27, r28, r21];clear r22 r23 r24 r25 r26 r27 r28 r21;have g2 : Zl w w' := g.trans hg;clear hg g hc0 hc3;by_cases hlt : Zau k < (l.length : Int)
    ·have HF : Hid (Yh ⟨k, y, n, l⟩ = 4) := by show Yh _ = 4; rw [HW.out, if_pos hlt]
     rw [decide_eq_true hlt];clear hlt;go_wp2;go_ret;exact ⟨Xe HF.out.symm, g2⟩
    ·have HF : Hid (Yh ⟨k, y, n, l⟩ = 0) := by show Yh _ = 0; rw [HW.out, if_neg hlt]
     rw [decide_eq_false hlt];clear hlt;go_wp2;go_ret;exact ⟨Xe HF.out.symm, g2⟩
  ·have d1 : (k != 1) = true := by simp [h]
   have d2 : (k != 2) = true := by simp [h]
   have d3 : (k != 3) = false := by simp [h]
   clear h;go_enter Tryz.func98, Tryz.ntmps98;go_wp2_with fail;refine (Kw k y n l _ _).mono ?_;rw [HR.out];rintro e w1 ⟨rfl, g1⟩;have g : Zl w w1 := (Zb _ _).trans g1;have hc0 : w1.cell? ⟨w.heap.size, 0, none⟩ = some (.int .i64 k) := (Below.cell g1 (p := ⟨w.heap.size, 0, none⟩) (by simp)).trans (by simp);have hc3 : w1.cell? ⟨w.heap.size, 3, none⟩ = some (.slice ao l.length cap) := (Below.cell g1 (p := ⟨w.heap.size, 3, none⟩) (by simp)).trans (by simp);clear g1;go_wp2_with fail;refine Z9 [ex (.pointer (some ⟨w.heap.size, 3, none⟩)), ex (.slice ao l.length cap), ex (.int .i64 l.length), ex (.pointer (some ⟨w.heap.size, 0, none⟩)), ex (.int .i64 k), ex (.int .i64 (Zau k)), ex (.bool (decide (Zau k < (l.length : Int)))), ex (.bool (decide (Zau k < (l.length : Int))))] (by kernel_rfl) (by kernel_rfl) ⟨Zj _, Zj _, Zj _, Zj _, Zj _, Zj _, Zj _, Zj _, trivial⟩ ?_ ?_
   ·refine ⟨?_, ?_, ?_, ?_, ?_, ?_, ?_, ?_, trivial⟩
    ·refine Ze rfl fun a _ _ _ B A => ?_;have e1 : a (.tmp 1) = .pointer (some ⟨w.heap.size, 0, none⟩) := Zy A 1 rfl;refine Zn ?_ rfl;clear A B;go_simp;all_goals go_arith
    ·refine Ze rfl fun a _ _ _ B A => ?_;have e22 : a (.tmp 22) = _ := Zg A 0 rfl;have h1 := (Below.cell B (Zs hc3)).trans hc3;refine Zn ?_ rfl;clear A B;go_simp;all_goals go_arith
    ·refine Ze rfl fun a _ _ _ B A => ?_;have e23 : a (.tmp 23) = _ := Zg A 1 rfl;refine Zn ?_ rfl;clear A B;go_simp;all_goals go_arith
    ·refine Ze rfl fun a _ _ _ B A => ?_;have e1 : a (.tmp 1) = .pointer (some ⟨w.heap.size, 0, none⟩) := Zy A 1 rfl;refine Zn ?_ rfl;clear A B;go_simp;all_goals go_arith
    ·refine Ze rfl fun a _ _ _ B A => ?_;have e25 : a (.tmp 25) = _ := Zg A 3 rfl;have h1 := (Below.cell B (Zs hc0)).trans hc0;refine Zn ?_ rfl;clear A B;go_simp;all_goals go_arith
    ·refine Ze rfl fun a B _ _ C A => ?_;have e26 : a (.tmp 26) = _ := Zg A 4 rfl;refine Y0 (f := 130) (args := #[.int .i64 k]) ?_ ((Zah k B).mono ?_)
     ·clear A C;go_simp;all_goals go_arith
     ·rintro e w2 ⟨rfl, rfl⟩;exact ⟨_, rfl, Zl.refl _, rfl⟩
    ·refine Ze rfl fun a _ _ _ B A => ?_;have e24 : a (.tmp 24) = _ := Zg A 2 rfl;have e27 : a (.tmp 27) = _ := Zg A 5 rfl;refine Zn ?_ rfl;clear A B;go_simp;all_goals go_arith
    ·exact Ze rfl fun a _ _ _ _ A => Yz rfl (Zg A 6 rfl)
   ·intro vs w' hg ht;obtain ⟨q22, q23, q24, q25, q26, q27, q28, q21, -⟩ := ht;have r22 : vs 0 = _ := q22;have r23 : vs 1 = _ := q23;have r24 : vs 2 = _ := q24;have r25 : vs 3 = _ := q25;have r26 : vs 4 = _ := q26;have r27 : vs 5 = _ := q27;have r28 : vs 6 = _ := q28;have r21 : vs 7 = _ := q21;clear q22 q23 q24 q25 q26 q27 q28 q21;simp only [Ye, Act.put, List.setIfInBounds_toArray, List.set_cons_zero, List.set_cons_succ, r22, r23, r24, r25, r26, r27, r28, r21];clear r22 r23 r24 r25 r26 r27 r28 r21;have g2 : Zl w w' := g.trans hg;clear hg g hc0 hc3;by_cases hlt : Zau k < (l.length : Int)
    ·have HF : Hid (Yh ⟨k, y, n, l⟩ = 4) := by show Yh _ = 4; rw [HW.out, if_pos hlt]
     rw [decide_eq_true hlt];clear hlt;go_wp2;go_ret;exact ⟨Xe HF.out.symm, g2⟩
    ·have HF : Hid (Yh ⟨k, y, n, l⟩ = 0) := by show Yh _ = 0; rw [HW.out, if_neg hlt]
     rw [decide_eq_false hlt];clear hlt;go_wp2;go_ret;exact ⟨Xe HF.out.symm, g2⟩
theorem Zoc : Zvu := by
 rintro ⟨k, y, n, l⟩ a c w _ hb;by_cases hk : 1 ≤ k ∧ k ≤ 3
 ·exact Zpo k y n l _ w hk hb
 ·exact Zj6 k y n l _ w (by omega)
end Go.Proofs.YtpdnapbchcdhlacGreat
