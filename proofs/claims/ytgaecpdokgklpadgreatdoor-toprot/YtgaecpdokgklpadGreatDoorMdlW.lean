import Derived.Test.YtgaecpdokgklpadGreatDoorRDo
set_option maxHeartbeats 8000000
namespace Go.Proofs.YtgaecpdokgklpadGreatDoor
set_option maxRecDepth 100000
open Go.RowKit
open Plain Reg
def V6 (d : Dd) : Bool := if d.kind = 3 then decide (1 ≤ d.key ∧ d.key ≤ 255 ∧ 1 ≤ d.num ∧ d.num ≤ 60000) else decide (1 ≤ d.key ∧ d.key ≤ 255 ∧ d.num = 0)
def Vw (k : Int) : Int := if k = 1 then 8 else 0
theorem Zcj (d : Dd) : Z1 d = if d.kind < 1 ∨ 3 < d.kind then 1 else if V6 d = false then 3 else if Vw d.kind < (d.data.length : Int) then 4 else 0 := by
 unfold Z1 V6 Vw;by_cases hk : d.kind < 1 ∨ 3 < d.kind
 ·rw [if_pos hk, if_pos hk]
 ·rw [if_neg hk, if_neg hk];by_cases h3 : d.kind = 3
  ·rw [if_pos h3, if_pos h3, if_pos h3, if_neg (show ¬ d.kind = 1 by omega)];by_cases hr : 1 ≤ d.key ∧ d.key ≤ 255 ∧ 1 ≤ d.num ∧ d.num ≤ 60000
   ·rw [if_neg (show ¬ (d.key < 1 ∨ 255 < d.key ∨ d.num < 1 ∨ 60000 < d.num) by omega), decide_eq_true hr, if_neg (show ¬ true = false by simp)];by_cases h0 : d.data.length = 0
    ·rw [if_neg (by omega), if_neg (by omega)]
    ·rw [if_pos (by omega), if_pos (by omega)]
   ·rw [if_pos (show d.key < 1 ∨ 255 < d.key ∨ d.num < 1 ∨ 60000 < d.num by omega), decide_eq_false hr, if_pos rfl]
  ·rw [if_neg h3, if_neg h3, if_neg h3];by_cases hr : 1 ≤ d.key ∧ d.key ≤ 255 ∧ d.num = 0
   ·rw [if_neg (show ¬ (d.key < 1 ∨ 255 < d.key ∨ d.num < 0 ∨ 0 < d.num) by omega), decide_eq_true hr, if_neg (show ¬ true = false by simp)];by_cases h1 : d.kind = 1
    ·rw [if_pos h1];by_cases h8 : 8 < d.data.length
     ·rw [if_pos (by omega), if_pos (by omega)]
     ·rw [if_neg (by omega), if_neg (by omega)]
    ·rw [if_neg h1];by_cases h0 : d.data.length = 0
     ·rw [if_neg (by omega), if_neg (by omega)]
     ·rw [if_pos (by omega), if_pos (by omega)]
   ·rw [if_pos (show d.key < 1 ∨ 255 < d.key ∨ d.num < 0 ∨ 0 < d.num by omega), decide_eq_false hr, if_pos rfl]
theorem Kh (k y n : Int) (l : List UInt8) (v : Value) (w : World) :
  Calls Tryz.prog 52 #[.agg #[.int .i64 k, .int .i64 y, .int .i64 n, v]] w fun e w' => e = .returned (.bool (V6 ⟨k, y, n, l⟩)) ∧ Zj w w' := by
 go_enter Tryz.func52, Tryz.ntmps52;go_wp2;all_goals go_ret
 all_goals refine ⟨?_, Zd _ _⟩
 all_goals simp_all [V6]
 all_goals first | omega | (split <;> omega) | (rw [Bool.eq_iff_iff]; simp; done) | (rw [Bool.eq_iff_iff]; simp; omega)
theorem Zac (k : Int) (w : World) :
  Calls Tryz.prog 53 #[.int .i64 k] w fun e w' => e = .returned (.int .i64 (Vw k)) ∧ w = w' := by
 go_enter Tryz.func53, Tryz.ntmps53;go_wp2;all_goals go_ret
 all_goals simp_all [Vw]
theorem Zkj (k y n : Int) (l : List UInt8) (v : Value) (w : World) (hk : k < 1 ∨ 3 < k) :
  Calls Tryz.prog 30 #[.agg #[.int .i64 k, .int .i64 y, .int .i64 n, v]] w fun e w' => e = .returned (.int .i64 (Z1 ⟨k, y, n, l⟩)) ∧ Zj w w' := by
 have HW : Hid (Z1 ⟨k, y, n, l⟩ = 1) := by show Z1 _ = 1; rw [Zcj, if_pos (by exact hk)]
 have d1 : (k != 1) = true := by simp; omega
 have d2 : (k != 2) = true := by simp; omega
 have d3 : (k != 3) = true := by simp; omega
 go_enter Tryz.func30, Tryz.ntmps30;go_wp2_with fail;go_ret;exact ⟨Xf HW.out.symm, Zd _ _⟩
theorem Zp2 (k y n : Int) (l : List UInt8) (v : Value) (w : World) (hk : 1 ≤ k ∧ k ≤ 3) (hv : Bytes w v l) :
  Calls Tryz.prog 30 #[.agg #[.int .i64 k, .int .i64 y, .int .i64 n, v]] w fun e w' => e = .returned (.int .i64 (Z1 ⟨k, y, n, l⟩)) ∧ Zj w w' := by
 obtain ⟨ao, cap, rfl, -, -⟩ := Yt hv;clear hv;have HK : Hid (k = 1 ∨ k = 2 ∨ k = 3) := by show _ ∨ _; omega
 have hw : Z1 ⟨k, y, n, l⟩ = if V6 ⟨k, y, n, l⟩ = false then 3 else if Vw k < (l.length : Int) then 4 else 0 := by
  rw [Zcj, if_neg (by simp; omega)]
 clear hk;cases hr : V6 ⟨k, y, n, l⟩ with
 | false =>
  have HF : Hid (Z1 ⟨k, y, n, l⟩ = 3) := by show Z1 _ = 3; rw [hw, hr]; rfl
  have HR : Hid (V6 ⟨k, y, n, l⟩ = false) := hr;clear hw hr;rcases HK.out with h | h | h
  all_goals
   first
    | (have d1 : (k != 1) = false := by simp [h])
    | (have d1 : (k != 1) = true := by simp [h]); (have d2 : (k != 2) = false := by simp [h])
    | (have d1 : (k != 1) = true := by simp [h]); (have d2 : (k != 2) = true := by simp [h]); (have d3 : (k != 3) = false := by simp [h])
   clear h;go_enter Tryz.func30, Tryz.ntmps30;go_wp2_with fail;refine (Kh k y n l _ _).mono ?_;rw [HR.out];rintro e w1 ⟨rfl, g1⟩;go_wp2_with fail;go_ret;exact ⟨Xf HF.out.symm, (Zd _ _).trans g1⟩
 | true =>
  have HW : Hid (Z1 ⟨k, y, n, l⟩ = if Vw k < (l.length : Int) then 4 else 0) := by show Z1 _ = _; rw [hw, hr]; rfl
  have HR : Hid (V6 ⟨k, y, n, l⟩ = true) := hr;clear hw hr;rcases HK.out with h | h | h
  ·have d1 : (k != 1) = false := by simp [h]
   clear h;go_enter Tryz.func30, Tryz.ntmps30;go_wp2_with fail;refine (Kh k y n l _ _).mono ?_;rw [HR.out];rintro e w1 ⟨rfl, g1⟩;have g : Zj w w1 := (Zd _ _).trans g1;have hc0 : w1.cell? ⟨w.heap.size, 0, none⟩ = some (.int .i64 k) := (Below.cell g1 (p := ⟨w.heap.size, 0, none⟩) (by simp)).trans (by simp);have hc3 : w1.cell? ⟨w.heap.size, 3, none⟩ = some (.slice ao l.length cap) := (Below.cell g1 (p := ⟨w.heap.size, 3, none⟩) (by simp)).trans (by simp);clear g1;go_wp2_with fail;refine Zy [ex (.pointer (some ⟨w.heap.size, 3, none⟩)), ex (.slice ao l.length cap), ex (.int .i64 l.length), ex (.pointer (some ⟨w.heap.size, 0, none⟩)), ex (.int .i64 k), ex (.int .i64 (Vw k)), ex (.bool (decide (Vw k < (l.length : Int)))), ex (.bool (decide (Vw k < (l.length : Int))))] (by kernel_rfl) (by kernel_rfl) ⟨Zf _, Zf _, Zf _, Zf _, Zf _, Zf _, Zf _, Zf _, trivial⟩ ?_ ?_
   ·refine ⟨?_, ?_, ?_, ?_, ?_, ?_, ?_, ?_, trivial⟩
    ·refine Za rfl fun a w' ek ef hg hin => ?_;have e1 : a (.tmp 1) = .pointer (some ⟨w.heap.size, 0, none⟩) := Zq hin 1 rfl;refine Zi ?_ rfl;clear hin hg;go_simp;all_goals go_arith
    ·refine Za rfl fun a w' ek ef hg hin => ?_;have e22 : a (.tmp 22) = _ := Zc hin 0 rfl;have h1 := (Below.cell hg (Zs hc3)).trans hc3;refine Zi ?_ rfl;clear hin hg;go_simp;all_goals go_arith
    ·refine Za rfl fun a w' ek ef hg hin => ?_;have e23 : a (.tmp 23) = _ := Zc hin 1 rfl;refine Zi ?_ rfl;clear hin hg;go_simp;all_goals go_arith
    ·refine Za rfl fun a w' ek ef hg hin => ?_;have e1 : a (.tmp 1) = .pointer (some ⟨w.heap.size, 0, none⟩) := Zq hin 1 rfl;refine Zi ?_ rfl;clear hin hg;go_simp;all_goals go_arith
    ·refine Za rfl fun a w' ek ef hg hin => ?_;have e25 : a (.tmp 25) = _ := Zc hin 3 rfl;have h1 := (Below.cell hg (Zs hc0)).trans hc0;refine Zi ?_ rfl;clear hin hg;go_simp;all_goals go_arith
    ·refine Za rfl fun a w' ek ef hg hin => ?_;have e26 : a (.tmp 26) = _ := Zc hin 4 rfl;refine Yq (f := 53) (args := #[.int .i64 k]) ?_ ((Zac k w').mono ?_)
     ·clear hin hg;go_simp;all_goals go_arith
     ·rintro e w2 ⟨rfl, rfl⟩;exact ⟨_, rfl, Zj.refl _, rfl⟩
    ·refine Za rfl fun a w' ek ef hg hin => ?_;have e24 : a (.tmp 24) = _ := Zc hin 2 rfl;have e27 : a (.tmp 27) = _ := Zc hin 5 rfl;refine Zi ?_ rfl;clear hin hg;go_simp;all_goals go_arith
    ·refine Za rfl fun a w' ek ef hg hin => ?_;have e : a (.tmp 28) = _ := Zc hin 6 rfl;exact Yk rfl e
   ·intro vs w' hg ht;obtain ⟨q22, q23, q24, q25, q26, q27, q28, q21, -⟩ := ht;have r22 : vs 0 = .pointer (some ⟨w.heap.size, 3, none⟩) := q22;have r23 : vs 1 = .slice ao l.length cap := q23;have r24 : vs 2 = .int .i64 l.length := q24;have r25 : vs 3 = .pointer (some ⟨w.heap.size, 0, none⟩) := q25;have r26 : vs 4 = .int .i64 k := q26;have r27 : vs 5 = .int .i64 (Vw k) := q27;have r28 : vs 6 = .bool (decide (Vw k < (l.length : Int))) := q28;have r21 : vs 7 = .bool (decide (Vw k < (l.length : Int))) := q21;clear q22 q23 q24 q25 q26 q27 q28 q21;simp only [Z9, Act.put, List.setIfInBounds_toArray, List.set_cons_zero, List.set_cons_succ, r22, r23, r24, r25, r26, r27, r28, r21];clear r22 r23 r24 r25 r26 r27 r28 r21;have g2 : Zj w w' := g.trans hg;clear hg g hc0 hc3;by_cases hlt : Vw k < (l.length : Int)
    ·have HF : Hid (Z1 ⟨k, y, n, l⟩ = 4) := by show Z1 _ = 4; rw [HW.out, if_pos hlt]
     rw [decide_eq_true hlt];clear hlt;go_wp2;go_ret;exact ⟨Xf HF.out.symm, g2⟩
    ·have HF : Hid (Z1 ⟨k, y, n, l⟩ = 0) := by show Z1 _ = 0; rw [HW.out, if_neg hlt]
     rw [decide_eq_false hlt];clear hlt;go_wp2;go_ret;exact ⟨Xf HF.out.symm, g2⟩
  ·have d1 : (k != 1) = true := by simp [h]
   have d2 : (k != 2) = false := by simp [h]
   clear h;go_enter Tryz.func30, Tryz.ntmps30;go_wp2_with fail;refine (Kh k y n l _ _).mono ?_;rw [HR.out];rintro e w1 ⟨rfl, g1⟩;have g : Zj w w1 := (Zd _ _).trans g1;have hc0 : w1.cell? ⟨w.heap.size, 0, none⟩ = some (.int .i64 k) := (Below.cell g1 (p := ⟨w.heap.size, 0, none⟩) (by simp)).trans (by simp);have hc3 : w1.cell? ⟨w.heap.size, 3, none⟩ = some (.slice ao l.length cap) := (Below.cell g1 (p := ⟨w.heap.size, 3, none⟩) (by simp)).trans (by simp);clear g1;go_wp2_with fail;refine Zy [ex (.pointer (some ⟨w.heap.size, 3, none⟩)), ex (.slice ao l.length cap), ex (.int .i64 l.length), ex (.pointer (some ⟨w.heap.size, 0, none⟩)), ex (.int .i64 k), ex (.int .i64 (Vw k)), ex (.bool (decide (Vw k < (l.length : Int)))), ex (.bool (decide (Vw k < (l.length : Int))))] (by kernel_rfl) (by kernel_rfl) ⟨Zf _, Zf _, Zf _, Zf _, Zf _, Zf _, Zf _, Zf _, trivial⟩ ?_ ?_
   ·refine ⟨?_, ?_, ?_, ?_, ?_, ?_, ?_, ?_, trivial⟩
    ·refine Za rfl fun a w' ek ef hg hin => ?_;have e1 : a (.tmp 1) = .pointer (some ⟨w.heap.size, 0, none⟩) := Zq hin 1 rfl;refine Zi ?_ rfl;clear hin hg;go_simp;all_goals go_arith
    ·refine Za rfl fun a w' ek ef hg hin => ?_;have e22 : a (.tmp 22) = _ := Zc hin 0 rfl;have h1 := (Below.cell hg (Zs hc3)).trans hc3;refine Zi ?_ rfl;clear hin hg;go_simp;all_goals go_arith
    ·refine Za rfl fun a w' ek ef hg hin => ?_;have e23 : a (.tmp 23) = _ := Zc hin 1 rfl;refine Zi ?_ rfl;clear hin hg;go_simp;all_goals go_arith
    ·refine Za rfl fun a w' ek ef hg hin => ?_;have e1 : a (.tmp 1) = .pointer (some ⟨w.heap.size, 0, none⟩) := Zq hin 1 rfl;refine Zi ?_ rfl;clear hin hg;go_simp;all_goals go_arith
    ·refine Za rfl fun a w' ek ef hg hin => ?_;have e25 : a (.tmp 25) = _ := Zc hin 3 rfl;have h1 := (Below.cell hg (Zs hc0)).trans hc0;refine Zi ?_ rfl;clear hin hg;go_simp;all_goals go_arith
    ·refine Za rfl fun a w' ek ef hg hin => ?_;have e26 : a (.tmp 26) = _ := Zc hin 4 rfl;refine Yq (f := 53) (args := #[.int .i64 k]) ?_ ((Zac k w').mono ?_)
     ·clear hin hg;go_simp;all_goals go_arith
     ·rintro e w2 ⟨rfl, rfl⟩;exact ⟨_, rfl, Zj.refl _, rfl⟩
    ·refine Za rfl fun a w' ek ef hg hin => ?_;have e24 : a (.tmp 24) = _ := Zc hin 2 rfl;have e27 : a (.tmp 27) = _ := Zc hin 5 rfl;refine Zi ?_ rfl;clear hin hg;go_simp;all_goals go_arith
    ·refine Za rfl fun a w' ek ef hg hin => ?_;have e : a (.tmp 28) = _ := Zc hin 6 rfl;exact Yk rfl e
   ·intro vs w' hg ht;obtain ⟨q22, q23, q24, q25, q26, q27, q28, q21, -⟩ := ht;have r22 : vs 0 = .pointer (some ⟨w.heap.size, 3, none⟩) := q22;have r23 : vs 1 = .slice ao l.length cap := q23;have r24 : vs 2 = .int .i64 l.length := q24;have r25 : vs 3 = .pointer (some ⟨w.heap.size, 0, none⟩) := q25;have r26 : vs 4 = .int .i64 k := q26;have r27 : vs 5 = .int .i64 (Vw k) := q27;have r28 : vs 6 = .bool (decide (Vw k < (l.length : Int))) := q28;have r21 : vs 7 = .bool (decide (Vw k < (l.length : Int))) := q21;clear q22 q23 q24 q25 q26 q27 q28 q21;simp only [Z9, Act.put, List.setIfInBounds_toArray, List.set_cons_zero, List.set_cons_succ, r22, r23, r24, r25, r26, r27, r28, r21];clear r22 r23 r24 r25 r26 r27 r28 r21;have g2 : Zj w w' := g.trans hg;clear hg g hc0 hc3;by_cases hlt : Vw k < (l.length : Int)
    ·have HF : Hid (Z1 ⟨k, y, n, l⟩ = 4) := by show Z1 _ = 4; rw [HW.out, if_pos hlt]
     rw [decide_eq_true hlt];clear hlt;go_wp2;go_ret;exact ⟨Xf HF.out.symm, g2⟩
    ·have HF : Hid (Z1 ⟨k, y, n, l⟩ = 0) := by show Z1 _ = 0; rw [HW.out, if_neg hlt]
     rw [decide_eq_false hlt];clear hlt;go_wp2;go_ret;exact ⟨Xf HF.out.symm, g2⟩
  ·have d1 : (k != 1) = true := by simp [h]
   have d2 : (k != 2) = true := by simp [h]
   have d3 : (k != 3) = false := by simp [h]
   clear h;go_enter Tryz.func30, Tryz.ntmps30;go_wp2_with fail;refine (Kh k y n l _ _).mono ?_;rw [HR.out];rintro e w1 ⟨rfl, g1⟩;have g : Zj w w1 := (Zd _ _).trans g1;have hc0 : w1.cell? ⟨w.heap.size, 0, none⟩ = some (.int .i64 k) := (Below.cell g1 (p := ⟨w.heap.size, 0, none⟩) (by simp)).trans (by simp);have hc3 : w1.cell? ⟨w.heap.size, 3, none⟩ = some (.slice ao l.length cap) := (Below.cell g1 (p := ⟨w.heap.size, 3, none⟩) (by simp)).trans (by simp);clear g1;go_wp2_with fail;refine Zy [ex (.pointer (some ⟨w.heap.size, 3, none⟩)), ex (.slice ao l.length cap), ex (.int .i64 l.length), ex (.pointer (some ⟨w.heap.size, 0, none⟩)), ex (.int .i64 k), ex (.int .i64 (Vw k)), ex (.bool (decide (Vw k < (l.length : Int)))), ex (.bool (decide (Vw k < (l.length : Int))))] (by kernel_rfl) (by kernel_rfl) ⟨Zf _, Zf _, Zf _, Zf _, Zf _, Zf _, Zf _, Zf _, trivial⟩ ?_ ?_
   ·refine ⟨?_, ?_, ?_, ?_, ?_, ?_, ?_, ?_, trivial⟩
    ·refine Za rfl fun a w' ek ef hg hin => ?_;have e1 : a (.tmp 1) = .pointer (some ⟨w.heap.size, 0, none⟩) := Zq hin 1 rfl;refine Zi ?_ rfl;clear hin hg;go_simp;all_goals go_arith
    ·refine Za rfl fun a w' ek ef hg hin => ?_;have e22 : a (.tmp 22) = _ := Zc hin 0 rfl;have h1 := (Below.cell hg (Zs hc3)).trans hc3;refine Zi ?_ rfl;clear hin hg;go_simp;all_goals go_arith
    ·refine Za rfl fun a w' ek ef hg hin => ?_;have e23 : a (.tmp 23) = _ := Zc hin 1 rfl;refine Zi ?_ rfl;clear hin hg;go_simp;all_goals go_arith
    ·refine Za rfl fun a w' ek ef hg hin => ?_;have e1 : a (.tmp 1) = .pointer (some ⟨w.heap.size, 0, none⟩) := Zq hin 1 rfl;refine Zi ?_ rfl;clear hin hg;go_simp;all_goals go_arith
    ·refine Za rfl fun a w' ek ef hg hin => ?_;have e25 : a (.tmp 25) = _ := Zc hin 3 rfl;have h1 := (Below.cell hg (Zs hc0)).trans hc0;refine Zi ?_ rfl;clear hin hg;go_simp;all_goals go_arith
    ·refine Za rfl fun a w' ek ef hg hin => ?_;have e26 : a (.tmp 26) = _ := Zc hin 4 rfl;refine Yq (f := 53) (args := #[.int .i64 k]) ?_ ((Zac k w').mono ?_)
     ·clear hin hg;go_simp;all_goals go_arith
     ·rintro e w2 ⟨rfl, rfl⟩;exact ⟨_, rfl, Zj.refl _, rfl⟩
    ·refine Za rfl fun a w' ek ef hg hin => ?_;have e24 : a (.tmp 24) = _ := Zc hin 2 rfl;have e27 : a (.tmp 27) = _ := Zc hin 5 rfl;refine Zi ?_ rfl;clear hin hg;go_simp;all_goals go_arith
    ·refine Za rfl fun a w' ek ef hg hin => ?_;have e : a (.tmp 28) = _ := Zc hin 6 rfl;exact Yk rfl e
   ·intro vs w' hg ht;obtain ⟨q22, q23, q24, q25, q26, q27, q28, q21, -⟩ := ht;have r22 : vs 0 = .pointer (some ⟨w.heap.size, 3, none⟩) := q22;have r23 : vs 1 = .slice ao l.length cap := q23;have r24 : vs 2 = .int .i64 l.length := q24;have r25 : vs 3 = .pointer (some ⟨w.heap.size, 0, none⟩) := q25;have r26 : vs 4 = .int .i64 k := q26;have r27 : vs 5 = .int .i64 (Vw k) := q27;have r28 : vs 6 = .bool (decide (Vw k < (l.length : Int))) := q28;have r21 : vs 7 = .bool (decide (Vw k < (l.length : Int))) := q21;clear q22 q23 q24 q25 q26 q27 q28 q21;simp only [Z9, Act.put, List.setIfInBounds_toArray, List.set_cons_zero, List.set_cons_succ, r22, r23, r24, r25, r26, r27, r28, r21];clear r22 r23 r24 r25 r26 r27 r28 r21;have g2 : Zj w w' := g.trans hg;clear hg g hc0 hc3;by_cases hlt : Vw k < (l.length : Int)
    ·have HF : Hid (Z1 ⟨k, y, n, l⟩ = 4) := by show Z1 _ = 4; rw [HW.out, if_pos hlt]
     rw [decide_eq_true hlt];clear hlt;go_wp2;go_ret;exact ⟨Xf HF.out.symm, g2⟩
    ·have HF : Hid (Z1 ⟨k, y, n, l⟩ = 0) := by show Z1 _ = 0; rw [HW.out, if_neg hlt]
     rw [decide_eq_false hlt];clear hlt;go_wp2;go_ret;exact ⟨Xf HF.out.symm, g2⟩
theorem Zim : Zwb := by
 rintro ⟨k, y, n, l⟩ a c w _ hb;by_cases hk : 1 ≤ k ∧ k ≤ 3
 ·exact Zp2 k y n l _ w hk hb
 ·exact Zkj k y n l _ w (by omega)
end Go.Proofs.YtgaecpdokgklpadGreatDoor
