import Derived.Test.YtpdnapbchcdhlabMdlWC
set_option maxHeartbeats 8000000
namespace Go.Proofs.Ytpdnapbchcdhlab
set_option maxRecDepth 100000
open Go.RowKit
open Plain Reg
def Y6 (d : Dd) : Bool := if d.kind = 3 then decide (1 ≤ d.key ∧ d.key ≤ 255 ∧ 1 ≤ d.num ∧ d.num ≤ 60000) else decide (1 ≤ d.key ∧ d.key ≤ 255 ∧ d.num = 0)
def X6 (k : Int) : Int := if k = 1 then 8 else 0
theorem Qi (d : Dd) : Zq d = if d.kind < 1 ∨ 3 < d.kind then 1 else if Y6 d = false then 3 else if X6 d.kind < (d.data.length : Int) then 4 else 0 := by
 unfold Zq Y6 X6;by_cases hk : d.kind < 1 ∨ 3 < d.kind
 ·rw [if_pos hk, if_pos hk]
 ·rw [if_neg hk, if_neg hk];by_cases h3 : d.kind = 3
  ·rw [if_pos h3, if_pos h3, if_pos h3, if_neg (show ¬ d.kind = 1 by omega)];by_cases hr : 1 ≤ d.key ∧ d.key ≤ 255 ∧ 1 ≤ d.num ∧ d.num ≤ 60000
   ·rw [if_neg (show ¬ (d.key < 1 ∨ 255 < d.key ∨ d.num < 1 ∨ 60000 < d.num) by omega), decide_eq_true hr, if_neg (show ¬ true = false by simp)];by_cases h0 : d.data.length = 0
    ·rw [if_neg (by omega), if_neg (by omega)]
    ·rw [if_pos (by omega), if_pos (by omega)]
   ·rw [if_pos (show d.key < 1 ∨ 255 < d.key ∨ d.num < 1 ∨ 60000 < d.num by omega), decide_eq_false hr, if_pos rfl]
  ·rw [if_neg h3, if_neg h3, if_neg h3];by_cases hr : 1 ≤ d.key ∧ d.key ≤ 255 ∧ d.num = 0
   ·rw [if_neg (show ¬ (d.key < 1 ∨ 255 < d.key ∨ d.num < 0 ∨ 0 < d.num) by omega), decide_eq_true hr, if_neg (show ¬ true = false by simp)];by_cases h1 : d.kind = 1
    ·rw [if_pos h1];by_cases h8 : 8 < d.data.length
     ·rw [if_pos (by omega), if_pos (by omega)]
     ·rw [if_neg (by omega), if_neg (by omega)]
    ·rw [if_neg h1];by_cases h0 : d.data.length = 0
     ·rw [if_neg (by omega), if_neg (by omega)]
     ·rw [if_pos (by omega), if_pos (by omega)]
   ·rw [if_pos (show d.key < 1 ∨ 255 < d.key ∨ d.num < 0 ∨ 0 < d.num by omega), decide_eq_false hr, if_pos rfl]
theorem Xf (k y n : Int) (l : List UInt8) (v : Value) (w : World) :
  Calls Try.prog 53 #[.agg #[.int .i64 k, .int .i64 y, .int .i64 n, v]] w fun e w' => e = .returned (.bool (Y6 ⟨k, y, n, l⟩)) ∧ Zi w w' := by
 go_enter Try.func53, Try.ntmps53;go_wp2;all_goals go_ret
 all_goals refine ⟨?_, Ze _ _⟩
 all_goals simp_all [Y6]
 all_goals first | omega | (split <;> omega) | (rw [Bool.eq_iff_iff]; simp; done) | (rw [Bool.eq_iff_iff]; simp; omega)
theorem X1 (k : Int) (w : World) :
  Calls Try.prog 54 #[.int .i64 k] w fun e w' => e = .returned (.int .i64 (X6 k)) ∧ w = w' := by
 go_enter Try.func54, Try.ntmps54;go_wp2;all_goals go_ret
 all_goals simp_all [X6]
theorem Kz (k y n : Int) (l : List UInt8) (v : Value) (w : World) (hk : k < 1 ∨ 3 < k) :
  Calls Try.prog 18 #[.agg #[.int .i64 k, .int .i64 y, .int .i64 n, v]] w fun e w' => e = .returned (.int .i64 (Zq ⟨k, y, n, l⟩)) ∧ Zi w w' := by
 have HW : Hid (Zq ⟨k, y, n, l⟩ = 1) := by show Zq _ = 1; rw [Qi, if_pos (by exact hk)]
 have d1 : (k != 1) = true := by simp; omega
 have d2 : (k != 2) = true := by simp; omega
 have d3 : (k != 3) = true := by simp; omega
 go_enter Try.func18, Try.ntmps18;go_wp2_with fail;go_ret;exact ⟨Yp HW.out.symm, Ze _ _⟩
theorem Zak (k y n : Int) (l : List UInt8) (v : Value) (w : World) (hk : 1 ≤ k ∧ k ≤ 3) (hv : Bytes w v l) :
  Calls Try.prog 18 #[.agg #[.int .i64 k, .int .i64 y, .int .i64 n, v]] w fun e w' => e = .returned (.int .i64 (Zq ⟨k, y, n, l⟩)) ∧ Zi w w' := by
 obtain ⟨ao, cap, rfl, -, -⟩ := Xg hv;clear hv;have HK : Hid (k = 1 ∨ k = 2 ∨ k = 3) := by show _ ∨ _; omega
 have hw : Zq ⟨k, y, n, l⟩ = if Y6 ⟨k, y, n, l⟩ = false then 3 else if X6 k < (l.length : Int) then 4 else 0 := by
  rw [Qi, if_neg (by simp; omega)]
 clear hk;cases hr : Y6 ⟨k, y, n, l⟩ with
 | false =>
  have HF : Hid (Zq ⟨k, y, n, l⟩ = 3) := by show Zq _ = 3; rw [hw, hr]; rfl
  have HR : Hid (Y6 ⟨k, y, n, l⟩ = false) := hr;clear hw hr;rcases HK.out with h | h | h
  all_goals
   first
    | (have d1 : (k != 1) = false := by simp [h])
    | (have d1 : (k != 1) = true := by simp [h]); (have d2 : (k != 2) = false := by simp [h])
    | (have d1 : (k != 1) = true := by simp [h]); (have d2 : (k != 2) = true := by simp [h]); (have d3 : (k != 3) = false := by simp [h])
   clear h;go_enter Try.func18, Try.ntmps18;go_wp2_with fail;refine (Xf k y n l _ _).mono ?_;rw [HR.out];rintro e w1 ⟨rfl, g1⟩;go_wp2_with fail;go_ret;exact ⟨Yp HF.out.symm, (Ze _ _).trans g1⟩
 | true =>
  have HW : Hid (Zq ⟨k, y, n, l⟩ = if X6 k < (l.length : Int) then 4 else 0) := by show Zq _ = _; rw [hw, hr]; rfl
  have HR : Hid (Y6 ⟨k, y, n, l⟩ = true) := hr;clear hw hr;rcases HK.out with h | h | h
  ·have d1 : (k != 1) = false := by simp [h]
   clear h;go_enter Try.func18, Try.ntmps18;go_wp2_with fail;refine (Xf k y n l _ _).mono ?_;rw [HR.out];rintro e w1 ⟨rfl, g1⟩;have g : Zi w w1 := (Ze _ _).trans g1;have hc0 : w1.cell? ⟨w.heap.size, 0, none⟩ = some (.int .i64 k) := (Below.cell g1 (p := ⟨w.heap.size, 0, none⟩) (by simp)).trans (by simp);have hc3 : w1.cell? ⟨w.heap.size, 3, none⟩ = some (.slice ao l.length cap) := (Below.cell g1 (p := ⟨w.heap.size, 3, none⟩) (by simp)).trans (by simp);clear g1;go_wp2_with fail;refine Zw [ex (.pointer (some ⟨w.heap.size, 3, none⟩)), ex (.slice ao l.length cap), ex (.int .i64 l.length), ex (.pointer (some ⟨w.heap.size, 0, none⟩)), ex (.int .i64 k), ex (.int .i64 (X6 k)), ex (.bool (decide (X6 k < (l.length : Int)))), ex (.bool (decide (X6 k < (l.length : Int))))] (by kernel_rfl) (by kernel_rfl) ⟨Zd _, Zd _, Zd _, Zd _, Zd _, Zd _, Zd _, Zd _, trivial⟩ ?_ ?_
   ·refine ⟨?_, ?_, ?_, ?_, ?_, ?_, ?_, ?_, trivial⟩
    ·refine Za rfl fun a _ _ _ B A => ?_;have e1 : a (.tmp 1) = .pointer (some ⟨w.heap.size, 0, none⟩) := Zk A 1 rfl;refine Zg ?_ rfl;clear A B;go_simp;all_goals go_arith
    ·refine Za rfl fun a _ _ _ B A => ?_;have e22 : a (.tmp 22) = _ := Zb A 0 rfl;have h1 := (Below.cell B (Zr hc3)).trans hc3;refine Zg ?_ rfl;clear A B;go_simp;all_goals go_arith
    ·refine Za rfl fun a _ _ _ B A => ?_;have e23 : a (.tmp 23) = _ := Zb A 1 rfl;refine Zg ?_ rfl;clear A B;go_simp;all_goals go_arith
    ·refine Za rfl fun a _ _ _ B A => ?_;have e1 : a (.tmp 1) = .pointer (some ⟨w.heap.size, 0, none⟩) := Zk A 1 rfl;refine Zg ?_ rfl;clear A B;go_simp;all_goals go_arith
    ·refine Za rfl fun a _ _ _ B A => ?_;have e25 : a (.tmp 25) = _ := Zb A 3 rfl;have h1 := (Below.cell B (Zr hc0)).trans hc0;refine Zg ?_ rfl;clear A B;go_simp;all_goals go_arith
    ·refine Za rfl fun a B _ _ C A => ?_;have e26 : a (.tmp 26) = _ := Zb A 4 rfl;refine Z2 (f := 54) (args := #[.int .i64 k]) ?_ ((X1 k B).mono ?_)
     ·clear A C;go_simp;all_goals go_arith
     ·rintro e w2 ⟨rfl, rfl⟩;exact ⟨_, rfl, Zi.refl _, rfl⟩
    ·refine Za rfl fun a _ _ _ B A => ?_;have e24 : a (.tmp 24) = _ := Zb A 2 rfl;have e27 : a (.tmp 27) = _ := Zb A 5 rfl;refine Zg ?_ rfl;clear A B;go_simp;all_goals go_arith
    ·exact Za rfl fun a _ _ _ _ A => Yx rfl (Zb A 6 rfl)
   ·intro vs w' hg ht;obtain ⟨(r22 : vs 0 = _), (r23 : vs 1 = _), (r24 : vs 2 = _), (r25 : vs 3 = _), (r26 : vs 4 = _), (r27 : vs 5 = _), (r28 : vs 6 = _), (r21 : vs 7 = _), -⟩ := ht;simp only [Z4, Act.put, List.setIfInBounds_toArray, List.set_cons_zero, List.set_cons_succ, r22, r23, r24, r25, r26, r27, r28, r21];clear r22 r23 r24 r25 r26 r27 r28 r21;have g2 : Zi w w' := g.trans hg;clear hg g hc0 hc3;by_cases hlt : X6 k < (l.length : Int)
    ·have HF : Hid (Zq ⟨k, y, n, l⟩ = 4) := by show Zq _ = 4; rw [HW.out, if_pos hlt]
     rw [decide_eq_true hlt];clear hlt;go_wp2;go_ret;exact ⟨Yp HF.out.symm, g2⟩
    ·have HF : Hid (Zq ⟨k, y, n, l⟩ = 0) := by show Zq _ = 0; rw [HW.out, if_neg hlt]
     rw [decide_eq_false hlt];clear hlt;go_wp2;go_ret;exact ⟨Yp HF.out.symm, g2⟩
  ·have d1 : (k != 1) = true := by simp [h]
   have d2 : (k != 2) = false := by simp [h]
   clear h;go_enter Try.func18, Try.ntmps18;go_wp2_with fail;refine (Xf k y n l _ _).mono ?_;rw [HR.out];rintro e w1 ⟨rfl, g1⟩;have g : Zi w w1 := (Ze _ _).trans g1;have hc0 : w1.cell? ⟨w.heap.size, 0, none⟩ = some (.int .i64 k) := (Below.cell g1 (p := ⟨w.heap.size, 0, none⟩) (by simp)).trans (by simp);have hc3 : w1.cell? ⟨w.heap.size, 3, none⟩ = some (.slice ao l.length cap) := (Below.cell g1 (p := ⟨w.heap.size, 3, none⟩) (by simp)).trans (by simp);clear g1;go_wp2_with fail;refine Zw [ex (.pointer (some ⟨w.heap.size, 3, none⟩)), ex (.slice ao l.length cap), ex (.int .i64 l.length), ex (.pointer (some ⟨w.heap.size, 0, none⟩)), ex (.int .i64 k), ex (.int .i64 (X6 k)), ex (.bool (decide (X6 k < (l.length : Int)))), ex (.bool (decide (X6 k < (l.length : Int))))] (by kernel_rfl) (by kernel_rfl) ⟨Zd _, Zd _, Zd _, Zd _, Zd _, Zd _, Zd _, Zd _, trivial⟩ ?_ ?_
   ·refine ⟨?_, ?_, ?_, ?_, ?_, ?_, ?_, ?_, trivial⟩
    ·refine Za rfl fun a _ _ _ B A => ?_;have e1 : a (.tmp 1) = .pointer (some ⟨w.heap.size, 0, none⟩) := Zk A 1 rfl;refine Zg ?_ rfl;clear A B;go_simp;all_goals go_arith
    ·refine Za rfl fun a _ _ _ B A => ?_;have e22 : a (.tmp 22) = _ := Zb A 0 rfl;have h1 := (Below.cell B (Zr hc3)).trans hc3;refine Zg ?_ rfl;clear A B;go_simp;all_goals go_arith
    ·refine Za rfl fun a _ _ _ B A => ?_;have e23 : a (.tmp 23) = _ := Zb A 1 rfl;refine Zg ?_ rfl;clear A B;go_simp;all_goals go_arith
    ·refine Za rfl fun a _ _ _ B A => ?_;have e1 : a (.tmp 1) = .pointer (some ⟨w.heap.size, 0, none⟩) := Zk A 1 rfl;refine Zg ?_ rfl;clear A B;go_simp;all_goals go_arith
    ·refine Za rfl fun a _ _ _ B A => ?_;have e25 : a (.tmp 25) = _ := Zb A 3 rfl;have h1 := (Below.cell B (Zr hc0)).trans hc0;refine Zg ?_ rfl;clear A B;go_simp;all_goals go_arith
    ·refine Za rfl fun a B _ _ C A => ?_;have e26 : a (.tmp 26) = _ := Zb A 4 rfl;refine Z2 (f := 54) (args := #[.int .i64 k]) ?_ ((X1 k B).mono ?_)
     ·clear A C;go_simp;all_goals go_arith
     ·rintro e w2 ⟨rfl, rfl⟩;exact ⟨_, rfl, Zi.refl _, rfl⟩
    ·refine Za rfl fun a _ _ _ B A => ?_;have e24 : a (.tmp 24) = _ := Zb A 2 rfl;have e27 : a (.tmp 27) = _ := Zb A 5 rfl;refine Zg ?_ rfl;clear A B;go_simp;all_goals go_arith
    ·exact Za rfl fun a _ _ _ _ A => Yx rfl (Zb A 6 rfl)
   ·intro vs w' hg ht;obtain ⟨(r22 : vs 0 = _), (r23 : vs 1 = _), (r24 : vs 2 = _), (r25 : vs 3 = _), (r26 : vs 4 = _), (r27 : vs 5 = _), (r28 : vs 6 = _), (r21 : vs 7 = _), -⟩ := ht;simp only [Z4, Act.put, List.setIfInBounds_toArray, List.set_cons_zero, List.set_cons_succ, r22, r23, r24, r25, r26, r27, r28, r21];clear r22 r23 r24 r25 r26 r27 r28 r21;have g2 : Zi w w' := g.trans hg;clear hg g hc0 hc3;by_cases hlt : X6 k < (l.length : Int)
    ·have HF : Hid (Zq ⟨k, y, n, l⟩ = 4) := by show Zq _ = 4; rw [HW.out, if_pos hlt]
     rw [decide_eq_true hlt];clear hlt;go_wp2;go_ret;exact ⟨Yp HF.out.symm, g2⟩
    ·have HF : Hid (Zq ⟨k, y, n, l⟩ = 0) := by show Zq _ = 0; rw [HW.out, if_neg hlt]
     rw [decide_eq_false hlt];clear hlt;go_wp2;go_ret;exact ⟨Yp HF.out.symm, g2⟩
  ·have d1 : (k != 1) = true := by simp [h]
   have d2 : (k != 2) = true := by simp [h]
   have d3 : (k != 3) = false := by simp [h]
   clear h;go_enter Try.func18, Try.ntmps18;go_wp2_with fail;refine (Xf k y n l _ _).mono ?_;rw [HR.out];rintro e w1 ⟨rfl, g1⟩;have g : Zi w w1 := (Ze _ _).trans g1;have hc0 : w1.cell? ⟨w.heap.size, 0, none⟩ = some (.int .i64 k) := (Below.cell g1 (p := ⟨w.heap.size, 0, none⟩) (by simp)).trans (by simp);have hc3 : w1.cell? ⟨w.heap.size, 3, none⟩ = some (.slice ao l.length cap) := (Below.cell g1 (p := ⟨w.heap.size, 3, none⟩) (by simp)).trans (by simp);clear g1;go_wp2_with fail;refine Zw [ex (.pointer (some ⟨w.heap.size, 3, none⟩)), ex (.slice ao l.length cap), ex (.int .i64 l.length), ex (.pointer (some ⟨w.heap.size, 0, none⟩)), ex (.int .i64 k), ex (.int .i64 (X6 k)), ex (.bool (decide (X6 k < (l.length : Int)))), ex (.bool (decide (X6 k < (l.length : Int))))] (by kernel_rfl) (by kernel_rfl) ⟨Zd _, Zd _, Zd _, Zd _, Zd _, Zd _, Zd _, Zd _, trivial⟩ ?_ ?_
   ·refine ⟨?_, ?_, ?_, ?_, ?_, ?_, ?_, ?_, trivial⟩
    ·refine Za rfl fun a _ _ _ B A => ?_;have e1 : a (.tmp 1) = .pointer (some ⟨w.heap.size, 0, none⟩) := Zk A 1 rfl;refine Zg ?_ rfl;clear A B;go_simp;all_goals go_arith
    ·refine Za rfl fun a _ _ _ B A => ?_;have e22 : a (.tmp 22) = _ := Zb A 0 rfl;have h1 := (Below.cell B (Zr hc3)).trans hc3;refine Zg ?_ rfl;clear A B;go_simp;all_goals go_arith
    ·refine Za rfl fun a _ _ _ B A => ?_;have e23 : a (.tmp 23) = _ := Zb A 1 rfl;refine Zg ?_ rfl;clear A B;go_simp;all_goals go_arith
    ·refine Za rfl fun a _ _ _ B A => ?_;have e1 : a (.tmp 1) = .pointer (some ⟨w.heap.size, 0, none⟩) := Zk A 1 rfl;refine Zg ?_ rfl;clear A B;go_simp;all_goals go_arith
    ·refine Za rfl fun a _ _ _ B A => ?_;have e25 : a (.tmp 25) = _ := Zb A 3 rfl;have h1 := (Below.cell B (Zr hc0)).trans hc0;refine Zg ?_ rfl;clear A B;go_simp;all_goals go_arith
    ·refine Za rfl fun a B _ _ C A => ?_;have e26 : a (.tmp 26) = _ := Zb A 4 rfl;refine Z2 (f := 54) (args := #[.int .i64 k]) ?_ ((X1 k B).mono ?_)
     ·clear A C;go_simp;all_goals go_arith
     ·rintro e w2 ⟨rfl, rfl⟩;exact ⟨_, rfl, Zi.refl _, rfl⟩
    ·refine Za rfl fun a _ _ _ B A => ?_;have e24 : a (.tmp 24) = _ := Zb A 2 rfl;have e27 : a (.tmp 27) = _ := Zb A 5 rfl;refine Zg ?_ rfl;clear A B;go_simp;all_goals go_arith
    ·exact Za rfl fun a _ _ _ _ A => Yx rfl (Zb A 6 rfl)
   ·intro vs w' hg ht;obtain ⟨(r22 : vs 0 = _), (r23 : vs 1 = _), (r24 : vs 2 = _), (r25 : vs 3 = _), (r26 : vs 4 = _), (r27 : vs 5 = _), (r28 : vs 6 = _), (r21 : vs 7 = _), -⟩ := ht;simp only [Z4, Act.put, List.setIfInBounds_toArray, List.set_cons_zero, List.set_cons_succ, r22, r23, r24, r25, r26, r27, r28, r21];clear r22 r23 r24 r25 r26 r27 r28 r21;have g2 : Zi w w' := g.trans hg;clear hg g hc0 hc3;by_cases hlt : X6 k < (l.length : Int)
    ·have HF : Hid (Zq ⟨k, y, n, l⟩ = 4) := by show Zq _ = 4; rw [HW.out, if_pos hlt]
     rw [decide_eq_true hlt];clear hlt;go_wp2;go_ret;exact ⟨Yp HF.out.symm, g2⟩
    ·have HF : Hid (Zq ⟨k, y, n, l⟩ = 0) := by show Zq _ = 0; rw [HW.out, if_neg hlt]
     rw [decide_eq_false hlt];clear hlt;go_wp2;go_ret;exact ⟨Yp HF.out.symm, g2⟩
theorem Q6 : Qs := by
 rintro ⟨k, y, n, l⟩ a c w _ hb;by_cases hk : 1 ≤ k ∧ k ≤ 3
 ·exact Zak k y n l _ w hk hb
 ·exact Kz k y n l _ w (by omega)
end Go.Proofs.Ytpdnapbchcdhlab
