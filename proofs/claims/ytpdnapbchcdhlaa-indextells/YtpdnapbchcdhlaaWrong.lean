import Derived.Test.YtpdnapbchcdhlaaJSum
set_option maxHeartbeats 8000000
namespace Go.Proofs.Ytpdnapbchcdhlaa
set_option maxRecDepth 100000
open Go.RowKit
open Plain Reg
theorem Q9 (k y n : Int) (l : List UInt8) (v : Value) (w : World) :
  Calls Try.prog 70 #[.agg #[.int .i64 k, .int .i64 y, .int .i64 n, v]] w fun e w' => e = .returned (.bool (Yy ⟨k, y, n, l⟩)) ∧ Zm w w' := by
 go_enter Try.func70, Try.ntmps70;go_wp2;all_goals go_ret
 all_goals refine ⟨?_, Zh _ _⟩
 all_goals simp_all [Yy]
 all_goals first | omega | (rw [Bool.eq_iff_iff]; simp)
theorem Vv (k : Int) (w : World) :
  Calls Try.prog 71 #[.int .i64 k] w fun e w' => e = .returned (.int .i64 (Yq k)) ∧ w = w' := by
 go_enter Try.func71, Try.ntmps71;go_wp2;all_goals go_ret
 all_goals simp_all [Yq]
theorem Zdr (k y n : Int) (l : List UInt8) (v : Value) (w : World) (hk : k < 1 ∨ 3 < k) :
  Calls Try.prog 26 #[.agg #[.int .i64 k, .int .i64 y, .int .i64 n, v]] w fun e w' => e = .returned (.int .i64 (Z2 ⟨k, y, n, l⟩)) ∧ Zm w w' := by
 have HW : Hid (Z2 ⟨k, y, n, l⟩ = 1) := by show Z2 _ = 1; unfold Z2; rw [if_pos (by exact hk)]
 have d1 : (k != 1) = true := by simp; omega
 have d2 : (k != 2) = true := by simp; omega
 have d3 : (k != 3) = true := by simp; omega
 go_enter Try.func26, Try.ntmps26;go_wp2_with fail;go_ret;exact ⟨Yx HW.out.symm, Zh _ _⟩
theorem Zg5 (k y n : Int) (l : List UInt8) (v : Value) (w : World) (hk : 1 ≤ k ∧ k ≤ 3) (hv : Bytes w v l) :
  Calls Try.prog 26 #[.agg #[.int .i64 k, .int .i64 y, .int .i64 n, v]] w fun e w' => e = .returned (.int .i64 (Z2 ⟨k, y, n, l⟩)) ∧ Zm w w' := by
 obtain ⟨ao, cap, rfl, -, -⟩ := Yn hv;clear hv;have HK : Hid (k = 1 ∨ k = 2 ∨ k = 3) := by show _ ∨ _; omega
 have hw : Z2 ⟨k, y, n, l⟩ = if Yy ⟨k, y, n, l⟩ = false then 3 else if Yq k < (l.length : Int) then 4 else 0 := by
  unfold Z2; rw [if_neg (by simp; omega)]
 clear hk;cases hr : Yy ⟨k, y, n, l⟩ with
 | false =>
  have HF : Hid (Z2 ⟨k, y, n, l⟩ = 3) := by show Z2 _ = 3; rw [hw, hr]; rfl
  have HR : Hid (Yy ⟨k, y, n, l⟩ = false) := hr;clear hw hr;rcases HK.out with h | h | h
  all_goals
   first
    | (have d1 : (k != 1) = false := by simp [h])
    | (have d1 : (k != 1) = true := by simp [h]); (have d2 : (k != 2) = false := by simp [h])
    | (have d1 : (k != 1) = true := by simp [h]); (have d2 : (k != 2) = true := by simp [h]); (have d3 : (k != 3) = false := by simp [h])
   clear h;go_enter Try.func26, Try.ntmps26;go_wp2_with fail;refine (Q9 k y n l _ _).mono ?_;rw [HR.out];rintro e w1 ⟨rfl, g1⟩;go_wp2_with fail;go_ret;exact ⟨Yx HF.out.symm, (Zh _ _).trans g1⟩
 | true =>
  have HW : Hid (Z2 ⟨k, y, n, l⟩ = if Yq k < (l.length : Int) then 4 else 0) := by show Z2 _ = _; rw [hw, hr]; rfl
  have HR : Hid (Yy ⟨k, y, n, l⟩ = true) := hr;clear hw hr;rcases HK.out with h | h | h
  ·have d1 : (k != 1) = false := by simp [h]
   clear h;go_enter Try.func26, Try.ntmps26;go_wp2_with fail;refine (Q9 k y n l _ _).mono ?_;rw [HR.out];rintro e w1 ⟨rfl, g1⟩;have g : Zm w w1 := (Zh _ _).trans g1;have hc0 : w1.cell? ⟨w.heap.size, 0, none⟩ = some (.int .i64 k) := (Below.cell g1 (p := ⟨w.heap.size, 0, none⟩) (by simp)).trans (by simp);have hc3 : w1.cell? ⟨w.heap.size, 3, none⟩ = some (.slice ao l.length cap) := (Below.cell g1 (p := ⟨w.heap.size, 3, none⟩) (by simp)).trans (by simp);clear g1;go_wp2_with fail;refine Zr [ex (.pointer (some ⟨w.heap.size, 3, none⟩)), ex (.slice ao l.length cap), ex (.int .i64 l.length), ex (.pointer (some ⟨w.heap.size, 0, none⟩)), ex (.int .i64 k), ex (.int .i64 (Yq k)), ex (.bool (decide (Yq k < (l.length : Int)))), ex (.bool (decide (Yq k < (l.length : Int))))] (by kernel_rfl) (by kernel_rfl) ⟨Zc _, Zc _, Zc _, Zc _, Zc _, Zc _, Zc _, Zc _, trivial⟩ ?_ ?_
   ·refine ⟨?_, ?_, ?_, ?_, ?_, ?_, ?_, ?_, trivial⟩
    ·refine Za rfl fun a _ _ _ B A => ?_;have e1 : a (.tmp 1) = .pointer (some ⟨w.heap.size, 0, none⟩) := Zj A 1 rfl;refine Ze ?_ rfl;clear A B;go_simp;all_goals go_arith
    ·refine Za rfl fun a _ _ _ B A => ?_;have e22 : a (.tmp 22) = _ := Zb A 0 rfl;have h1 := (Below.cell B (Zn hc3)).trans hc3;refine Ze ?_ rfl;clear A B;go_simp;all_goals go_arith
    ·refine Za rfl fun a _ _ _ B A => ?_;have e23 : a (.tmp 23) = _ := Zb A 1 rfl;refine Ze ?_ rfl;clear A B;go_simp;all_goals go_arith
    ·refine Za rfl fun a _ _ _ B A => ?_;have e1 : a (.tmp 1) = .pointer (some ⟨w.heap.size, 0, none⟩) := Zj A 1 rfl;refine Ze ?_ rfl;clear A B;go_simp;all_goals go_arith
    ·refine Za rfl fun a _ _ _ B A => ?_;have e25 : a (.tmp 25) = _ := Zb A 3 rfl;have h1 := (Below.cell B (Zn hc0)).trans hc0;refine Ze ?_ rfl;clear A B;go_simp;all_goals go_arith
    ·refine Za rfl fun a B _ _ C A => ?_;have e26 : a (.tmp 26) = _ := Zb A 4 rfl;refine Zx (f := 71) (args := #[.int .i64 k]) ?_ ((Vv k B).mono ?_)
     ·clear A C;go_simp;all_goals go_arith
     ·rintro e w2 ⟨rfl, rfl⟩;exact ⟨_, rfl, Zm.refl _, rfl⟩
    ·refine Za rfl fun a _ _ _ B A => ?_;have e24 : a (.tmp 24) = _ := Zb A 2 rfl;have e27 : a (.tmp 27) = _ := Zb A 5 rfl;refine Ze ?_ rfl;clear A B;go_simp;all_goals go_arith
    ·exact Za rfl fun a _ _ _ _ A => Ym rfl (Zb A 6 rfl)
   ·intro vs w' hg ht;obtain ⟨(r22 : vs 0 = _), (r23 : vs 1 = _), (r24 : vs 2 = _), (r25 : vs 3 = _), (r26 : vs 4 = _), (r27 : vs 5 = _), (r28 : vs 6 = _), (r21 : vs 7 = _), -⟩ := ht;simp only [Z3, Act.put, List.setIfInBounds_toArray, List.set_cons_zero, List.set_cons_succ, r22, r23, r24, r25, r26, r27, r28, r21];clear r22 r23 r24 r25 r26 r27 r28 r21;have g2 : Zm w w' := g.trans hg;clear hg g hc0 hc3;by_cases hlt : Yq k < (l.length : Int)
    ·have HF : Hid (Z2 ⟨k, y, n, l⟩ = 4) := by show Z2 _ = 4; rw [HW.out, if_pos hlt]
     rw [decide_eq_true hlt];clear hlt;go_wp2;go_ret;exact ⟨Yx HF.out.symm, g2⟩
    ·have HF : Hid (Z2 ⟨k, y, n, l⟩ = 0) := by show Z2 _ = 0; rw [HW.out, if_neg hlt]
     rw [decide_eq_false hlt];clear hlt;go_wp2;go_ret;exact ⟨Yx HF.out.symm, g2⟩
  ·have d1 : (k != 1) = true := by simp [h]
   have d2 : (k != 2) = false := by simp [h]
   clear h;go_enter Try.func26, Try.ntmps26;go_wp2_with fail;refine (Q9 k y n l _ _).mono ?_;rw [HR.out];rintro e w1 ⟨rfl, g1⟩;have g : Zm w w1 := (Zh _ _).trans g1;have hc0 : w1.cell? ⟨w.heap.size, 0, none⟩ = some (.int .i64 k) := (Below.cell g1 (p := ⟨w.heap.size, 0, none⟩) (by simp)).trans (by simp);have hc3 : w1.cell? ⟨w.heap.size, 3, none⟩ = some (.slice ao l.length cap) := (Below.cell g1 (p := ⟨w.heap.size, 3, none⟩) (by simp)).trans (by simp);clear g1;go_wp2_with fail;refine Zr [ex (.pointer (some ⟨w.heap.size, 3, none⟩)), ex (.slice ao l.length cap), ex (.int .i64 l.length), ex (.pointer (some ⟨w.heap.size, 0, none⟩)), ex (.int .i64 k), ex (.int .i64 (Yq k)), ex (.bool (decide (Yq k < (l.length : Int)))), ex (.bool (decide (Yq k < (l.length : Int))))] (by kernel_rfl) (by kernel_rfl) ⟨Zc _, Zc _, Zc _, Zc _, Zc _, Zc _, Zc _, Zc _, trivial⟩ ?_ ?_
   ·refine ⟨?_, ?_, ?_, ?_, ?_, ?_, ?_, ?_, trivial⟩
    ·refine Za rfl fun a _ _ _ B A => ?_;have e1 : a (.tmp 1) = .pointer (some ⟨w.heap.size, 0, none⟩) := Zj A 1 rfl;refine Ze ?_ rfl;clear A B;go_simp;all_goals go_arith
    ·refine Za rfl fun a _ _ _ B A => ?_;have e22 : a (.tmp 22) = _ := Zb A 0 rfl;have h1 := (Below.cell B (Zn hc3)).trans hc3;refine Ze ?_ rfl;clear A B;go_simp;all_goals go_arith
    ·refine Za rfl fun a _ _ _ B A => ?_;have e23 : a (.tmp 23) = _ := Zb A 1 rfl;refine Ze ?_ rfl;clear A B;go_simp;all_goals go_arith
    ·refine Za rfl fun a _ _ _ B A => ?_;have e1 : a (.tmp 1) = .pointer (some ⟨w.heap.size, 0, none⟩) := Zj A 1 rfl;refine Ze ?_ rfl;clear A B;go_simp;all_goals go_arith
    ·refine Za rfl fun a _ _ _ B A => ?_;have e25 : a (.tmp 25) = _ := Zb A 3 rfl;have h1 := (Below.cell B (Zn hc0)).trans hc0;refine Ze ?_ rfl;clear A B;go_simp;all_goals go_arith
    ·refine Za rfl fun a B _ _ C A => ?_;have e26 : a (.tmp 26) = _ := Zb A 4 rfl;refine Zx (f := 71) (args := #[.int .i64 k]) ?_ ((Vv k B).mono ?_)
     ·clear A C;go_simp;all_goals go_arith
     ·rintro e w2 ⟨rfl, rfl⟩;exact ⟨_, rfl, Zm.refl _, rfl⟩
    ·refine Za rfl fun a _ _ _ B A => ?_;have e24 : a (.tmp 24) = _ := Zb A 2 rfl;have e27 : a (.tmp 27) = _ := Zb A 5 rfl;refine Ze ?_ rfl;clear A B;go_simp;all_goals go_arith
    ·exact Za rfl fun a _ _ _ _ A => Ym rfl (Zb A 6 rfl)
   ·intro vs w' hg ht;obtain ⟨(r22 : vs 0 = _), (r23 : vs 1 = _), (r24 : vs 2 = _), (r25 : vs 3 = _), (r26 : vs 4 = _), (r27 : vs 5 = _), (r28 : vs 6 = _), (r21 : vs 7 = _), -⟩ := ht;simp only [Z3, Act.put, List.setIfInBounds_toArray, List.set_cons_zero, List.set_cons_succ, r22, r23, r24, r25, r26, r27, r28, r21];clear r22 r23 r24 r25 r26 r27 r28 r21;have g2 : Zm w w' := g.trans hg;clear hg g hc0 hc3;by_cases hlt : Yq k < (l.length : Int)
    ·have HF : Hid (Z2 ⟨k, y, n, l⟩ = 4) := by show Z2 _ = 4; rw [HW.out, if_pos hlt]
     rw [decide_eq_true hlt];clear hlt;go_wp2;go_ret;exact ⟨Yx HF.out.symm, g2⟩
    ·have HF : Hid (Z2 ⟨k, y, n, l⟩ = 0) := by show Z2 _ = 0; rw [HW.out, if_neg hlt]
     rw [decide_eq_false hlt];clear hlt;go_wp2;go_ret;exact ⟨Yx HF.out.symm, g2⟩
  ·have d1 : (k != 1) = true := by simp [h]
   have d2 : (k != 2) = true := by simp [h]
   have d3 : (k != 3) = false := by simp [h]
   clear h;go_enter Try.func26, Try.ntmps26;go_wp2_with fail;refine (Q9 k y n l _ _).mono ?_;rw [HR.out];rintro e w1 ⟨rfl, g1⟩;have g : Zm w w1 := (Zh _ _).trans g1;have hc0 : w1.cell? ⟨w.heap.size, 0, none⟩ = some (.int .i64 k) := (Below.cell g1 (p := ⟨w.heap.size, 0, none⟩) (by simp)).trans (by simp);have hc3 : w1.cell? ⟨w.heap.size, 3, none⟩ = some (.slice ao l.length cap) := (Below.cell g1 (p := ⟨w.heap.size, 3, none⟩) (by simp)).trans (by simp);clear g1;go_wp2_with fail;refine Zr [ex (.pointer (some ⟨w.heap.size, 3, none⟩)), ex (.slice ao l.length cap), ex (.int .i64 l.length), ex (.pointer (some ⟨w.heap.size, 0, none⟩)), ex (.int .i64 k), ex (.int .i64 (Yq k)), ex (.bool (decide (Yq k < (l.length : Int)))), ex (.bool (decide (Yq k < (l.length : Int))))] (by kernel_rfl) (by kernel_rfl) ⟨Zc _, Zc _, Zc _, Zc _, Zc _, Zc _, Zc _, Zc _, trivial⟩ ?_ ?_
   ·refine ⟨?_, ?_, ?_, ?_, ?_, ?_, ?_, ?_, trivial⟩
    ·refine Za rfl fun a _ _ _ B A => ?_;have e1 : a (.tmp 1) = .pointer (some ⟨w.heap.size, 0, none⟩) := Zj A 1 rfl;refine Ze ?_ rfl;clear A B;go_simp;all_goals go_arith
    ·refine Za rfl fun a _ _ _ B A => ?_;have e22 : a (.tmp 22) = _ := Zb A 0 rfl;have h1 := (Below.cell B (Zn hc3)).trans hc3;refine Ze ?_ rfl;clear A B;go_simp;all_goals go_arith
    ·refine Za rfl fun a _ _ _ B A => ?_;have e23 : a (.tmp 23) = _ := Zb A 1 rfl;refine Ze ?_ rfl;clear A B;go_simp;all_goals go_arith
    ·refine Za rfl fun a _ _ _ B A => ?_;have e1 : a (.tmp 1) = .pointer (some ⟨w.heap.size, 0, none⟩) := Zj A 1 rfl;refine Ze ?_ rfl;clear A B;go_simp;all_goals go_arith
    ·refine Za rfl fun a _ _ _ B A => ?_;have e25 : a (.tmp 25) = _ := Zb A 3 rfl;have h1 := (Below.cell B (Zn hc0)).trans hc0;refine Ze ?_ rfl;clear A B;go_simp;all_goals go_arith
    ·refine Za rfl fun a B _ _ C A => ?_;have e26 : a (.tmp 26) = _ := Zb A 4 rfl;refine Zx (f := 71) (args := #[.int .i64 k]) ?_ ((Vv k B).mono ?_)
     ·clear A C;go_simp;all_goals go_arith
     ·rintro e w2 ⟨rfl, rfl⟩;exact ⟨_, rfl, Zm.refl _, rfl⟩
    ·refine Za rfl fun a _ _ _ B A => ?_;have e24 : a (.tmp 24) = _ := Zb A 2 rfl;have e27 : a (.tmp 27) = _ := Zb A 5 rfl;refine Ze ?_ rfl;clear A B;go_simp;all_goals go_arith
    ·exact Za rfl fun a _ _ _ _ A => Ym rfl (Zb A 6 rfl)
   ·intro vs w' hg ht;obtain ⟨(r22 : vs 0 = _), (r23 : vs 1 = _), (r24 : vs 2 = _), (r25 : vs 3 = _), (r26 : vs 4 = _), (r27 : vs 5 = _), (r28 : vs 6 = _), (r21 : vs 7 = _), -⟩ := ht;simp only [Z3, Act.put, List.setIfInBounds_toArray, List.set_cons_zero, List.set_cons_succ, r22, r23, r24, r25, r26, r27, r28, r21];clear r22 r23 r24 r25 r26 r27 r28 r21;have g2 : Zm w w' := g.trans hg;clear hg g hc0 hc3;by_cases hlt : Yq k < (l.length : Int)
    ·have HF : Hid (Z2 ⟨k, y, n, l⟩ = 4) := by show Z2 _ = 4; rw [HW.out, if_pos hlt]
     rw [decide_eq_true hlt];clear hlt;go_wp2;go_ret;exact ⟨Yx HF.out.symm, g2⟩
    ·have HF : Hid (Z2 ⟨k, y, n, l⟩ = 0) := by show Z2 _ = 0; rw [HW.out, if_neg hlt]
     rw [decide_eq_false hlt];clear hlt;go_wp2;go_ret;exact ⟨Yx HF.out.symm, g2⟩
theorem Zfn (k y n : Int) (l : List UInt8) (v : Value) (w : World) (hv : Bytes w v l) :
  Calls Try.prog 26 #[.agg #[.int .i64 k, .int .i64 y, .int .i64 n, v]] w fun e w' => e = .returned (.int .i64 (Z2 ⟨k, y, n, l⟩)) ∧ Zm w w' := by
 by_cases hk : 1 ≤ k ∧ k ≤ 3
 ·exact Zg5 k y n l v w hk hv
 ·exact Zdr k y n l v w (by omega)
theorem md1 : Yq 1 = 0 := rfl
theorem md2 : Yq 2 = 8 := rfl
theorem md3 : Yq 3 = 0 := rfl
theorem Zfm (k y n : Int) (l : List UInt8) (h : k < 1 ∨ 3 < k) : Z2 ⟨k, y, n, l⟩ = 1 := by unfold Z2; rw [if_pos (by exact h)]
theorem Vt (k y n : Int) (l : List UInt8) (h : ¬ (k < 1 ∨ 3 < k)) (hr : Yy ⟨k, y, n, l⟩ = false) : Z2 ⟨k, y, n, l⟩ = 3 := by unfold Z2; rw [if_neg (by exact h), if_pos hr]
theorem Ko (k y n : Int) (l : List UInt8) (h : ¬ (k < 1 ∨ 3 < k)) (hr : Yy ⟨k, y, n, l⟩ = true) (hm : Yq k < (l.length : Int)) : Z2 ⟨k, y, n, l⟩ = 4 := by
 unfold Z2; rw [if_neg (by exact h), if_neg (by rw [hr]; simp), if_pos (by exact hm)]
theorem J9 (k y n : Int) (l : List UInt8) (h : ¬ (k < 1 ∨ 3 < k)) (hr : Yy ⟨k, y, n, l⟩ = true) (hm : ¬ Yq k < (l.length : Int)) : Z2 ⟨k, y, n, l⟩ = 0 := by
 unfold Z2; rw [if_neg (by exact h), if_neg (by rw [hr]; simp), if_neg (by exact hm)]
theorem Qj (y n : Int) (l : List UInt8) : Yy ⟨1, y, n, l⟩ = decide (y = 0 ∧ n = 0) := by simp [Yy]
theorem Y7 (k y n : Int) (l : List UInt8) (h : k ≠ 1) : Yy ⟨k, y, n, l⟩ = decide (1 ≤ y ∧ y ≤ 255 ∧ 1 ≤ n ∧ n ≤ 60000) := by unfold Yy; rw [if_neg (by exact h)]
theorem Zd3 (k y n : Int) (l : List UInt8) (v : Value) (w : World) (h : k < 1 ∨ 3 < k) :
  Calls Try.prog 27 #[.agg #[.int .i64 k, .int .i64 y, .int .i64 n, v]] w fun e w' => e = .returned (.int .i64 (Z2 ⟨k, y, n, l⟩)) ∧ Zm w w' := by
 have HW : Hid (Z2 ⟨k, y, n, l⟩ = 1) := Zfm k y n l h;rcases h with h | h
 ·go_enter Try.func27, Try.ntmps27;go_wp2;all_goals go_ret
  all_goals refine ⟨Yx ?_, Zh _ _⟩
  all_goals symm
  exact HW.out
 ·have h' : ¬ k < 1 := by omega
  go_enter Try.func27, Try.ntmps27;go_wp2;all_goals go_ret
  all_goals refine ⟨Yx ?_, Zh _ _⟩
  all_goals symm
  exact HW.out
theorem Zcn (y n : Int) (l : List UInt8) (ao : Option Addr) (cap : Nat) (w : World) :
  Calls Try.prog 27 #[.agg #[.int .i64 1, .int .i64 y, .int .i64 n, .slice ao l.length cap]] w fun e w' => e = .returned (.int .i64 (Z2 ⟨1, y, n, l⟩)) ∧ Zm w w' := by
 by_cases h0 : l.length = 0
 all_goals
  first | (have d0 : ((l.length : Int) != 0) = false := by simp [h0]; done) | (have d0 : ((l.length : Int) != 0) = true := by simp [h0]; done)
  go_enter Try.func27, Try.ntmps27;go_wp2;all_goals go_ret
  all_goals refine ⟨Yx ?_, Zh _ _⟩
  all_goals symm
  all_goals first
   | (refine Vt 1 y n l ?_ ?_ <;> first | omega | (rw [Qj]; simp; done) | (rw [Qj]; simp; omega) | (rw [md1]; omega))
   | (refine Ko 1 y n l ?_ ?_ ?_ <;> first | omega | (rw [Qj]; simp; done) | (rw [Qj]; simp; omega) | (rw [md1]; omega))
   | (refine J9 1 y n l ?_ ?_ ?_ <;> first | omega | (rw [Qj]; simp; done) | (rw [Qj]; simp; omega) | (rw [md1]; omega))
theorem Zco (y n : Int) (l : List UInt8) (ao : Option Addr) (cap : Nat) (w : World) :
  Calls Try.prog 27 #[.agg #[.int .i64 2, .int .i64 y, .int .i64 n, .slice ao l.length cap]] w fun e w' => e = .returned (.int .i64 (Z2 ⟨2, y, n, l⟩)) ∧ Zm w w' := by
 go_enter Try.func27, Try.ntmps27;go_wp2;all_goals go_ret
 all_goals refine ⟨Yx ?_, Zh _ _⟩
 all_goals symm
 all_goals first
  | (refine Vt 2 y n l ?_ ?_ <;> first | omega | (rw [Y7 _ _ _ _ (by omega)]; simp; done) | (rw [Y7 _ _ _ _ (by omega)]; simp; omega) | (rw [md2]; omega))
  | (refine Ko 2 y n l ?_ ?_ ?_ <;> first | omega | (rw [Y7 _ _ _ _ (by omega)]; simp; done) | (rw [Y7 _ _ _ _ (by omega)]; simp; omega) | (rw [md2]; omega))
  | (refine J9 2 y n l ?_ ?_ ?_ <;> first | omega | (rw [Y7 _ _ _ _ (by omega)]; simp; done) | (rw [Y7 _ _ _ _ (by omega)]; simp; omega) | (rw [md2]; omega))
theorem Zcm (y n : Int) (l : List UInt8) (ao : Option Addr) (cap : Nat) (w : World) :
  Calls Try.prog 27 #[.agg #[.int .i64 3, .int .i64 y, .int .i64 n, .slice ao l.length cap]] w fun e w' => e = .returned (.int .i64 (Z2 ⟨3, y, n, l⟩)) ∧ Zm w w' := by
 by_cases h0 : l.length = 0
 all_goals
  first | (have d0 : ((l.length : Int) != 0) = false := by simp [h0]; done) | (have d0 : ((l.length : Int) != 0) = true := by simp [h0]; done)
  go_enter Try.func27, Try.ntmps27;go_wp2;all_goals go_ret
  all_goals refine ⟨Yx ?_, Zh _ _⟩
  all_goals symm
  all_goals first
   | (refine Vt 3 y n l ?_ ?_ <;> first | omega | (rw [Y7 _ _ _ _ (by omega)]; simp; done) | (rw [Y7 _ _ _ _ (by omega)]; simp; omega) | (rw [md3]; omega))
   | (refine Ko 3 y n l ?_ ?_ ?_ <;> first | omega | (rw [Y7 _ _ _ _ (by omega)]; simp; done) | (rw [Y7 _ _ _ _ (by omega)]; simp; omega) | (rw [md3]; omega))
   | (refine J9 3 y n l ?_ ?_ ?_ <;> first | omega | (rw [Y7 _ _ _ _ (by omega)]; simp; done) | (rw [Y7 _ _ _ _ (by omega)]; simp; omega) | (rw [md3]; omega))
theorem Xo (k y n : Int) (l : List UInt8) (v : Value) (w : World) (hv : Bytes w v l) :
  Calls Try.prog 27 #[.agg #[.int .i64 k, .int .i64 y, .int .i64 n, v]] w fun e w' => e = .returned (.int .i64 (Z2 ⟨k, y, n, l⟩)) ∧ Zm w w' := by
 obtain ⟨ao, cap, rfl, -, -⟩ := Yn hv;by_cases h : k < 1 ∨ 3 < k
 ·exact Zd3 k y n l _ w h
 ·have h3 : k = 1 ∨ k = 2 ∨ k = 3 := by omega
  rcases h3 with rfl | rfl | rfl
  ·exact Zcn y n l ao cap w
  ·exact Zco y n l ao cap w
  ·exact Zcm y n l ao cap w
end Go.Proofs.Ytpdnapbchcdhlaa
