import Derived.Test.YtpdnapbchcdhlacGreatJSum
import Derived.Lib.SliceRun
import Derived.Laws.CopyRow
set_option maxHeartbeats 8000000
namespace Go.Proofs.YtpdnapbchcdhlacGreat
set_option maxRecDepth 100000
open Go.RowKit
open Plain Reg
theorem J0 (k y n : Int) (l : List UInt8) (v : Value) (w : World) :
  Calls Tryz.prog 136 #[.agg #[.int .i64 k, .int .i64 y, .int .i64 n, v]] w fun e w' => e = .returned (.bool (Xh ⟨k, y, n, l⟩)) ∧ Zn w w' := by
 go_enter Tryz.func136, Tryz.ntmps136;go_wp2;all_goals go_ret
 all_goals refine ⟨?_, Zb _ _⟩
 all_goals simp_all [Xh]
 all_goals first | omega | (rw [Bool.eq_iff_iff]; simp)
theorem Zbp (k : Int) (w : World) :
  Calls Tryz.prog 137 #[.int .i64 k] w fun e w' => e = .returned (.int .i64 (Xe k)) ∧ w = w' := by
 go_enter Tryz.func137, Tryz.ntmps137;go_wp2;all_goals go_ret
 all_goals simp_all [Xe]
theorem Zly (k y n : Int) (l : List UInt8) (v : Value) (w : World) (hk : k < 1 ∨ 3 < k) :
  Calls Tryz.prog 105 #[.agg #[.int .i64 k, .int .i64 y, .int .i64 n, v]] w fun e w' => e = .returned (.int .i64 (Z9 ⟨k, y, n, l⟩)) ∧ Zn w w' := by
 have HW : Hid (Z9 ⟨k, y, n, l⟩ = 1) := by show Z9 _ = 1; unfold Z9; rw [if_pos (by exact hk)]
 have d1 : (k != 1) = true := by simp; omega
 have d2 : (k != 2) = true := by simp; omega
 have d3 : (k != 3) = true := by simp; omega
 go_enter Tryz.func105, Tryz.ntmps105;go_wp2_with fail;go_ret;exact ⟨Xj HW.out.symm, Zb _ _⟩
theorem Zrq (k y n : Int) (l : List UInt8) (v : Value) (w : World) (hk : 1 ≤ k ∧ k ≤ 3) (hv : Bytes w v l) :
  Calls Tryz.prog 105 #[.agg #[.int .i64 k, .int .i64 y, .int .i64 n, v]] w fun e w' => e = .returned (.int .i64 (Z9 ⟨k, y, n, l⟩)) ∧ Zn w w' := by
 obtain ⟨ao, cap, rfl, -, -⟩ := Yn hv;clear hv;have HK : Hid (k = 1 ∨ k = 2 ∨ k = 3) := by show _ ∨ _; omega
 have hw : Z9 ⟨k, y, n, l⟩ = if Xh ⟨k, y, n, l⟩ = false then 3 else if Xe k < (l.length : Int) then 4 else 0 := by
  unfold Z9; rw [if_neg (by simp; omega)]
 clear hk;cases hr : Xh ⟨k, y, n, l⟩ with
 | false =>
  have HF : Hid (Z9 ⟨k, y, n, l⟩ = 3) := by show Z9 _ = 3; rw [hw, hr]; rfl
  have HR : Hid (Xh ⟨k, y, n, l⟩ = false) := hr;clear hw hr;rcases HK.out with h | h | h
  all_goals
   first
    | (have d1 : (k != 1) = false := by simp [h])
    | (have d1 : (k != 1) = true := by simp [h]); (have d2 : (k != 2) = false := by simp [h])
    | (have d1 : (k != 1) = true := by simp [h]); (have d2 : (k != 2) = true := by simp [h]); (have d3 : (k != 3) = false := by simp [h])
   clear h;go_enter Tryz.func105, Tryz.ntmps105;go_wp2_with fail;refine (J0 k y n l _ _).mono ?_;rw [HR.out];rintro e w1 ⟨rfl, g1⟩;go_wp2_with fail;go_ret;exact ⟨Xj HF.out.symm, (Zb _ _).trans g1⟩
 | true =>
  have HW : Hid (Z9 ⟨k, y, n, l⟩ = if Xe k < (l.length : Int) then 4 else 0) := by show Z9 _ = _; rw [hw, hr]; rfl
  have HR : Hid (Xh ⟨k, y, n, l⟩ = true) := hr;clear hw hr;rcases HK.out with h | h | h
  ·have d1 : (k != 1) = false := by simp [h]
   clear h;go_enter Tryz.func105, Tryz.ntmps105;go_wp2_with fail;refine (J0 k y n l _ _).mono ?_;rw [HR.out];rintro e w1 ⟨rfl, g1⟩;have g : Zn w w1 := (Zb _ _).trans g1;have hc0 : w1.cell? ⟨w.heap.size, 0, none⟩ = some (.int .i64 k) := (Below.cell g1 (p := ⟨w.heap.size, 0, none⟩) (by simp)).trans (by simp);have hc3 : w1.cell? ⟨w.heap.size, 3, none⟩ = some (.slice ao l.length cap) := (Below.cell g1 (p := ⟨w.heap.size, 3, none⟩) (by simp)).trans (by simp);clear g1;go_wp2_with fail;refine Yh [ex (.pointer (some ⟨w.heap.size, 3, none⟩)), ex (.slice ao l.length cap), ex (.int .i64 l.length), ex (.pointer (some ⟨w.heap.size, 0, none⟩)), ex (.int .i64 k), ex (.int .i64 (Xe k)), ex (.bool (decide (Xe k < (l.length : Int)))), ex (.bool (decide (Xe k < (l.length : Int))))] (by kernel_rfl) (by kernel_rfl) ⟨Zm _, Zm _, Zm _, Zm _, Zm _, Zm _, Zm _, Zm _, trivial⟩ ?_ ?_
   ·refine ⟨?_, ?_, ?_, ?_, ?_, ?_, ?_, ?_, trivial⟩
    ·refine Zf rfl fun a _ _ _ B A => ?_;have e1 : a (.tmp 1) = .pointer (some ⟨w.heap.size, 0, none⟩) := Z2 A 1 rfl;refine Zq ?_ rfl;clear A B;go_simp;all_goals go_arith
    ·refine Zf rfl fun a _ _ _ B A => ?_;have e22 : a (.tmp 22) = _ := Zj A 0 rfl;have h1 := (Below.cell B (Zv hc3)).trans hc3;refine Zq ?_ rfl;clear A B;go_simp;all_goals go_arith
    ·refine Zf rfl fun a _ _ _ B A => ?_;have e23 : a (.tmp 23) = _ := Zj A 1 rfl;refine Zq ?_ rfl;clear A B;go_simp;all_goals go_arith
    ·refine Zf rfl fun a _ _ _ B A => ?_;have e1 : a (.tmp 1) = .pointer (some ⟨w.heap.size, 0, none⟩) := Z2 A 1 rfl;refine Zq ?_ rfl;clear A B;go_simp;all_goals go_arith
    ·refine Zf rfl fun a _ _ _ B A => ?_;have e25 : a (.tmp 25) = _ := Zj A 3 rfl;have h1 := (Below.cell B (Zv hc0)).trans hc0;refine Zq ?_ rfl;clear A B;go_simp;all_goals go_arith
    ·refine Zf rfl fun a B _ _ C A => ?_;have e26 : a (.tmp 26) = _ := Zj A 4 rfl;refine Xa (f := 137) (args := #[.int .i64 k]) ?_ ((Zbp k B).mono ?_)
     ·clear A C;go_simp;all_goals go_arith
     ·rintro e w2 ⟨rfl, rfl⟩;exact ⟨_, rfl, Zn.refl _, rfl⟩
    ·refine Zf rfl fun a _ _ _ B A => ?_;have e24 : a (.tmp 24) = _ := Zj A 2 rfl;have e27 : a (.tmp 27) = _ := Zj A 5 rfl;refine Zq ?_ rfl;clear A B;go_simp;all_goals go_arith
    ·exact Zf rfl fun a _ _ _ _ A => Yy rfl (Zj A 6 rfl)
   ·intro vs w' hg ht;obtain ⟨(r22 : vs 0 = _), (r23 : vs 1 = _), (r24 : vs 2 = _), (r25 : vs 3 = _), (r26 : vs 4 = _), (r27 : vs 5 = _), (r28 : vs 6 = _), (r21 : vs 7 = _), -⟩ := ht;simp only [Yi, Act.put, List.setIfInBounds_toArray, List.set_cons_zero, List.set_cons_succ, r22, r23, r24, r25, r26, r27, r28, r21];clear r22 r23 r24 r25 r26 r27 r28 r21;have g2 : Zn w w' := g.trans hg;clear hg g hc0 hc3;by_cases hlt : Xe k < (l.length : Int)
    ·have HF : Hid (Z9 ⟨k, y, n, l⟩ = 4) := by show Z9 _ = 4; rw [HW.out, if_pos hlt]
     rw [decide_eq_true hlt];clear hlt;go_wp2;go_ret;exact ⟨Xj HF.out.symm, g2⟩
    ·have HF : Hid (Z9 ⟨k, y, n, l⟩ = 0) := by show Z9 _ = 0; rw [HW.out, if_neg hlt]
     rw [decide_eq_false hlt];clear hlt;go_wp2;go_ret;exact ⟨Xj HF.out.symm, g2⟩
  ·have d1 : (k != 1) = true := by simp [h]
   have d2 : (k != 2) = false := by simp [h]
   clear h;go_enter Tryz.func105, Tryz.ntmps105;go_wp2_with fail;refine (J0 k y n l _ _).mono ?_;rw [HR.out];rintro e w1 ⟨rfl, g1⟩;have g : Zn w w1 := (Zb _ _).trans g1;have hc0 : w1.cell? ⟨w.heap.size, 0, none⟩ = some (.int .i64 k) := (Below.cell g1 (p := ⟨w.heap.size, 0, none⟩) (by simp)).trans (by simp);have hc3 : w1.cell? ⟨w.heap.size, 3, none⟩ = some (.slice ao l.length cap) := (Below.cell g1 (p := ⟨w.heap.size, 3, none⟩) (by simp)).trans (by simp);clear g1;go_wp2_with fail;refine Yh [ex (.pointer (some ⟨w.heap.size, 3, none⟩)), ex (.slice ao l.length cap), ex (.int .i64 l.length), ex (.pointer (some ⟨w.heap.size, 0, none⟩)), ex (.int .i64 k), ex (.int .i64 (Xe k)), ex (.bool (decide (Xe k < (l.length : Int)))), ex (.bool (decide (Xe k < (l.length : Int))))] (by kernel_rfl) (by kernel_rfl) ⟨Zm _, Zm _, Zm _, Zm _, Zm _, Zm _, Zm _, Zm _, trivial⟩ ?_ ?_
   ·refine ⟨?_, ?_, ?_, ?_, ?_, ?_, ?_, ?_, trivial⟩
    ·refine Zf rfl fun a _ _ _ B A => ?_;have e1 : a (.tmp 1) = .pointer (some ⟨w.heap.size, 0, none⟩) := Z2 A 1 rfl;refine Zq ?_ rfl;clear A B;go_simp;all_goals go_arith
    ·refine Zf rfl fun a _ _ _ B A => ?_;have e22 : a (.tmp 22) = _ := Zj A 0 rfl;have h1 := (Below.cell B (Zv hc3)).trans hc3;refine Zq ?_ rfl;clear A B;go_simp;all_goals go_arith
    ·refine Zf rfl fun a _ _ _ B A => ?_;have e23 : a (.tmp 23) = _ := Zj A 1 rfl;refine Zq ?_ rfl;clear A B;go_simp;all_goals go_arith
    ·refine Zf rfl fun a _ _ _ B A => ?_;have e1 : a (.tmp 1) = .pointer (some ⟨w.heap.size, 0, none⟩) := Z2 A 1 rfl;refine Zq ?_ rfl;clear A B;go_simp;all_goals go_arith
    ·refine Zf rfl fun a _ _ _ B A => ?_;have e25 : a (.tmp 25) = _ := Zj A 3 rfl;have h1 := (Below.cell B (Zv hc0)).trans hc0;refine Zq ?_ rfl;clear A B;go_simp;all_goals go_arith
    ·refine Zf rfl fun a B _ _ C A => ?_;have e26 : a (.tmp 26) = _ := Zj A 4 rfl;refine Xa (f := 137) (args := #[.int .i64 k]) ?_ ((Zbp k B).mono ?_)
     ·clear A C;go_simp;all_goals go_arith
     ·rintro e w2 ⟨rfl, rfl⟩;exact ⟨_, rfl, Zn.refl _, rfl⟩
    ·refine Zf rfl fun a _ _ _ B A => ?_;have e24 : a (.tmp 24) = _ := Zj A 2 rfl;have e27 : a (.tmp 27) = _ := Zj A 5 rfl;refine Zq ?_ rfl;clear A B;go_simp;all_goals go_arith
    ·exact Zf rfl fun a _ _ _ _ A => Yy rfl (Zj A 6 rfl)
   ·intro vs w' hg ht;obtain ⟨(r22 : vs 0 = _), (r23 : vs 1 = _), (r24 : vs 2 = _), (r25 : vs 3 = _), (r26 : vs 4 = _), (r27 : vs 5 = _), (r28 : vs 6 = _), (r21 : vs 7 = _), -⟩ := ht;simp only [Yi, Act.put, List.setIfInBounds_toArray, List.set_cons_zero, List.set_cons_succ, r22, r23, r24, r25, r26, r27, r28, r21];clear r22 r23 r24 r25 r26 r27 r28 r21;have g2 : Zn w w' := g.trans hg;clear hg g hc0 hc3;by_cases hlt : Xe k < (l.length : Int)
    ·have HF : Hid (Z9 ⟨k, y, n, l⟩ = 4) := by show Z9 _ = 4; rw [HW.out, if_pos hlt]
     rw [decide_eq_true hlt];clear hlt;go_wp2;go_ret;exact ⟨Xj HF.out.symm, g2⟩
    ·have HF : Hid (Z9 ⟨k, y, n, l⟩ = 0) := by show Z9 _ = 0; rw [HW.out, if_neg hlt]
     rw [decide_eq_false hlt];clear hlt;go_wp2;go_ret;exact ⟨Xj HF.out.symm, g2⟩
  ·have d1 : (k != 1) = true := by simp [h]
   have d2 : (k != 2) = true := by simp [h]
   have d3 : (k != 3) = false := by simp [h]
   clear h;go_enter Tryz.func105, Tryz.ntmps105;go_wp2_with fail;refine (J0 k y n l _ _).mono ?_;rw [HR.out];rintro e w1 ⟨rfl, g1⟩;have g : Zn w w1 := (Zb _ _).trans g1;have hc0 : w1.cell? ⟨w.heap.size, 0, none⟩ = some (.int .i64 k) := (Below.cell g1 (p := ⟨w.heap.size, 0, none⟩) (by simp)).trans (by simp);have hc3 : w1.cell? ⟨w.heap.size, 3, none⟩ = some (.slice ao l.length cap) := (Below.cell g1 (p := ⟨w.heap.size, 3, none⟩) (by simp)).trans (by simp);clear g1;go_wp2_with fail;refine Yh [ex (.pointer (some ⟨w.heap.size, 3, none⟩)), ex (.slice ao l.length cap), ex (.int .i64 l.length), ex (.pointer (some ⟨w.heap.size, 0, none⟩)), ex (.int .i64 k), ex (.int .i64 (Xe k)), ex (.bool (decide (Xe k < (l.length : Int)))), ex (.bool (decide (Xe k < (l.length : Int))))] (by kernel_rfl) (by kernel_rfl) ⟨Zm _, Zm _, Zm _, Zm _, Zm _, Zm _, Zm _, Zm _, trivial⟩ ?_ ?_
   ·refine ⟨?_, ?_, ?_, ?_, ?_, ?_, ?_, ?_, trivial⟩
    ·refine Zf rfl fun a _ _ _ B A => ?_;have e1 : a (.tmp 1) = .pointer (some ⟨w.heap.size, 0, none⟩) := Z2 A 1 rfl;refine Zq ?_ rfl;clear A B;go_simp;all_goals go_arith
    ·refine Zf rfl fun a _ _ _ B A => ?_;have e22 : a (.tmp 22) = _ := Zj A 0 rfl;have h1 := (Below.cell B (Zv hc3)).trans hc3;refine Zq ?_ rfl;clear A B;go_simp;all_goals go_arith
    ·refine Zf rfl fun a _ _ _ B A => ?_;have e23 : a (.tmp 23) = _ := Zj A 1 rfl;refine Zq ?_ rfl;clear A B;go_simp;all_goals go_arith
    ·refine Zf rfl fun a _ _ _ B A => ?_;have e1 : a (.tmp 1) = .pointer (some ⟨w.heap.size, 0, none⟩) := Z2 A 1 rfl;refine Zq ?_ rfl;clear A B;go_simp;all_goals go_arith
    ·refine Zf rfl fun a _ _ _ B A => ?_;have e25 : a (.tmp 25) = _ := Zj A 3 rfl;have h1 := (Below.cell B (Zv hc0)).trans hc0;refine Zq ?_ rfl;clear A B;go_simp;all_goals go_arith
    ·refine Zf rfl fun a B _ _ C A => ?_;have e26 : a (.tmp 26) = _ := Zj A 4 rfl;refine Xa (f := 137) (args := #[.int .i64 k]) ?_ ((Zbp k B).mono ?_)
     ·clear A C;go_simp;all_goals go_arith
     ·rintro e w2 ⟨rfl, rfl⟩;exact ⟨_, rfl, Zn.refl _, rfl⟩
    ·refine Zf rfl fun a _ _ _ B A => ?_;have e24 : a (.tmp 24) = _ := Zj A 2 rfl;have e27 : a (.tmp 27) = _ := Zj A 5 rfl;refine Zq ?_ rfl;clear A B;go_simp;all_goals go_arith
    ·exact Zf rfl fun a _ _ _ _ A => Yy rfl (Zj A 6 rfl)
   ·intro vs w' hg ht;obtain ⟨(r22 : vs 0 = _), (r23 : vs 1 = _), (r24 : vs 2 = _), (r25 : vs 3 = _), (r26 : vs 4 = _), (r27 : vs 5 = _), (r28 : vs 6 = _), (r21 : vs 7 = _), -⟩ := ht;simp only [Yi, Act.put, List.setIfInBounds_toArray, List.set_cons_zero, List.set_cons_succ, r22, r23, r24, r25, r26, r27, r28, r21];clear r22 r23 r24 r25 r26 r27 r28 r21;have g2 : Zn w w' := g.trans hg;clear hg g hc0 hc3;by_cases hlt : Xe k < (l.length : Int)
    ·have HF : Hid (Z9 ⟨k, y, n, l⟩ = 4) := by show Z9 _ = 4; rw [HW.out, if_pos hlt]
     rw [decide_eq_true hlt];clear hlt;go_wp2;go_ret;exact ⟨Xj HF.out.symm, g2⟩
    ·have HF : Hid (Z9 ⟨k, y, n, l⟩ = 0) := by show Z9 _ = 0; rw [HW.out, if_neg hlt]
     rw [decide_eq_false hlt];clear hlt;go_wp2;go_ret;exact ⟨Xj HF.out.symm, g2⟩
theorem Zb3 (k y n : Int) (l : List UInt8) (v : Value) (w : World) (hv : Bytes w v l) :
  Calls Tryz.prog 105 #[.agg #[.int .i64 k, .int .i64 y, .int .i64 n, v]] w fun e w' => e = .returned (.int .i64 (Z9 ⟨k, y, n, l⟩)) ∧ Zn w w' := by
 by_cases hk : 1 ≤ k ∧ k ≤ 3
 ·exact Zrq k y n l v w hk hv
 ·exact Zly k y n l v w (by omega)
theorem md1 : Xe 1 = 0 := rfl
theorem md2 : Xe 2 = 8 := rfl
theorem md3 : Xe 3 = 0 := rfl
theorem Zhl (k y n : Int) (l : List UInt8) (h : k < 1 ∨ 3 < k) : Z9 ⟨k, y, n, l⟩ = 1 := by unfold Z9; rw [if_pos (by exact h)]
theorem Js (k y n : Int) (l : List UInt8) (h : ¬ (k < 1 ∨ 3 < k)) (hr : Xh ⟨k, y, n, l⟩ = false) : Z9 ⟨k, y, n, l⟩ = 3 := by unfold Z9; rw [if_neg (by exact h), if_pos hr]
theorem Zaz (k y n : Int) (l : List UInt8) (h : ¬ (k < 1 ∨ 3 < k)) (hr : Xh ⟨k, y, n, l⟩ = true) (hm : Xe k < (l.length : Int)) : Z9 ⟨k, y, n, l⟩ = 4 := by
 unfold Z9; rw [if_neg (by exact h), if_neg (by rw [hr]; simp), if_pos (by exact hm)]
theorem Zfb (k y n : Int) (l : List UInt8) (h : ¬ (k < 1 ∨ 3 < k)) (hr : Xh ⟨k, y, n, l⟩ = true) (hm : ¬ Xe k < (l.length : Int)) : Z9 ⟨k, y, n, l⟩ = 0 := by
 unfold Z9; rw [if_neg (by exact h), if_neg (by rw [hr]; simp), if_neg (by exact hm)]
theorem Ki (y n : Int) (l : List UInt8) : Xh ⟨1, y, n, l⟩ = decide (y = 0 ∧ n = 0) := by simp [Xh]
theorem Qd (k y n : Int) (l : List UInt8) (h : k ≠ 1) : Xh ⟨k, y, n, l⟩ = decide (1 ≤ y ∧ y ≤ 255 ∧ 1 ≤ n ∧ n ≤ 60000) := by unfold Xh; rw [if_neg (by exact h)]
theorem Zmi (k y n : Int) (l : List UInt8) (v : Value) (w : World) (h : k < 1 ∨ 3 < k) :
  Calls Tryz.prog 64 #[.agg #[.int .i64 k, .int .i64 y, .int .i64 n, v]] w fun e w' => e = .returned (.int .i64 (Z9 ⟨k, y, n, l⟩)) ∧ Zn w w' := by
 have HW : Hid (Z9 ⟨k, y, n, l⟩ = 1) := Zhl k y n l h;rcases h with h | h
 ·go_enter Tryz.func64, Tryz.ntmps64;go_wp2;all_goals go_ret
  all_goals refine ⟨Xj ?_, Zb _ _⟩
  all_goals symm
  exact HW.out
 ·have h' : ¬ k < 1 := by omega
  go_enter Tryz.func64, Tryz.ntmps64;go_wp2;all_goals go_ret
  all_goals refine ⟨Xj ?_, Zb _ _⟩
  all_goals symm
  exact HW.out
theorem Zj1 (y n : Int) (l : List UInt8) (ao : Option Addr) (cap : Nat) (w : World) :
  Calls Tryz.prog 64 #[.agg #[.int .i64 1, .int .i64 y, .int .i64 n, .slice ao l.length cap]] w fun e w' => e = .returned (.int .i64 (Z9 ⟨1, y, n, l⟩)) ∧ Zn w w' := by
 by_cases h0 : l.length = 0
 all_goals
  first | (have d0 : ((l.length : Int) != 0) = false := by simp [h0]; done) | (have d0 : ((l.length : Int) != 0) = true := by simp [h0]; done)
  go_enter Tryz.func64, Tryz.ntmps64;go_wp2;all_goals go_ret
  all_goals refine ⟨Xj ?_, Zb _ _⟩
  all_goals symm
  all_goals first
   | (refine Js 1 y n l ?_ ?_ <;> first | omega | (rw [Ki]; simp; done) | (rw [Ki]; simp; omega) | (rw [md1]; omega))
   | (refine Zaz 1 y n l ?_ ?_ ?_ <;> first | omega | (rw [Ki]; simp; done) | (rw [Ki]; simp; omega) | (rw [md1]; omega))
   | (refine Zfb 1 y n l ?_ ?_ ?_ <;> first | omega | (rw [Ki]; simp; done) | (rw [Ki]; simp; omega) | (rw [md1]; omega))
theorem Zj2 (y n : Int) (l : List UInt8) (ao : Option Addr) (cap : Nat) (w : World) :
  Calls Tryz.prog 64 #[.agg #[.int .i64 2, .int .i64 y, .int .i64 n, .slice ao l.length cap]] w fun e w' => e = .returned (.int .i64 (Z9 ⟨2, y, n, l⟩)) ∧ Zn w w' := by
 go_enter Tryz.func64, Tryz.ntmps64;go_wp2;all_goals go_ret
 all_goals refine ⟨Xj ?_, Zb _ _⟩
 all_goals symm
 all_goals first
  | (refine Js 2 y n l ?_ ?_ <;> first | omega | (rw [Qd _ _ _ _ (by omega)]; simp; done) | (rw [Qd _ _ _ _ (by omega)]; simp; omega) | (rw [md2]; omega))
  | (refine Zaz 2 y n l ?_ ?_ ?_ <;> first | omega | (rw [Qd _ _ _ _ (by omega)]; simp; done) | (rw [Qd _ _ _ _ (by omega)]; simp; omega) | (rw [md2]; omega))
  | (refine Zfb 2 y n l ?_ ?_ ?_ <;> first | omega | (rw [Qd _ _ _ _ (by omega)]; simp; done) | (rw [Qd _ _ _ _ (by omega)]; simp; omega) | (rw [md2]; omega))
theorem Zj0 (y n : Int) (l : List UInt8) (ao : Option Addr) (cap : Nat) (w : World) :
  Calls Tryz.prog 64 #[.agg #[.int .i64 3, .int .i64 y, .int .i64 n, .slice ao l.length cap]] w fun e w' => e = .returned (.int .i64 (Z9 ⟨3, y, n, l⟩)) ∧ Zn w w' := by
 by_cases h0 : l.length = 0
 all_goals
  first | (have d0 : ((l.length : Int) != 0) = false := by simp [h0]; done) | (have d0 : ((l.length : Int) != 0) = true := by simp [h0]; done)
  go_enter Tryz.func64, Tryz.ntmps64;go_wp2;all_goals go_ret
  all_goals refine ⟨Xj ?_, Zb _ _⟩
  all_goals symm
  all_goals first
   | (refine Js 3 y n l ?_ ?_ <;> first | omega | (rw [Qd _ _ _ _ (by omega)]; simp; done) | (rw [Qd _ _ _ _ (by omega)]; simp; omega) | (rw [md3]; omega))
   | (refine Zaz 3 y n l ?_ ?_ ?_ <;> first | omega | (rw [Qd _ _ _ _ (by omega)]; simp; done) | (rw [Qd _ _ _ _ (by omega)]; simp; omega) | (rw [md3]; omega))
   | (refine Zfb 3 y n l ?_ ?_ ?_ <;> first | omega | (rw [Qd _ _ _ _ (by omega)]; simp; done) | (rw [Qd _ _ _ _ (by omega)]; simp; omega) | (rw [md3]; omega))
theorem Zcv (k y n : Int) (l : List UInt8) (v : Value) (w : World) (hv : Bytes w v l) :
  Calls Tryz.prog 64 #[.agg #[.int .i64 k, .int .i64 y, .int .i64 n, v]] w fun e w' => e = .returned (.int .i64 (Z9 ⟨k, y, n, l⟩)) ∧ Zn w w' := by
 obtain ⟨ao, cap, rfl, -, -⟩ := Yn hv;by_cases h : k < 1 ∨ 3 < k
 ·exact Zmi k y n l _ w h
 ·have h3 : k = 1 ∨ k = 2 ∨ k = 3 := by omega
  rcases h3 with rfl | rfl | rfl
  ·exact Zj1 y n l ao cap w
  ·exact Zj2 y n l ao cap w
  ·exact Zj0 y n l ao cap w
variable {W w : World} {base n : Nat} {e : TypeId} {v : Value} {xs : List Value}
theorem Zo8 {w1 : World} (hb : Zn W w1) : (∀ b o, b < W.heap.size → w1.cell? ⟨b, o, none⟩ = W.cell? ⟨b, o, none⟩) ∧ (∀ b o, b < W.heap.size → w1.frozen? ⟨b, o, none⟩ = W.frozen? ⟨b, o, none⟩) :=
 ⟨fun b o h => Below.cell hb (p := ⟨b, o, none⟩) h, fun b o h => Below.frozen hb (p := ⟨b, o, none⟩) h⟩
theorem Zr (W : World) (a : Addr) (x : Value) : (W.setCell a x).cell? a = (W.cell? a).map fun _ => x := by
 cases h : W.cell? a with
 | some u => exact World.cell?_setCell_same W a x h
 | none =>
  unfold World.cell? at h ⊢;simp only [World.setCell, Array.getElem?_modify, ↓reduceIte];cases hb : W.heap[a.block]? with
  | none => simp
  | some o =>
   cases o with
   | cells c e f =>
    simp only [hb] at h;simp only [Option.map_some];split at h
    ·simp_all
    ·simp_all
   | _ => simp_all
theorem Xq {a b c d : Prop} (h : a ∨ b) (f : a → c) (g : b → d) : c ∨ d := by
 rcases h with h | h
 ·exact .inl (f h)
 ·exact .inr (g h)
theorem Yk {base' : Nat} {size : Nat} (h : w.ownsRow base e size v n xs) (hb : base' ≤ base) : w.ownsRow base' e size v n xs :=
 ⟨h.1, Xq h.2 (fun x => x) fun ⟨g, cap, cur, h1, h2, r⟩ => ⟨g, cap, cur, h1, Nat.le_trans hb h2, r⟩⟩
theorem Xk {size : Nat} (h : w.ownsRow base e size v n xs) {a : Addr} (ha : a.block < base) (u : Value) : (w.setCell a u).ownsRow base e size v n xs :=
 ownsRow_setCell_below h ha u
theorem Zx (h : Zn w W) {a : Addr} (ha : w.heap.size ≤ a.block) (u : Value) : Zn w (W.setCell a u) := Below.setCell h ha u
theorem Yc (h : w.ownsRow base e 1 v n xs) : ∃ ao cap, v = .slice ao n cap := by
 rcases h.2 with ⟨h1, h0⟩ | ⟨g, cap, cur, rfl, hb, _⟩
 ·subst h0; exact ⟨none, 0, h1⟩
 ·exact ⟨_, cap, rfl⟩
theorem Zq4 (w : World) :
  Calls Tryz.prog 108 #[.slice none 0 0] w fun e w' => ∃ v', e = .returned v' ∧ w'.ownsRow w.heap.size 5 1 v' 0 [] ∧ Zn w w' := by
 have q := fun (w : World) (a : Option Addr) (n c n' c' : Nat) => Lib.run_eql_slice_nil (P := Tryz.prog) w 45 5 a n c n' c' Tryz.underlying45
 go_enter Tryz.func108, Tryz.ntmps108;go_wp2;go_ret;exact ⟨_, rfl, World.ownsRow_nil _ _ _ _, Zn.refl _⟩
theorem Zn0 (l : List UInt8) (ad : Addr) (cap : Nat) (w : World) (hm : l.length ≤ 140737488355328)
  (hcells : ∀ (j : Nat) u, (l.map bv)[j]? = some u → w.cell? (ad.add j) = some u) :
  Calls Tryz.prog 108 #[.slice (some ad) l.length cap] w fun e w' => ∃ v', e = .returned v' ∧ w'.ownsRow w.heap.size 5 1 v' l.length (l.map bv) ∧ Zn w w' := by
 obtain ⟨i0, hif, hz0, hz1, hz2⟩ := info_parts V7;have ho := Zca w;have hc1 : ∀ (j : Nat) u, (l.map bv)[j]? = some u → (w.alloc (.cells #[] 5)).cell? (ad.add j) = some u := by
  intro j u hj;have h2 := hcells j u hj;rw [← h2];exact Below.cell (Zb w _) (Zv h2)
 clear hcells;have q := fun (w : World) (a : Option Addr) (n c n' c' : Nat) => Lib.run_eql_slice_nil (P := Tryz.prog) w 45 5 a n c n' c' Tryz.underlying45
 go_enter Tryz.func108, Tryz.ntmps108;go_wp2_with (at_builtin; refine wpList_append_own _ rfl (.tmp 5) (.tmp 6) 45 rfl w.heap.size 5 i0 (.int .u8 0) 1 1 Tryz.underlying45 hif hz0 hz1 hz2 rfl (by decide) (.slice (some ⟨w.heap.size, 0, none⟩) 0 0) 0 [] rfl ho ad l.length cap (l.map bv) rfl (by simp) hc1 (Jk l) (by unfold maxLen; omega) (by omega) (by simp) ?_; intro v2 w2 hown2 hgrow2 _; simp only [Nat.zero_add, List.nil_append] at hown2);have g2 : Zn w w2 := Ya (Zb w _) hgrow2 (fun k e => by simp [Value.ownBlock] at e; omega);go_ret;exact ⟨_, rfl, hown2, g2⟩
theorem V9 (l : List UInt8) (v : Value) (w : World) (hm : l.length ≤ 140737488355328) (h : Bytes w v l) :
  Calls Tryz.prog 108 #[v] w fun e w' => ∃ v', e = .returned v' ∧ w'.ownsRow w.heap.size 5 1 v' l.length (l.map bv) ∧ Zn w w' := by
 obtain ⟨ao, cap, rfl, hnone, hcells⟩ := Yn h;cases ao with
 | some ad => exact Zn0 l ad cap w hm (hcells ad rfl)
 | none =>
  obtain ⟨h1, rfl⟩ := hnone rfl;obtain rfl := List.eq_nil_of_length_eq_zero h1;exact Zq4 w
theorem Ze5 (k y n : Int) (l : List UInt8) (v : Value) (w : World) (hm : l.length ≤ 140737488355328) (h : Bytes w v l) :
  Calls Tryz.prog 101 #[.agg #[.int .i64 k, .int .i64 y, .int .i64 n, v]] w fun e w' => ∃ v', e = .returned (.agg #[.int .i64 k, .int .i64 y, .int .i64 n, v']) ∧ w'.ownsRow w.heap.size 5 1 v' l.length (l.map bv) ∧ Zn w w' := by
 obtain ⟨ao, cap, rfl, -, -⟩ := Yn h;go_enter Tryz.func101, Tryz.ntmps101;go_wp2_with fail;refine (V9 l _ _ hm (by exact Z1 h (Zp _ _ _))).mono ?_;rintro e w1 ⟨v', rfl, ho, g1⟩;obtain ⟨ao', cap', rfl⟩ := Yc ho;obtain ⟨hc, hf⟩ := Zo8 g1;have cs := Zr;clear h;go_wp2_with fail;refine bodyPost_ret (v := .agg #[.int .i64 k, .int .i64 y, .int .i64 n, .slice ao' l.length cap']) (by simp [results, Tryz.results101, go_sem, hc, cs]) rfl ⟨_, rfl, Yk (base := w.heap.size + 2) ?_ (by omega), ?_⟩
 ·replace ho : w1.ownsRow (w.heap.size + 2) 5 1 (.slice ao' l.length cap') l.length (l.map bv) := by simpa using ho
  exact Xk (Xk (Xk (Xk (Xk ho (by simp) _) (by simp) _) (by simp) _) (by simp) _) (by simp) _
 ·exact Zx (Zx (Zx (Zx (Zx ((Zp _ _ _).trans g1) (by simp) _) (by simp) _) (by simp) _) (by simp) _) (by simp) _
variable {W a b w w' : World} {g : Nat} {xs ys : List UInt8}
structure Zo (g : Nat) (w w' : World) : Prop where
 os : w'.os = w.os
 tape : w'.tape = w.tape
 output : w'.output = w.output
 size : w.heap.size ≤ w'.heap.size
 block : ∀ k, k < w.heap.size → k ≠ g → w'.heap[k]? = w.heap[k]?
theorem Zo.refl (g : Nat) (w : World) : Zo g w w := ⟨rfl, rfl, rfl, Nat.le_refl _, fun _ _ _ => rfl⟩
theorem Zo.trans {c : World} (h : Zo g a b) (k : Zo g b c) : Zo g a c :=
 ⟨k.os.trans h.os, k.tape.trans h.tape, k.output.trans h.output, Nat.le_trans h.size k.size, fun i hi hg => (k.block i (Nat.lt_of_lt_of_le hi h.size) hg).trans (h.block i hi hg)⟩
theorem Zo.of (h : Zn a b) : Zo g a b := ⟨h.os, h.tape, h.output, h.size, fun k hk _ => h.block k hk⟩
theorem Zo.row (h : Zo g a b) (c : Array Value) : Zo g a (b.setRow g c) :=
 h.trans ⟨rfl, rfl, rfl, by simp [World.setRow], fun k _ hk => by simp only [World.setRow, Array.getElem?_modify]; rw [if_neg (fun e => hk e.symm)]⟩
theorem Zo.set (h : Zo g a b) (o : Nat) (s) (x : Value) : Zo g a (b.setCell ⟨g, o, s⟩ x) :=
 h.trans ⟨rfl, rfl, rfl, by simp, fun k _ hk => Below.heap_setCell _ _ _ _ hk⟩
theorem Zo.cell (h : Zo g a b) {p : Addr} (hp : p.block < a.heap.size) (hg : p.block ≠ g) : b.cell? p = a.cell? p := World.cell?_of_block (h.block _ hp hg)
theorem Zo.grow (h : Zo g a b) (hw : Zn w a) (hg : w.heap.size ≤ g) : Zn w b :=
 Below.trans (a := w) (b := a) hw ⟨h.os, h.tape, h.output, h.size, fun k hk => h.block k (Nat.lt_of_lt_of_le hk hw.size) (by omega)⟩
theorem Ztk (w : World) : (Instr.makeSlice 45 (.int .i64 14) (.int .i64 14)).run Tryz.prog w = .ok (.slice (some ⟨w.heap.size, 0, none⟩) 14 14)
  (w.alloc (.cells #[.int .u8 0, .int .u8 0, .int .u8 0, .int .u8 0, .int .u8 0, .int .u8 0, .int .u8 0, .int .u8 0, .int .u8 0, .int .u8 0, .int .u8 0, .int .u8 0, .int .u8 0, .int .u8 0] 5)) := by
 obtain ⟨i0, hif, hz0, hz1, hz2⟩ := info_parts V7;have h := run_make (P := Tryz.prog) w 45 5 i0 (.int .u8 0) Tryz.underlying45 hif hz0 .i64 .i64 14 14 (by omega) (by omega) (by rw [hz2]; omega) (by omega);rw [h, hz1, show madeCells (Value.int .u8 0).cells (Int.toNat 14 * 1) = #[.int .u8 0, .int .u8 0, .int .u8 0, .int .u8 0, .int .u8 0, .int .u8 0, .int .u8 0, .int .u8 0, .int .u8 0, .int .u8 0, .int .u8 0, .int .u8 0, .int .u8 0, .int .u8 0] from by kernel_rfl];rfl
theorem Zo.drew (h : Zo g a b) : Zo g a b.drew := ⟨h.os, h.tape, h.output, h.size, h.block⟩
def Qy (w : World) (g : Nat) (xs : List UInt8) : Prop := w.heap[g]? = some (.cells (xs.map bv).toArray 5 (0, 0))
theorem Qy.lt (h : Qy w g xs) : g < w.heap.size := by
 rcases Nat.lt_or_ge g w.heap.size with hl | hl
 ·exact hl
 ·unfold Qy at h; rw [Array.getElem?_eq_none hl] at h; cases h
theorem Qy.grow (h : Qy w g xs) (hg : Zn w w') : Qy w' g xs := (hg.block g h.lt).trans h
theorem Qy.cell (h : Qy w g xs) (i : Nat) (hi : i < xs.length) : w.cell? ⟨g, i, none⟩ = some (.int .u8 (xs[i].toNat : Int)) := by
 unfold Qy at h;simp [World.cell?, h, hi, bv]
theorem Qy.frozen (h : Qy w g xs) (i : Nat) : w.frozen? ⟨g, i, none⟩ = false := by
 unfold Qy at h;simp [World.frozen?, h]
theorem Qy.set (h : Qy w g xs) (i : Nat) (c : UInt8) : Qy (w.setCell ⟨g, i, none⟩ (.int .u8 (c.toNat : Int))) g (xs.set i c) := by
 unfold Qy at h ⊢;simp only [World.setCell, Array.getElem?_modify, if_true, h, Option.map_some];simp [List.map_set, bv]
theorem Qy.row (h : Qy w g xs) : Qy (w.setRow g (ys.map bv).toArray) g ys := by
 unfold Qy at h ⊢;simp only [World.setRow, Array.getElem?_modify, if_true, h, Option.map_some]
theorem Qy.bytes (h : Qy w g xs) (o n cap : Nat) (hn : o + n ≤ xs.length) (hc : n ≤ cap) : Bytes w (.slice (some ⟨g, o, none⟩) n cap) ((xs.drop o).take n) := by
 have e : ((xs.drop o).take n).length = n := by simp; omega
 refine .inr ⟨g, o, cap, by rw [e], by omega, fun i hi => ?_⟩;rw [h.cell (o + i) (by omega)];simp
theorem Qy.alloc (w : World) (xs : List UInt8) : Qy (w.alloc (.cells (xs.map bv).toArray 5)) w.heap.size xs := by
 unfold Qy World.alloc;simp
theorem Zcf {v : Value} {l : List UInt8} (h : Bytes w v l) (hg : Zo g w w') (hn : ∀ b o n c, v = .slice (some ⟨b, o, none⟩) n c → b ≠ g) : Bytes w' v l := by
 rcases h with h | ⟨b, off, cap, rfl, h1, hc⟩
 ·exact .inl h
 ·refine .inr ⟨b, off, cap, rfl, h1, fun i hi => ?_⟩;have h2 := hc i hi;rw [← h2];exact hg.cell (Zv h2) (hn _ _ _ _ rfl)
theorem Zhp : (Tryz.prog.info? 5).map (·.size) = some 1 := by
 have := V7;cases h : Tryz.prog.info? 5 with
 | none => rw [h] at this; cases this
 | some i => rw [h] at this; simp at this; simp [this]
theorem Zgy (w : World) (g o dLen dCap : Nat) (xs ys : List UInt8) (v : Value) (ty : TypeId) (hrow : Qy w g xs) (hsrc : Bytes w v ys) (hfit : o + dLen ≤ xs.length) (hle : ys.length ≤ dLen) :
  ∃ w', (Builtin.copy_ #[45, 45] ty #[.slice (some ⟨g, o, none⟩) dLen dCap, v]).run Tryz.prog w = .ok (goInt ys.length) w' ∧ Zo g w w' ∧ Qy w' g (xs.take o ++ ys ++ xs.drop (o + ys.length)) := by
 obtain ⟨ao, cap, rfl, hnone, hcells⟩ := Yn hsrc;by_cases h0 : ys.length = 0
 ·obtain rfl := List.eq_nil_of_length_eq_zero h0;refine ⟨w, ?_, Zo.refl _ _, by simpa using hrow⟩;exact run_copy_none (P := Tryz.prog) w 45 45 ty 5 _ ao dLen dCap 0 cap Tryz.underlying45 Zhp (by simp)
 ·cases ao with
  | none => exact absurd (hnone rfl).1 h0
  | some ad =>
   have h := run_copy_row (P := Tryz.prog) w 45 45 ty 5 g o dLen dCap ad ys.length cap (xs.map bv).toArray 5 (ys.map bv) Tryz.underlying45 Zhp hrow (by rw [List.length_map]; exact (Nat.min_eq_left hle).symm) (hcells ad rfl) (by simp; omega) (Jk ys);rw [h];have e : ((xs.map bv).toArray.toList.take o ++ ys.map bv ++ (xs.map bv).toArray.toList.drop (o + (ys.map bv).length)) = (xs.take o ++ ys ++ xs.drop (o + ys.length)).map bv := by simp [List.map_take, List.map_drop]
   rw [e];exact ⟨_, by simp, (Zo.refl _ _).row _, hrow.row⟩
theorem Zgz (k : Int) (h0 : 0 ≤ k) (h1 : k < 256) : bv (lo k) = .int .u8 k := by unfold bv; rw [Kk]; exact Ze1 (by omega)
def Zn7 (B : Nat) (n : Int) (v : Value) (w : World) : Prop := ∃ b cap, B ≤ b ∧ v = .slice (some ⟨b, 0, none⟩) 2 cap ∧ Bytes w v [hi n, lo n]
theorem Zu0 (B : Nat) (n : Int) : Xv (Zn7 B n) := by
 rintro v w w' hg ⟨b, cap, h1, h2, h3⟩;exact ⟨b, cap, h1, h2, Z1 h3 hg⟩
theorem Zq8 (w : World) (n : Int) : Bytes (w.alloc (.cells #[.int .u8 ((hi n).toNat : Int), .int .u8 ((lo n).toNat : Int)] 5)) (.slice (some ⟨w.heap.size, 0, none⟩) 2 2) [hi n, lo n] := by
 refine .inr ⟨w.heap.size, 0, 2, rfl, by simp, fun i hi => ?_⟩
 match i, hi with
 | 0, _ => simp
 | 1, _ => simp
theorem Zyc (n : Int) (w : World) :
  Calls Tryz.prog 138 #[.int .i64 n] w fun e w' => ∃ v, e = .returned v ∧ Zn w w' ∧ Zn7 w.heap.size n v w' :=
 (Zof n w).mono fun e w' ⟨he, hw⟩ => by
  subst hw;exact ⟨_, he, Zb _ _, w.heap.size, 2, Nat.le_refl _, rfl, Zq8 w n⟩
theorem Zu6 (B g : Nat) (n : Int) (h : g < B) (v : Value) (w w' : World) (hg : Zo g w w') (hq : Zn7 B n v w) : Zn7 B n v w' := by
 obtain ⟨b, cap, h1, rfl, h3⟩ := hq;exact ⟨b, cap, h1, rfl, Zcf h3 hg (fun b' o n c e => by cases e; omega)⟩
def Way (g : Nat) (W : World) (xs ys : List UInt8) (w : World) : Prop := Zo g W w ∧ (Qy w g xs ∨ Qy w g ys)
theorem Way.start (h : Qy W g xs) : Way g W xs ys W.drew := ⟨(Zo.refl _ _).drew, .inl h⟩
theorem Way.grow (h : Way g W xs ys w) (hg : Zn w w') : Way g W xs ys w' := ⟨h.1.trans (Zo.of hg), Xq h.2 (·.grow hg) (·.grow hg)⟩
theorem Zrv (g : Nat) (xs : List UInt8) : Xv (fun _ w => Qy w g xs) := fun _ _ _ hg h => Qy.grow h hg
theorem Zt5 (k y n at_ : Int) (l : List UInt8) :
  (([lo k, lo at_, lo y, hi n, lo n] ++ List.replicate 9 0).set 5 (lo (l.length : Int))).take 6 ++ l ++ (([lo k, lo at_, lo y, hi n, lo n] ++ List.replicate 9 0).set 5 (lo (l.length : Int))).drop (6 + l.length) = Zat ⟨k, y, n, l⟩ at_ := by
 have e : ([lo k, lo at_, lo y, hi n, lo n] ++ List.replicate 9 0).set 5 (lo (l.length : Int)) = [lo k, lo at_, lo y, hi n, lo n, lo (l.length : Int)] ++ List.replicate 8 0 := by
  simp [List.replicate]
 have e2 : ([lo k, lo at_, lo y, hi n, lo n, lo (l.length : Int)] ++ List.replicate 8 (0 : UInt8)).drop (6 + l.length) = List.replicate (8 - l.length) 0 := by
  rw [List.drop_append, List.drop_eq_nil_of_le (by simp), List.nil_append, List.drop_replicate]
  congr 1
  simp
 rw [e, e2];simp [Zat]
theorem Zt4 (k y n at_ : Int) (l : List UInt8) :
  (Zat ⟨k, y, n, l⟩ at_).take 6 ++ l ++ (Zat ⟨k, y, n, l⟩ at_).drop (6 + l.length) = Zat ⟨k, y, n, l⟩ at_ := by
 unfold Zat;rw [List.drop_append, List.drop_append];simp
theorem Zie (k y n at_ : Int) (l : List UInt8) (v : Value) (w : World) (hv : Bytes w v l) (hr : Z9 ⟨k, y, n, l⟩ = 0) (h0 : 0 ≤ at_) (h1 : at_ ≤ 255) :
  Calls Tryz.prog 107 #[.agg #[.int .i64 k, .int .i64 y, .int .i64 n, v], .int .i64 at_] w fun e w' => ∃ v', e = .returned v' ∧ w'.ownsRow w.heap.size 5 1 v' 16 ((blk ⟨k, y, n, l⟩ at_).map bv) ∧ Zn w w' := by
 obtain ⟨hk0, hk1, hy0, hy1, hn0, hn1, hl⟩ := Vr hr;have HR : Hid (Z9 ⟨k, y, n, l⟩ = 0) := hr;clear hr;simp only at hk0 hk1 hy0 hy1 hn0 hn1 hl;obtain ⟨ao, cap, rfl, hnone, hcells⟩ := Yn hv;go_enter Tryz.func107, Tryz.ntmps107;go_wp2_with fail;refine (Zb3 k y n l _ _ (by exact Z1 hv (Zb _ _))).mono ?_;rw [HR.out];rintro e w1 ⟨rfl, g1⟩;obtain ⟨hc, hf⟩ := Zo8 g1;have cs := Zr;have hz : w.heap.size < w1.heap.size := by have := g1.size; simp at this; omega
 have mk := Ztk;clear hcells;go_wp2_with fail;clear mk;have hrow : Qy (w1.alloc (.cells #[.int .u8 k, .int .u8 at_, .int .u8 y, .int .u8 0, .int .u8 0, .int .u8 0, .int .u8 0, .int .u8 0, .int .u8 0, .int .u8 0, .int .u8 0, .int .u8 0, .int .u8 0, .int .u8 0] 5)) w1.heap.size ([lo k, lo at_, lo y] ++ List.replicate 11 0) := by
  have h := Qy.alloc w1 ([lo k, lo at_, lo y] ++ List.replicate 11 0);have e : (([lo k, lo at_, lo y] ++ List.replicate 11 0).map bv).toArray = #[.int .u8 k, .int .u8 at_, .int .u8 y, .int .u8 0, .int .u8 0, .int .u8 0, .int .u8 0, .int .u8 0, .int .u8 0, .int .u8 0, .int .u8 0, .int .u8 0, .int .u8 0, .int .u8 0] := by
   simp [Zgz k (by omega) (by omega), Zgz at_ (by omega) (by omega), Zgz y (by omega) (by omega), List.replicate]
   kernel_rfl
  rw [e] at h;exact h
 have gW : Zn w (w1.alloc (.cells #[.int .u8 k, .int .u8 at_, .int .u8 y, .int .u8 0, .int .u8 0, .int .u8 0, .int .u8 0, .int .u8 0, .int .u8 0, .int .u8 0, .int .u8 0, .int .u8 0, .int .u8 0, .int .u8 0] 5)) := ((Zb _ _).trans g1).trans (Zb _ _);have c2 : (w1.alloc (.cells #[.int .u8 k, .int .u8 at_, .int .u8 y, .int .u8 0, .int .u8 0, .int .u8 0, .int .u8 0, .int .u8 0, .int .u8 0, .int .u8 0, .int .u8 0, .int .u8 0, .int .u8 0, .int .u8 0] 5)).cell? ⟨w.heap.size, 2, none⟩ = some (.int .i64 n) := by
  rw [World.cell?_alloc_past _ _ _ hz, hc _ _ (by simp)]; simp
 have c3 : (w1.alloc (.cells #[.int .u8 k, .int .u8 at_, .int .u8 y, .int .u8 0, .int .u8 0, .int .u8 0, .int .u8 0, .int .u8 0, .int .u8 0, .int .u8 0, .int .u8 0, .int .u8 0, .int .u8 0, .int .u8 0] 5)).cell? ⟨w.heap.size, 3, none⟩ = some (.slice ao l.length cap) := by
  rw [World.cell?_alloc_past _ _ _ hz, hc _ _ (by simp)]; simp
 have hbW := Z1 hv gW;generalize World.alloc w1 _ = W at hrow gW c2 c3 hbW ⊢;generalize w1.heap.size = g at hrow hz ⊢;clear hc hf g1;have hgW := hrow.lt;have hvb : ∀ b o n c, Value.slice ao l.length cap = .slice (some ⟨b, o, none⟩) n c → l.length ≠ 0 → b < w.heap.size := by
  intro b o n c e hne;cases e;rcases hv with ⟨ao, cp, h2, h3, _⟩ | ⟨b', o', cp, h2, h3, h4⟩
  ·rw [h3] at hne; exact absurd rfl hne
  ·cases h2;exact Zv (h4 0 (by omega))
 clear hv;refine Qj [px (.slice (some ⟨g, 0, none⟩) 14 14), px (.slice (some ⟨g, 3, none⟩) 2 11), px (.pointer (some ⟨w.heap.size, 2, none⟩)), px (.int .i64 n), pl (Zn7 W.heap.size n), pl ((fun _ w => Qy w g ([lo k, lo at_, lo y, hi n, lo n] ++ List.replicate 9 0)))] [none, none, none, none, none, some ((fun w w' => Zo g w w'))] (Way g W ([lo k, lo at_, lo y] ++ List.replicate 11 0) ([lo k, lo at_, lo y, hi n, lo n] ++ List.replicate 9 0)) (by kernel_rfl) (by kernel_rfl) ⟨se, se, se, se, Yj (Zu0 _ _), Yj (Zrv _ _), trivial⟩ ⟨⟨(fun w => Zo.refl _ w), ⟨x5, x5, x5, x5, .inr ((fun v _ w w' hs hq => Zu6 W.heap.size g n hgW v w w' hs hq)), .inl (by kernel_rfl), trivial⟩⟩, trivial⟩ ⟨n5, n5, n5, n5, n5, n5, trivial⟩ (Way.start hrow) ?_ ?_
 ·refine ⟨?_, ?_, ?_, ?_, ?_, ?_, trivial⟩
  ·exact Zk rfl fun a _ _ _ B A => Z6 rfl B (Zl A 5 rfl)
  ·refine Zk rfl fun a _ _ _ B A => ?_;have e32 : a (.tmp 32) = _ := Ze A 0 rfl;refine Zh ?_ B rfl;clear A B;go_simp;all_goals go_arith
  ·refine Zk rfl fun a _ _ _ B A => ?_;have e2 : a (.tmp 2) = .pointer (some ⟨w.heap.size, 0, none⟩) := Zl A 2 rfl;refine Zh ?_ B rfl;clear A B;go_simp;all_goals go_arith
  ·refine Zk rfl fun a _ _ _ B A => ?_;have e34 : a (.tmp 34) = _ := Ze A 2 rfl;have h1 := (B.1.cell (p := ⟨w.heap.size, 2, none⟩) (Zv c2) (by show w.heap.size ≠ g; omega)).trans c2;refine Zh ?_ B rfl;clear A B;go_simp;all_goals go_arith
  ·refine Zk rfl fun a B _ _ C A => ?_;have e35 : a (.tmp 35) = _ := Ze A 3 rfl;refine Yf (f := 138) (args := #[.int .i64 n]) ?_ ((Zyc n B).mono ?_)
   ·clear A C;go_simp;all_goals go_arith
   ·rintro e w2 ⟨v', rfl, hgr, b, cap, h1, h2, h3⟩;exact ⟨_, rfl, hgr, C.grow hgr, b, cap, Nat.le_trans C.1.size h1, h2, h3⟩
  ·refine Zk rfl fun a w' _ _ B A => ?_;have e33 : a (.tmp 33) = _ := Ze A 1 rfl;have e36 : (Zn7 W.heap.size n) (a (.tmp 36)) w' := Ze A 4 rfl;obtain ⟨b, cp, hb1, hb2, hb3⟩ := e36;rw [hb2] at hb3;have hst : ∃ w2, (Builtin.copy_ #[45, 45] 3 #[.slice (some ⟨g, 3, none⟩) 2 11, .slice (some ⟨b, 0, none⟩) 2 cp]).run Tryz.prog w' = .ok (goInt 2) w2 ∧ Zo g w' w2 ∧ Qy w2 g ([lo k, lo at_, lo y, hi n, lo n] ++ List.replicate 9 0) := by
    rcases B.2 with hr | hr
    all_goals
     obtain ⟨w2, k1, k2, k3⟩ := Zgy w' g 3 2 11 _ [hi n, lo n] _ 3 hr hb3 (by simp) (by simp);exact ⟨w2, k1, k2, k3⟩
   obtain ⟨w2, hrun, hgb, hr2⟩ := hst;refine Ql (v := goInt 2) (w' := w2) ?_ hgb ⟨B.1.trans hgb, .inr hr2⟩ hr2;clear A B;go_simp;all_goals go_arith
 ·intro vs w' hg ht;obtain ⟨(r32 : vs 0 = _), (r33 : vs 1 = _), (r34 : vs 2 = _), (r35 : vs 3 = _), q36, q37, -⟩ := ht;replace q36 : (Zn7 W.heap.size n) (vs 4) w' := q36;replace q37 : ((fun _ w => Qy w g ([lo k, lo at_, lo y, hi n, lo n] ++ List.replicate 9 0))) (vs 5) w' := q37;simp only [Yi, Act.put, List.setIfInBounds_toArray, List.set_cons_zero, List.set_cons_succ, Nat.reduceAdd, r32, r33, r34, r35];clear r32 r33 r34 r35;have c3' := (hg.1.cell (p := ⟨w.heap.size, 3, none⟩) (Zv c3) (by show w.heap.size ≠ g; omega)).trans c3;have hb' : Bytes w' (.slice ao l.length cap) l := by
   by_cases h0 : l.length = 0
   ·have e := List.eq_nil_of_length_eq_zero h0;subst e;rcases hbW with h | ⟨b, o, cp, h2, h3, h4⟩
    ·exact .inl h
    ·exact .inr ⟨b, o, cp, h2, h3, fun i hi => absurd hi (by simp)⟩
   ·exact Zcf hbW hg.1 (fun b o n c e => by have := hvb b o n c e h0; omega)
  have gw' : Zn w w' := hg.1.grow gW (by omega);clear q36 hg c2 c3 hrow hbW gW hgW;have hc5 := q37.cell 5 (by simp);have hf5 := q37.frozen 5;have hlen : (l.length : Int) ≤ 8 := by omega
  simp only [List.cons_append, List.nil_append, List.getElem_cons_succ, List.getElem_replicate] at hc5;generalize vs _ = u4;generalize vs _ = u5;go_wp2_with fail;have e5 : (l.length : Int) = ((lo (l.length : Int)).toNat : Int) := by rw [Kk]; omega
  have hr2 := q37.set 5 (lo (l.length : Int));rw [← e5] at hr2;have c3 : (w'.setCell ⟨g, 5, none⟩ (.int .u8 (l.length : Int))).cell? ⟨w.heap.size, 3, none⟩ = some (.slice ao l.length cap) := by
   rw [World.cell?_setCell_other _ _ _ _ (by intro e; cases e)]; exact c3'
  have hbW : Bytes (w'.setCell ⟨g, 5, none⟩ (.int .u8 (l.length : Int))) (.slice ao l.length cap) l := by
   by_cases h0 : l.length = 0
   ·have e := List.eq_nil_of_length_eq_zero h0;subst e;rcases hb' with h | ⟨b, o, cp, h2, h3, h4⟩
    ·exact .inl h
    ·exact .inr ⟨b, o, cp, h2, h3, fun i hi => absurd hi (by simp)⟩
   ·exact Zcf hb' ((Zo.refl g _).set _ _ _) (fun b o n c e => by have := hvb b o n c e h0; omega)
  have gW : Zn w (w'.setCell ⟨g, 5, none⟩ (.int .u8 (l.length : Int))) := Zx gw' (by show w.heap.size ≤ g; omega) _;clear hb' c3' hc5 hf5 q37 gw' e5;generalize w'.setCell _ _ = W2 at *;clear w';refine Qj [px (.slice (some ⟨g, 0, none⟩) 14 14), px (.slice (some ⟨g, 6, none⟩) 8 8), px (.pointer (some ⟨w.heap.size, 3, none⟩)), px (.slice ao l.length cap), pl ((fun _ w => Qy w g (Zat ⟨k, y, n, l⟩ at_)))] [none, none, none, none, some ((fun w w' => Zo g w w'))] (Way g W2 (([lo k, lo at_, lo y, hi n, lo n] ++ List.replicate 9 0).set 5 (lo (l.length : Int))) (Zat ⟨k, y, n, l⟩ at_)) (by kernel_rfl) (by kernel_rfl) ⟨se, se, se, se, Yj (Zrv _ _), trivial⟩ ⟨⟨(fun w => Zo.refl _ w), ⟨x5, x5, x5, x5, .inl (by kernel_rfl), trivial⟩⟩, trivial⟩ ⟨n5, n5, n5, n5, n5, trivial⟩ (Way.start hr2) ?_ ?_
  ·refine ⟨?_, ?_, ?_, ?_, ?_, trivial⟩
   ·exact Zk rfl fun a _ _ _ B A => Z6 rfl B (Zl A 5 rfl)
   ·refine Zk rfl fun a _ _ _ B A => ?_;have e44 : a (.tmp 44) = _ := Ze A 0 rfl;refine Zh ?_ B rfl;clear A B;go_simp;all_goals go_arith
   ·refine Zk rfl fun a _ _ _ B A => ?_;have e2 : a (.tmp 2) = .pointer (some ⟨w.heap.size, 0, none⟩) := Zl A 2 rfl;refine Zh ?_ B rfl;clear A B;go_simp;all_goals go_arith
   ·refine Zk rfl fun a _ _ _ B A => ?_;have e46 : a (.tmp 46) = _ := Ze A 2 rfl;have h1 := (B.1.cell (p := ⟨w.heap.size, 3, none⟩) (Zv c3) (by show w.heap.size ≠ g; omega)).trans c3;refine Zh ?_ B rfl;clear A B;go_simp;all_goals go_arith
   ·refine Zk rfl fun a w' _ _ B A => ?_;have e45 : a (.tmp 45) = _ := Ze A 1 rfl;have e47 : a (.tmp 47) = _ := Ze A 3 rfl;have hbw : Bytes w' (.slice ao l.length cap) l := by
     by_cases h0 : l.length = 0
     ·have e := List.eq_nil_of_length_eq_zero h0;subst e;rcases hbW with h | ⟨b, o, cp, h2, h3, h4⟩
      ·exact .inl h
      ·exact .inr ⟨b, o, cp, h2, h3, fun i hi => absurd hi (by simp)⟩
     ·exact Zcf hbW B.1 (fun b o n c e => by have := hvb b o n c e h0; omega)
    have hst : ∃ w2, (Builtin.copy_ #[45, 45] 3 #[.slice (some ⟨g, 6, none⟩) 8 8, .slice ao l.length cap]).run Tryz.prog w' = .ok (goInt l.length) w2 ∧ Zo g w' w2 ∧ Qy w2 g (Zat ⟨k, y, n, l⟩ at_) := by
     rcases B.2 with hr | hr
     ·obtain ⟨w2, k1, k2, k3⟩ := Zgy w' g 6 8 8 _ l _ 3 hr hbw (by simp) hl;exact ⟨w2, k1, k2, by rw [Zt5 k y n at_ l] at k3; exact k3⟩
     ·obtain ⟨w2, k1, k2, k3⟩ := Zgy w' g 6 8 8 _ l _ 3 hr hbw (by rw [Qq _ _ hl]; omega) hl;exact ⟨w2, k1, k2, by rw [Zt4 k y n at_ l] at k3; exact k3⟩
    obtain ⟨w2, hrun, hgb, hr2⟩ := hst;refine Ql (v := goInt l.length) (w' := w2) ?_ hgb ⟨B.1.trans hgb, .inr hr2⟩ hr2;clear A B hbw;go_simp;all_goals go_arith
  ·intro vs w' hg ht;obtain ⟨(r44 : vs 0 = _), (r45 : vs 1 = _), (r46 : vs 2 = _), (r47 : vs 3 = _), q48, -⟩ := ht;replace q48 : ((fun _ w => Qy w g (Zat ⟨k, y, n, l⟩ at_))) (vs 4) w' := q48;simp only [Yi, Act.put, List.setIfInBounds_toArray, List.set_cons_zero, List.set_cons_succ, Nat.reduceAdd, r44, r45, r46, r47];clear r44 r45 r46 r47;have gw2 : Zn w w' := hg.1.grow gW (by omega);have hB := q48.bytes 0 14 14 (by rw [Qq _ _ hl]; omega) (by omega);rw [List.drop_zero, List.take_of_length_le (by rw [Qq _ _ hl]; omega)] at hB;generalize vs _ = u6;clear hg hbW c3 gW hr2 hvb;go_wp2_with fail;refine (Zsd _ _ _ (by rw [Qq _ _ hl]; omega) hB).mono ?_;rintro e w3 ⟨v', rfl, ho, g3⟩;rw [Qq _ _ hl] at ho;go_wp2;go_ret;exact ⟨_, rfl, Yk ho gw2.size, gw2.trans g3⟩
end Go.Proofs.YtpdnapbchcdhlacGreat
