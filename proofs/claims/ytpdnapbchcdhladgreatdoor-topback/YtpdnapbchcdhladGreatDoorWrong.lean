import Derived.Test.YtpdnapbchcdhladGreatDoorJSum
import Derived.Lib.SliceRun
set_option maxHeartbeats 8000000
namespace Go.Proofs.YtpdnapbchcdhladGreatDoor
set_option maxRecDepth 100000
open Go.RowKit
open Plain Reg
theorem Js (k y n : Int) (l : List UInt8) (v : Value) (w : World) :
  Calls Tryz.prog 118 #[.agg #[.int .i64 k, .int .i64 y, .int .i64 n, v]] w fun e w' => e = .returned (.bool (Xa ⟨k, y, n, l⟩)) ∧ Zj w w' := by
 go_enter Tryz.func118, Tryz.ntmps118;go_wp2;all_goals go_ret
 all_goals refine ⟨?_, Zd _ _⟩
 all_goals simp_all [Xa]
 all_goals first | omega | (rw [Bool.eq_iff_iff]; simp)
theorem Zbc (k : Int) (w : World) :
  Calls Tryz.prog 119 #[.int .i64 k] w fun e w' => e = .returned (.int .i64 (Xb k)) ∧ w = w' := by
 go_enter Tryz.func119, Tryz.ntmps119;go_wp2;all_goals go_ret
 all_goals simp_all [Xb]
theorem Znb (k y n : Int) (l : List UInt8) (v : Value) (w : World) (hk : k < 1 ∨ 3 < k) :
  Calls Tryz.prog 74 #[.agg #[.int .i64 k, .int .i64 y, .int .i64 n, v]] w fun e w' => e = .returned (.int .i64 (Z6 ⟨k, y, n, l⟩)) ∧ Zj w w' := by
 have HW : Hid (Z6 ⟨k, y, n, l⟩ = 1) := by show Z6 _ = 1; unfold Z6; rw [if_pos (by exact hk)]
 have d1 : (k != 1) = true := by simp; omega
 have d2 : (k != 2) = true := by simp; omega
 have d3 : (k != 3) = true := by simp; omega
 go_enter Tryz.func74, Tryz.ntmps74;go_wp2_with fail;go_ret;exact ⟨Xd HW.out.symm, Zd _ _⟩
theorem Ztr (k y n : Int) (l : List UInt8) (v : Value) (w : World) (hk : 1 ≤ k ∧ k ≤ 3) (hv : Bytes w v l) :
  Calls Tryz.prog 74 #[.agg #[.int .i64 k, .int .i64 y, .int .i64 n, v]] w fun e w' => e = .returned (.int .i64 (Z6 ⟨k, y, n, l⟩)) ∧ Zj w w' := by
 obtain ⟨ao, cap, rfl, -, -⟩ := Yt hv;clear hv;have HK : Hid (k = 1 ∨ k = 2 ∨ k = 3) := by show _ ∨ _; omega
 have hw : Z6 ⟨k, y, n, l⟩ = if Xa ⟨k, y, n, l⟩ = false then 3 else if Xb k < (l.length : Int) then 4 else 0 := by
  unfold Z6; rw [if_neg (by simp; omega)]
 clear hk;cases hr : Xa ⟨k, y, n, l⟩ with
 | false =>
  have HF : Hid (Z6 ⟨k, y, n, l⟩ = 3) := by show Z6 _ = 3; rw [hw, hr]; rfl
  have HR : Hid (Xa ⟨k, y, n, l⟩ = false) := hr;clear hw hr;rcases HK.out with h | h | h
  all_goals
   first
    | (have d1 : (k != 1) = false := by simp [h])
    | (have d1 : (k != 1) = true := by simp [h]); (have d2 : (k != 2) = false := by simp [h])
    | (have d1 : (k != 1) = true := by simp [h]); (have d2 : (k != 2) = true := by simp [h]); (have d3 : (k != 3) = false := by simp [h])
   clear h;go_enter Tryz.func74, Tryz.ntmps74;go_wp2_with fail;refine (Js k y n l _ _).mono ?_;rw [HR.out];rintro e w1 ⟨rfl, g1⟩;go_wp2_with fail;go_ret;exact ⟨Xd HF.out.symm, (Zd _ _).trans g1⟩
 | true =>
  have HW : Hid (Z6 ⟨k, y, n, l⟩ = if Xb k < (l.length : Int) then 4 else 0) := by show Z6 _ = _; rw [hw, hr]; rfl
  have HR : Hid (Xa ⟨k, y, n, l⟩ = true) := hr;clear hw hr;rcases HK.out with h | h | h
  ·have d1 : (k != 1) = false := by simp [h]
   clear h;go_enter Tryz.func74, Tryz.ntmps74;go_wp2_with fail;refine (Js k y n l _ _).mono ?_;rw [HR.out];rintro e w1 ⟨rfl, g1⟩;have g : Zj w w1 := (Zd _ _).trans g1;have hc0 : w1.cell? ⟨w.heap.size, 0, none⟩ = some (.int .i64 k) := (Below.cell g1 (p := ⟨w.heap.size, 0, none⟩) (by simp)).trans (by simp);have hc3 : w1.cell? ⟨w.heap.size, 3, none⟩ = some (.slice ao l.length cap) := (Below.cell g1 (p := ⟨w.heap.size, 3, none⟩) (by simp)).trans (by simp);clear g1;go_wp2_with fail;refine Zz [ex (.pointer (some ⟨w.heap.size, 3, none⟩)), ex (.slice ao l.length cap), ex (.int .i64 l.length), ex (.pointer (some ⟨w.heap.size, 0, none⟩)), ex (.int .i64 k), ex (.int .i64 (Xb k)), ex (.bool (decide (Xb k < (l.length : Int)))), ex (.bool (decide (Xb k < (l.length : Int))))] (by kernel_rfl) (by kernel_rfl) ⟨Zg _, Zg _, Zg _, Zg _, Zg _, Zg _, Zg _, Zg _, trivial⟩ ?_ ?_
   ·refine ⟨?_, ?_, ?_, ?_, ?_, ?_, ?_, ?_, trivial⟩
    ·refine Zb rfl fun a _ _ _ B A => ?_;have e1 : a (.tmp 1) = .pointer (some ⟨w.heap.size, 0, none⟩) := Zp A 1 rfl;refine Zi ?_ rfl;clear A B;go_simp;all_goals go_arith
    ·refine Zb rfl fun a _ _ _ B A => ?_;have e22 : a (.tmp 22) = _ := Zc A 0 rfl;have h1 := (Below.cell B (Zr hc3)).trans hc3;refine Zi ?_ rfl;clear A B;go_simp;all_goals go_arith
    ·refine Zb rfl fun a _ _ _ B A => ?_;have e23 : a (.tmp 23) = _ := Zc A 1 rfl;refine Zi ?_ rfl;clear A B;go_simp;all_goals go_arith
    ·refine Zb rfl fun a _ _ _ B A => ?_;have e1 : a (.tmp 1) = .pointer (some ⟨w.heap.size, 0, none⟩) := Zp A 1 rfl;refine Zi ?_ rfl;clear A B;go_simp;all_goals go_arith
    ·refine Zb rfl fun a _ _ _ B A => ?_;have e25 : a (.tmp 25) = _ := Zc A 3 rfl;have h1 := (Below.cell B (Zr hc0)).trans hc0;refine Zi ?_ rfl;clear A B;go_simp;all_goals go_arith
    ·refine Zb rfl fun a B _ _ C A => ?_;have e26 : a (.tmp 26) = _ := Zc A 4 rfl;refine Yj (f := 119) (args := #[.int .i64 k]) ?_ ((Zbc k B).mono ?_)
     ·clear A C;go_simp;all_goals go_arith
     ·rintro e w2 ⟨rfl, rfl⟩;exact ⟨_, rfl, Zj.refl _, rfl⟩
    ·refine Zb rfl fun a _ _ _ B A => ?_;have e24 : a (.tmp 24) = _ := Zc A 2 rfl;have e27 : a (.tmp 27) = _ := Zc A 5 rfl;refine Zi ?_ rfl;clear A B;go_simp;all_goals go_arith
    ·exact Zb rfl fun a _ _ _ _ A => Yk rfl (Zc A 6 rfl)
   ·intro vs w' hg ht;obtain ⟨(r22 : vs 0 = _), (r23 : vs 1 = _), (r24 : vs 2 = _), (r25 : vs 3 = _), (r26 : vs 4 = _), (r27 : vs 5 = _), (r28 : vs 6 = _), (r21 : vs 7 = _), -⟩ := ht;simp only [Z8, Act.put, List.setIfInBounds_toArray, List.set_cons_zero, List.set_cons_succ, r22, r23, r24, r25, r26, r27, r28, r21];clear r22 r23 r24 r25 r26 r27 r28 r21;have g2 : Zj w w' := g.trans hg;clear hg g hc0 hc3;by_cases hlt : Xb k < (l.length : Int)
    ·have HF : Hid (Z6 ⟨k, y, n, l⟩ = 4) := by show Z6 _ = 4; rw [HW.out, if_pos hlt]
     rw [decide_eq_true hlt];clear hlt;go_wp2;go_ret;exact ⟨Xd HF.out.symm, g2⟩
    ·have HF : Hid (Z6 ⟨k, y, n, l⟩ = 0) := by show Z6 _ = 0; rw [HW.out, if_neg hlt]
     rw [decide_eq_false hlt];clear hlt;go_wp2;go_ret;exact ⟨Xd HF.out.symm, g2⟩
  ·have d1 : (k != 1) = true := by simp [h]
   have d2 : (k != 2) = false := by simp [h]
   clear h;go_enter Tryz.func74, Tryz.ntmps74;go_wp2_with fail;refine (Js k y n l _ _).mono ?_;rw [HR.out];rintro e w1 ⟨rfl, g1⟩;have g : Zj w w1 := (Zd _ _).trans g1;have hc0 : w1.cell? ⟨w.heap.size, 0, none⟩ = some (.int .i64 k) := (Below.cell g1 (p := ⟨w.heap.size, 0, none⟩) (by simp)).trans (by simp);have hc3 : w1.cell? ⟨w.heap.size, 3, none⟩ = some (.slice ao l.length cap) := (Below.cell g1 (p := ⟨w.heap.size, 3, none⟩) (by simp)).trans (by simp);clear g1;go_wp2_with fail;refine Zz [ex (.pointer (some ⟨w.heap.size, 3, none⟩)), ex (.slice ao l.length cap), ex (.int .i64 l.length), ex (.pointer (some ⟨w.heap.size, 0, none⟩)), ex (.int .i64 k), ex (.int .i64 (Xb k)), ex (.bool (decide (Xb k < (l.length : Int)))), ex (.bool (decide (Xb k < (l.length : Int))))] (by kernel_rfl) (by kernel_rfl) ⟨Zg _, Zg _, Zg _, Zg _, Zg _, Zg _, Zg _, Zg _, trivial⟩ ?_ ?_
   ·refine ⟨?_, ?_, ?_, ?_, ?_, ?_, ?_, ?_, trivial⟩
    ·refine Zb rfl fun a _ _ _ B A => ?_;have e1 : a (.tmp 1) = .pointer (some ⟨w.heap.size, 0, none⟩) := Zp A 1 rfl;refine Zi ?_ rfl;clear A B;go_simp;all_goals go_arith
    ·refine Zb rfl fun a _ _ _ B A => ?_;have e22 : a (.tmp 22) = _ := Zc A 0 rfl;have h1 := (Below.cell B (Zr hc3)).trans hc3;refine Zi ?_ rfl;clear A B;go_simp;all_goals go_arith
    ·refine Zb rfl fun a _ _ _ B A => ?_;have e23 : a (.tmp 23) = _ := Zc A 1 rfl;refine Zi ?_ rfl;clear A B;go_simp;all_goals go_arith
    ·refine Zb rfl fun a _ _ _ B A => ?_;have e1 : a (.tmp 1) = .pointer (some ⟨w.heap.size, 0, none⟩) := Zp A 1 rfl;refine Zi ?_ rfl;clear A B;go_simp;all_goals go_arith
    ·refine Zb rfl fun a _ _ _ B A => ?_;have e25 : a (.tmp 25) = _ := Zc A 3 rfl;have h1 := (Below.cell B (Zr hc0)).trans hc0;refine Zi ?_ rfl;clear A B;go_simp;all_goals go_arith
    ·refine Zb rfl fun a B _ _ C A => ?_;have e26 : a (.tmp 26) = _ := Zc A 4 rfl;refine Yj (f := 119) (args := #[.int .i64 k]) ?_ ((Zbc k B).mono ?_)
     ·clear A C;go_simp;all_goals go_arith
     ·rintro e w2 ⟨rfl, rfl⟩;exact ⟨_, rfl, Zj.refl _, rfl⟩
    ·refine Zb rfl fun a _ _ _ B A => ?_;have e24 : a (.tmp 24) = _ := Zc A 2 rfl;have e27 : a (.tmp 27) = _ := Zc A 5 rfl;refine Zi ?_ rfl;clear A B;go_simp;all_goals go_arith
    ·exact Zb rfl fun a _ _ _ _ A => Yk rfl (Zc A 6 rfl)
   ·intro vs w' hg ht;obtain ⟨(r22 : vs 0 = _), (r23 : vs 1 = _), (r24 : vs 2 = _), (r25 : vs 3 = _), (r26 : vs 4 = _), (r27 : vs 5 = _), (r28 : vs 6 = _), (r21 : vs 7 = _), -⟩ := ht;simp only [Z8, Act.put, List.setIfInBounds_toArray, List.set_cons_zero, List.set_cons_succ, r22, r23, r24, r25, r26, r27, r28, r21];clear r22 r23 r24 r25 r26 r27 r28 r21;have g2 : Zj w w' := g.trans hg;clear hg g hc0 hc3;by_cases hlt : Xb k < (l.length : Int)
    ·have HF : Hid (Z6 ⟨k, y, n, l⟩ = 4) := by show Z6 _ = 4; rw [HW.out, if_pos hlt]
     rw [decide_eq_true hlt];clear hlt;go_wp2;go_ret;exact ⟨Xd HF.out.symm, g2⟩
    ·have HF : Hid (Z6 ⟨k, y, n, l⟩ = 0) := by show Z6 _ = 0; rw [HW.out, if_neg hlt]
     rw [decide_eq_false hlt];clear hlt;go_wp2;go_ret;exact ⟨Xd HF.out.symm, g2⟩
  ·have d1 : (k != 1) = true := by simp [h]
   have d2 : (k != 2) = true := by simp [h]
   have d3 : (k != 3) = false := by simp [h]
   clear h;go_enter Tryz.func74, Tryz.ntmps74;go_wp2_with fail;refine (Js k y n l _ _).mono ?_;rw [HR.out];rintro e w1 ⟨rfl, g1⟩;have g : Zj w w1 := (Zd _ _).trans g1;have hc0 : w1.cell? ⟨w.heap.size, 0, none⟩ = some (.int .i64 k) := (Below.cell g1 (p := ⟨w.heap.size, 0, none⟩) (by simp)).trans (by simp);have hc3 : w1.cell? ⟨w.heap.size, 3, none⟩ = some (.slice ao l.length cap) := (Below.cell g1 (p := ⟨w.heap.size, 3, none⟩) (by simp)).trans (by simp);clear g1;go_wp2_with fail;refine Zz [ex (.pointer (some ⟨w.heap.size, 3, none⟩)), ex (.slice ao l.length cap), ex (.int .i64 l.length), ex (.pointer (some ⟨w.heap.size, 0, none⟩)), ex (.int .i64 k), ex (.int .i64 (Xb k)), ex (.bool (decide (Xb k < (l.length : Int)))), ex (.bool (decide (Xb k < (l.length : Int))))] (by kernel_rfl) (by kernel_rfl) ⟨Zg _, Zg _, Zg _, Zg _, Zg _, Zg _, Zg _, Zg _, trivial⟩ ?_ ?_
   ·refine ⟨?_, ?_, ?_, ?_, ?_, ?_, ?_, ?_, trivial⟩
    ·refine Zb rfl fun a _ _ _ B A => ?_;have e1 : a (.tmp 1) = .pointer (some ⟨w.heap.size, 0, none⟩) := Zp A 1 rfl;refine Zi ?_ rfl;clear A B;go_simp;all_goals go_arith
    ·refine Zb rfl fun a _ _ _ B A => ?_;have e22 : a (.tmp 22) = _ := Zc A 0 rfl;have h1 := (Below.cell B (Zr hc3)).trans hc3;refine Zi ?_ rfl;clear A B;go_simp;all_goals go_arith
    ·refine Zb rfl fun a _ _ _ B A => ?_;have e23 : a (.tmp 23) = _ := Zc A 1 rfl;refine Zi ?_ rfl;clear A B;go_simp;all_goals go_arith
    ·refine Zb rfl fun a _ _ _ B A => ?_;have e1 : a (.tmp 1) = .pointer (some ⟨w.heap.size, 0, none⟩) := Zp A 1 rfl;refine Zi ?_ rfl;clear A B;go_simp;all_goals go_arith
    ·refine Zb rfl fun a _ _ _ B A => ?_;have e25 : a (.tmp 25) = _ := Zc A 3 rfl;have h1 := (Below.cell B (Zr hc0)).trans hc0;refine Zi ?_ rfl;clear A B;go_simp;all_goals go_arith
    ·refine Zb rfl fun a B _ _ C A => ?_;have e26 : a (.tmp 26) = _ := Zc A 4 rfl;refine Yj (f := 119) (args := #[.int .i64 k]) ?_ ((Zbc k B).mono ?_)
     ·clear A C;go_simp;all_goals go_arith
     ·rintro e w2 ⟨rfl, rfl⟩;exact ⟨_, rfl, Zj.refl _, rfl⟩
    ·refine Zb rfl fun a _ _ _ B A => ?_;have e24 : a (.tmp 24) = _ := Zc A 2 rfl;have e27 : a (.tmp 27) = _ := Zc A 5 rfl;refine Zi ?_ rfl;clear A B;go_simp;all_goals go_arith
    ·exact Zb rfl fun a _ _ _ _ A => Yk rfl (Zc A 6 rfl)
   ·intro vs w' hg ht;obtain ⟨(r22 : vs 0 = _), (r23 : vs 1 = _), (r24 : vs 2 = _), (r25 : vs 3 = _), (r26 : vs 4 = _), (r27 : vs 5 = _), (r28 : vs 6 = _), (r21 : vs 7 = _), -⟩ := ht;simp only [Z8, Act.put, List.setIfInBounds_toArray, List.set_cons_zero, List.set_cons_succ, r22, r23, r24, r25, r26, r27, r28, r21];clear r22 r23 r24 r25 r26 r27 r28 r21;have g2 : Zj w w' := g.trans hg;clear hg g hc0 hc3;by_cases hlt : Xb k < (l.length : Int)
    ·have HF : Hid (Z6 ⟨k, y, n, l⟩ = 4) := by show Z6 _ = 4; rw [HW.out, if_pos hlt]
     rw [decide_eq_true hlt];clear hlt;go_wp2;go_ret;exact ⟨Xd HF.out.symm, g2⟩
    ·have HF : Hid (Z6 ⟨k, y, n, l⟩ = 0) := by show Z6 _ = 0; rw [HW.out, if_neg hlt]
     rw [decide_eq_false hlt];clear hlt;go_wp2;go_ret;exact ⟨Xd HF.out.symm, g2⟩
theorem Zbn (k y n : Int) (l : List UInt8) (v : Value) (w : World) (hv : Bytes w v l) :
  Calls Tryz.prog 74 #[.agg #[.int .i64 k, .int .i64 y, .int .i64 n, v]] w fun e w' => e = .returned (.int .i64 (Z6 ⟨k, y, n, l⟩)) ∧ Zj w w' := by
 by_cases hk : 1 ≤ k ∧ k ≤ 3
 ·exact Ztr k y n l v w hk hv
 ·exact Znb k y n l v w (by omega)
theorem Zqm (k y n : Int) (l : List UInt8) (h : k < 1 ∨ 3 < k) : Z6 ⟨k, y, n, l⟩ = 1 := by unfold Z6; rw [if_pos (by exact h)]
theorem Zkk (k y n : Int) (l : List UInt8) (h : ¬ (k < 1 ∨ 3 < k)) (hr : Xa ⟨k, y, n, l⟩ = false) : Z6 ⟨k, y, n, l⟩ = 3 := by unfold Z6; rw [if_neg (by exact h), if_pos hr]
theorem Zna (k y n : Int) (l : List UInt8) (h : ¬ (k < 1 ∨ 3 < k)) (hr : Xa ⟨k, y, n, l⟩ = true) (hm : Xb k < (l.length : Int)) : Z6 ⟨k, y, n, l⟩ = 4 := by
 unfold Z6; rw [if_neg (by exact h), if_neg (by rw [hr]; simp), if_pos (by exact hm)]
theorem Zn6 (k y n : Int) (l : List UInt8) (h : k ≠ 1) : Xa ⟨k, y, n, l⟩ = decide (1 ≤ y ∧ y ≤ 255 ∧ 1 ≤ n ∧ n ≤ 60000) := by unfold Xa; rw [if_neg (by exact h)]
variable {W w : World} {base n size : Nat} {e : TypeId} {v : Value} {xs : List Value}
theorem Zqg {w1 : World} (hb : Zj W w1) : (∀ b o, b < W.heap.size → w1.cell? ⟨b, o, none⟩ = W.cell? ⟨b, o, none⟩) ∧ (∀ b o, b < W.heap.size → w1.frozen? ⟨b, o, none⟩ = W.frozen? ⟨b, o, none⟩) :=
 ⟨fun b o h => Below.cell hb (p := ⟨b, o, none⟩) h, fun b o h => Below.frozen hb (p := ⟨b, o, none⟩) h⟩
theorem Zu (W : World) (a : Addr) (x : Value) : (W.setCell a x).cell? a = (W.cell? a).map fun _ => x := by
 cases h : W.cell? a with
 | some u => exact World.cell?_setCell_same W a x h
 | none =>
  unfold World.cell? at h ⊢;simp only [World.setCell, Array.getElem?_modify, ↓reduceIte];cases hb : W.heap[a.block]? with
  | none => simp
  | some o =>
   cases o with
   | cells c e f =>
    simp only [hb] at h;simp only [Option.map_some];split at h
    ·simp_all
    ·simp_all
   | _ => simp_all
theorem Xh {a b c d : Prop} (h : a ∨ b) (f : a → c) (g : b → d) : c ∨ d := by
 rcases h with h | h
 ·exact .inl (f h)
 ·exact .inr (g h)
theorem Yh {base' : Nat} (h : w.ownsRow base e size v n xs) (hb : base' ≤ base) : w.ownsRow base' e size v n xs :=
 ⟨h.1, Xh h.2 (fun x => x) fun ⟨g, cap, cur, h1, h2, r⟩ => ⟨g, cap, cur, h1, Nat.le_trans hb h2, r⟩⟩
theorem Xq (h : w.ownsRow base e size v n xs) {a : Addr} (ha : a.block < base) (u : Value) : (w.setCell a u).ownsRow base e size v n xs :=
 ownsRow_setCell_below h ha u
theorem Ya (h : Zj w W) {a : Addr} (ha : w.heap.size ≤ a.block) (u : Value) : Zj w (W.setCell a u) := Below.setCell h ha u
theorem Ye (h : w.ownsRow base e 1 v n xs) : ∃ ao cap, v = .slice ao n cap := by
 rcases h.2 with ⟨h1, h0⟩ | ⟨g, cap, cur, rfl, hb, _⟩
 ·subst h0; exact ⟨none, 0, h1⟩
 ·exact ⟨_, cap, rfl⟩
theorem Zs1 (w : World) :
  Calls Tryz.prog 35 #[.slice none 0 0] w fun e w' => ∃ v', e = .returned v' ∧ w'.ownsRow w.heap.size 5 1 v' 0 [] ∧ Zj w w' := by
 have q := fun (w : World) (a : Option Addr) (n c n' c' : Nat) => Lib.run_eql_slice_nil (P := Tryz.prog) w 38 5 a n c n' c' Tryz.underlying38
 go_enter Tryz.func35, Tryz.ntmps35;go_wp2;go_ret;exact ⟨_, rfl, World.ownsRow_nil _ _ _ _, Zj.refl _⟩
theorem Zo7 (l : List UInt8) (ad : Addr) (cap : Nat) (w : World) (hm : l.length ≤ 140737488355328)
  (hcells : ∀ (j : Nat) u, (l.map bv)[j]? = some u → w.cell? (ad.add j) = some u) :
  Calls Tryz.prog 35 #[.slice (some ad) l.length cap] w fun e w' => ∃ v', e = .returned v' ∧ w'.ownsRow w.heap.size 5 1 v' l.length (l.map bv) ∧ Zj w w' := by
 obtain ⟨i0, hif, hz0, hz1, hz2⟩ := info_parts Zab;have ho := Zrn w;have hc1 : ∀ (j : Nat) u, (l.map bv)[j]? = some u → (w.alloc (.cells #[] 5)).cell? (ad.add j) = some u := by
  intro j u hj;have h2 := hcells j u hj;rw [← h2];exact Below.cell (Zd w _) (Zr h2)
 clear hcells;have q := fun (w : World) (a : Option Addr) (n c n' c' : Nat) => Lib.run_eql_slice_nil (P := Tryz.prog) w 38 5 a n c n' c' Tryz.underlying38
 go_enter Tryz.func35, Tryz.ntmps35;go_wp2_with (at_builtin; refine wpList_append_own _ rfl (.tmp 5) (.tmp 6) 38 rfl w.heap.size 5 i0 (.int .u8 0) 1 1 Tryz.underlying38 hif hz0 hz1 hz2 rfl (by decide) (.slice (some ⟨w.heap.size, 0, none⟩) 0 0) 0 [] rfl ho ad l.length cap (l.map bv) rfl (by simp) hc1 (Zcy l) (by unfold maxLen; omega) (by omega) (by simp) ?_; intro v2 w2 hown2 hgrow2 _; simp only [Nat.zero_add, List.nil_append] at hown2);have g2 : Zj w w2 := Yl (Zd w _) hgrow2 (fun k e => by simp [Value.ownBlock] at e; omega);go_ret;exact ⟨_, rfl, hown2, g2⟩
theorem Vl (l : List UInt8) (v : Value) (w : World) (hm : l.length ≤ 140737488355328) (h : Bytes w v l) :
  Calls Tryz.prog 35 #[v] w fun e w' => ∃ v', e = .returned v' ∧ w'.ownsRow w.heap.size 5 1 v' l.length (l.map bv) ∧ Zj w w' := by
 obtain ⟨ao, cap, rfl, hnone, hcells⟩ := Yt h;cases ao with
 | some ad => exact Zo7 l ad cap w hm (hcells ad rfl)
 | none =>
  obtain ⟨h1, rfl⟩ := hnone rfl;obtain rfl := List.eq_nil_of_length_eq_zero h1;exact Zs1 w
theorem Zdf (k y n : Int) (l : List UInt8) (v : Value) (w : World) (hm : l.length ≤ 140737488355328) (h : Bytes w v l) :
  Calls Tryz.prog 17 #[.agg #[.int .i64 k, .int .i64 y, .int .i64 n, v]] w fun e w' => ∃ v', e = .returned (.agg #[.int .i64 k, .int .i64 y, .int .i64 n, v']) ∧ w'.ownsRow w.heap.size 5 1 v' l.length (l.map bv) ∧ Zj w w' := by
 obtain ⟨ao, cap, rfl, -, -⟩ := Yt h;go_enter Tryz.func17, Tryz.ntmps17;go_wp2_with fail;refine (Vl l _ _ hm (by exact Z2 h (Zx _ _ _))).mono ?_;rintro e w1 ⟨v', rfl, ho, g1⟩;obtain ⟨ao', cap', rfl⟩ := Ye ho;obtain ⟨hc, hf⟩ := Zqg g1;have cs := Zu;clear h;go_wp2_with fail;refine bodyPost_ret (v := .agg #[.int .i64 k, .int .i64 y, .int .i64 n, .slice ao' l.length cap']) (by simp [results, Tryz.results17, go_sem, hc, cs]) rfl ⟨_, rfl, Yh (base := w.heap.size + 2) ?_ (by omega), ?_⟩
 ·replace ho : w1.ownsRow (w.heap.size + 2) 5 1 (.slice ao' l.length cap') l.length (l.map bv) := by simpa using ho
  exact Xq (Xq (Xq (Xq (Xq ho (by simp) _) (by simp) _) (by simp) _) (by simp) _) (by simp) _
 ·exact Ya (Ya (Ya (Ya (Ya ((Zx _ _ _).trans g1) (by simp) _) (by simp) _) (by simp) _) (by simp) _) (by simp) _
end Go.Proofs.YtpdnapbchcdhladGreatDoor
