import Derived.Test.YtikhknkpndhakabGreatRDo
set_option maxHeartbeats 8000000
namespace Go.Proofs.YtikhknkpndhakabGreat
set_option maxRecDepth 100000
open Go.RowKit
open Plain Reg
def Zub (l : List Rec) (r : Rec) : Bool := l.any fun x => Qv x r
def Zt7 : Prop := ∀ (d : Dd) (a : Option Addr) (c : Nat) (w : World), d.data.length ≤ 140737488355328 → Bytes w (.slice a d.data.length c) d.data →
 Calls Tryz.prog 63 #[.agg #[.int .i64 d.kind, .int .i64 d.key, .int .i64 d.num, .slice a d.data.length c]] w fun r w' => r = .returned (.int .i64 (Yp d)) ∧ Zo w w'
def Zvd : Prop := ∀ (S : Nat → Prop) (l : List Rec) (v : Value) (w : World), Jw l = true → Xv S w v l →
 Calls Tryz.prog 105 #[v] w fun r w' => r = .returned (.int .i64 (Qk l)) ∧ Zo w w'
def Zv8 : Prop := ∀ (S : Nat → Prop) (l : List Rec) (d : Dd) (v : Value) (a : Option Addr) (c : Nat) (w : World), (∀ b, S b → b < w.heap.size) → Jw l = true → Yp d = 0 → Xv S w v l → Z1 S w (.slice a d.data.length c) d.data →
 Calls Tryz.prog 36 #[v, .agg #[.int .i64 d.kind, .int .i64 d.key, .int .i64 d.num, .slice a d.data.length c]] w fun r w' => ∃ v', r = .returned (.tuple #[v', .int .i64 (doR l d).n, .int .i64 (doR l d).e]) ∧ Xv (Zw S w.heap.size) w' v' (doR l d).l ∧ Zo w w'
def Zvy : Prop := ∀ (S : Nat → Prop) (l : List Rec) (key : Int) (v : Value) (w : World), (∀ b, S b → b < w.heap.size) → Jw l = true → Xv S w v l →
 Calls Tryz.prog 50 #[v, .int .i64 key] w fun r w' => ∃ u, r = .returned (.tuple #[u, .int .i64 (Vd l key).e]) ∧ Z1 (Zw S w.heap.size) w' u (Vd l key).data ∧ Zo w w'
theorem Zex (l : List Rec) : Jw l = true ↔ (∀ r ∈ l, Yh r = 0 ∧ r.kind ≠ 1) ∧ l.length ≤ 40 := by
 unfold Jw Zt9;simp only [Bool.and_eq_true, List.all_eq_true, decide_eq_true_eq]
theorem J0 {d : Dd} (h : Yp d = 0) : 1 ≤ d.kind ∧ d.kind ≤ 3 ∧ 1 ≤ d.key ∧ d.key ≤ 255 ∧ d.data.length ≤ 8 ∧ (d.kind = 1 ∨ d.data.length = 0) := by
 unfold Yp at h;by_cases h1 : d.kind < 1 ∨ 3 < d.kind
 ·rw [if_pos h1] at h; omega
 ·rw [if_neg h1] at h;generalize (if d.kind = 3 then (1 : Int) else 0) = lo at h;generalize (if d.kind = 3 then (60000 : Int) else 0) = hi at h;by_cases h2 : d.key < 1 ∨ 255 < d.key ∨ d.num < lo ∨ hi < d.num
  ·rw [if_pos h2] at h; omega
  ·rw [if_neg h2] at h;by_cases h3 : 8 < d.data.length ∨ d.kind ≠ 1 ∧ d.data.length ≠ 0
   ·rw [if_pos h3] at h; omega
   ·omega
theorem Zjb (w : World) (v : Value) (l : List UInt8) (h : Bytes w v l) : (convert 23 9 v).run Tryz.prog w = .ok (.string ⟨l.toArray⟩) w := V2 w v l h
theorem Zha : ∀ (l : List Rec) (n : Int), n ≤ l.foldl (fun n r => if n ≤ r.ver then r.ver + 1 else n) n ∧ ∀ r ∈ l, r.ver < l.foldl (fun n r => if n ≤ r.ver then r.ver + 1 else n) n
 | [], n => ⟨Int.le_refl _, fun r h => by cases h⟩
 | x :: l, n => by
  rw [List.foldl_cons];obtain ⟨h1, h2⟩ := Zha l (if n ≤ x.ver then x.ver + 1 else n);have h3 : n ≤ (if n ≤ x.ver then x.ver + 1 else n) ∧ x.ver < (if n ≤ x.ver then x.ver + 1 else n) := by split <;> omega
  refine ⟨by omega, fun r hr => ?_⟩;rcases List.mem_cons.1 hr with rfl | hr
  ·omega
  ·exact h2 r hr
theorem Zne {l : List Rec} : 1 ≤ Qk l ∧ ∀ r ∈ l, r.ver < Qk l := Zha l 1
theorem Zfd {d : Dd} {n : Int} (hw : Yp d = 0) (hk : d.kind ≠ 3) (h0 : 1 ≤ n) (h1 : n ≤ 60000) : Yh (X8 d n) = 0 ∧ (X8 d n).kind ≠ 1 := by
 obtain ⟨a1, a2, a3, a4, a5, a6⟩ := J0 hw;have hkk : d.kind = 1 ∨ d.kind = 2 := by omega
 refine ⟨?_, show 1 + d.kind ≠ 1 by omega⟩;obtain ⟨dk, dy, dn, dd⟩ := d;simp only at hkk a3 a4 a5 a6;rcases hkk with rfl | rfl
 ·show Yh ⟨2, dy, n, dd⟩ = 0;have h2 : Xd ⟨2, dy, n, dd⟩ = true := by simp [Xd]; omega
  unfold Yh;rw [if_neg (by simp), h2, if_neg (by simp), if_neg (by simp [Yw]; omega)]
 ·have h6 : dd = [] := List.eq_nil_of_length_eq_zero (by omega);show Yh ⟨3, dy, n, dd⟩ = 0;have h2 : Xd ⟨3, dy, n, dd⟩ = true := by simp [Xd]; omega
  unfold Yh;rw [if_neg (by simp), h2, if_neg (by simp), if_neg (by simp [Yw, h6])]
def Kj (d : Dd) : Bool := if d.kind = 3 then decide (1 ≤ d.key ∧ d.key ≤ 255 ∧ 1 ≤ d.num ∧ d.num ≤ 60000) else decide (1 ≤ d.key ∧ d.key ≤ 255 ∧ d.num = 0)
def Ka (k : Int) : Int := if k = 1 then 8 else 0
theorem Zci (d : Dd) : Yp d = if d.kind < 1 ∨ 3 < d.kind then 1 else if Kj d = false then 3 else if Ka d.kind < (d.data.length : Int) then 4 else 0 := by
 unfold Yp Kj Ka;by_cases hk : d.kind < 1 ∨ 3 < d.kind
 ·rw [if_pos hk, if_pos hk]
 ·rw [if_neg hk, if_neg hk];by_cases h3 : d.kind = 3
  ·rw [if_pos h3, if_pos h3, if_pos h3, if_neg (show ¬ d.kind = 1 by omega)];by_cases hr : 1 ≤ d.key ∧ d.key ≤ 255 ∧ 1 ≤ d.num ∧ d.num ≤ 60000
   ·rw [if_neg (show ¬ (d.key < 1 ∨ 255 < d.key ∨ d.num < 1 ∨ 60000 < d.num) by omega), decide_eq_true hr, if_neg (show ¬ true = false by simp)];by_cases h0 : d.data.length = 0
    ·rw [if_neg (by omega), if_neg (by omega)]
    ·rw [if_pos (by omega), if_pos (by omega)]
   ·rw [if_pos (show d.key < 1 ∨ 255 < d.key ∨ d.num < 1 ∨ 60000 < d.num by omega), decide_eq_false hr, if_pos rfl]
  ·rw [if_neg h3, if_neg h3, if_neg h3];by_cases hr : 1 ≤ d.key ∧ d.key ≤ 255 ∧ d.num = 0
   ·rw [if_neg (show ¬ (d.key < 1 ∨ 255 < d.key ∨ d.num < 0 ∨ 0 < d.num) by omega), decide_eq_true hr, if_neg (show ¬ true = false by simp)];by_cases h1 : d.kind = 1
    ·rw [if_pos h1];by_cases h8 : 8 < d.data.length
     ·rw [if_pos (by omega), if_pos (by omega)]
     ·rw [if_neg (by omega), if_neg (by omega)]
    ·rw [if_neg h1];by_cases h0 : d.data.length = 0
     ·rw [if_neg (by omega), if_neg (by omega)]
     ·rw [if_pos (by omega), if_pos (by omega)]
   ·rw [if_pos (show d.key < 1 ∨ 255 < d.key ∨ d.num < 0 ∨ 0 < d.num by omega), decide_eq_false hr, if_pos rfl]
theorem Kv (k y n : Int) (l : List UInt8) (v : Value) (w : World) :
  Calls Tryz.prog 100 #[.agg #[.int .i64 k, .int .i64 y, .int .i64 n, v]] w fun e w' => e = .returned (.bool (Kj ⟨k, y, n, l⟩)) ∧ Zo w w' := by
 go_enter Tryz.func100, Tryz.ntmps100;go_wp2;all_goals go_ret
 all_goals refine ⟨?_, Ze _ _⟩
 all_goals simp_all [Kj]
 all_goals first | omega | (split <;> omega) | (rw [Bool.eq_iff_iff]; simp; done) | (rw [Bool.eq_iff_iff]; simp; omega)
theorem Zam (k : Int) (w : World) :
  Calls Tryz.prog 101 #[.int .i64 k] w fun e w' => e = .returned (.int .i64 (Ka k)) ∧ w = w' := by
 go_enter Tryz.func101, Tryz.ntmps101;go_wp2;all_goals go_ret
 all_goals simp_all [Ka]
theorem Zju (k y n : Int) (l : List UInt8) (v : Value) (w : World) (hk : k < 1 ∨ 3 < k) :
  Calls Tryz.prog 63 #[.agg #[.int .i64 k, .int .i64 y, .int .i64 n, v]] w fun e w' => e = .returned (.int .i64 (Yp ⟨k, y, n, l⟩)) ∧ Zo w w' := by
 have HW : Hid (Yp ⟨k, y, n, l⟩ = 1) := by show Yp _ = 1; rw [Zci, if_pos (by exact hk)]
 have d1 : (k != 1) = true := by simp; omega
 have d2 : (k != 2) = true := by simp; omega
 have d3 : (k != 3) = true := by simp; omega
 go_enter Tryz.func63, Tryz.ntmps63;go_wp2_with fail;go_ret;exact ⟨Y9 HW.out.symm, Ze _ _⟩
theorem Zox (k y n : Int) (l : List UInt8) (v : Value) (w : World) (hk : 1 ≤ k ∧ k ≤ 3) (hv : Bytes w v l) :
  Calls Tryz.prog 63 #[.agg #[.int .i64 k, .int .i64 y, .int .i64 n, v]] w fun e w' => e = .returned (.int .i64 (Yp ⟨k, y, n, l⟩)) ∧ Zo w w' := by
 obtain ⟨ao, cap, rfl, -, -⟩ := Yg hv;clear hv;have HK : Hid (k = 1 ∨ k = 2 ∨ k = 3) := by show _ ∨ _; omega
 have hw : Yp ⟨k, y, n, l⟩ = if Kj ⟨k, y, n, l⟩ = false then 3 else if Ka k < (l.length : Int) then 4 else 0 := by
  rw [Zci, if_neg (by simp; omega)]
 clear hk;cases hr : Kj ⟨k, y, n, l⟩ with
 | false =>
  have HF : Hid (Yp ⟨k, y, n, l⟩ = 3) := by show Yp _ = 3; rw [hw, hr]; rfl
  have HR : Hid (Kj ⟨k, y, n, l⟩ = false) := hr;clear hw hr;rcases HK.out with h | h | h
  all_goals
   first
    | (have d1 : (k != 1) = false := by simp [h])
    | (have d1 : (k != 1) = true := by simp [h]); (have d2 : (k != 2) = false := by simp [h])
    | (have d1 : (k != 1) = true := by simp [h]); (have d2 : (k != 2) = true := by simp [h]); (have d3 : (k != 3) = false := by simp [h])
   clear h;go_enter Tryz.func63, Tryz.ntmps63;go_wp2_with fail;refine (Kv k y n l _ _).mono ?_;rw [HR.out];rintro e w1 ⟨rfl, g1⟩;go_wp2_with fail;go_ret;exact ⟨Y9 HF.out.symm, (Ze _ _).trans g1⟩
 | true =>
  have HW : Hid (Yp ⟨k, y, n, l⟩ = if Ka k < (l.length : Int) then 4 else 0) := by show Yp _ = _; rw [hw, hr]; rfl
  have HR : Hid (Kj ⟨k, y, n, l⟩ = true) := hr;clear hw hr;rcases HK.out with h | h | h
  ·have d1 : (k != 1) = false := by simp [h]
   clear h;go_enter Tryz.func63, Tryz.ntmps63;go_wp2_with fail;refine (Kv k y n l _ _).mono ?_;rw [HR.out];rintro e w1 ⟨rfl, g1⟩;have g : Zo w w1 := (Ze _ _).trans g1;have hc0 : w1.cell? ⟨w.heap.size, 0, none⟩ = some (.int .i64 k) := (Below.cell g1 (p := ⟨w.heap.size, 0, none⟩) (by simp)).trans (by simp);have hc3 : w1.cell? ⟨w.heap.size, 3, none⟩ = some (.slice ao l.length cap) := (Below.cell g1 (p := ⟨w.heap.size, 3, none⟩) (by simp)).trans (by simp);clear g1;go_wp2_with fail;refine Z0 [ex (.pointer (some ⟨w.heap.size, 3, none⟩)), ex (.slice ao l.length cap), ex (.int .i64 l.length), ex (.pointer (some ⟨w.heap.size, 0, none⟩)), ex (.int .i64 k), ex (.int .i64 (Ka k)), ex (.bool (decide (Ka k < (l.length : Int)))), ex (.bool (decide (Ka k < (l.length : Int))))] (by kernel_rfl) (by kernel_rfl) ⟨Zd _, Zd _, Zd _, Zd _, Zd _, Zd _, Zd _, Zd _, trivial⟩ ?_ ?_
   ·refine ⟨?_, ?_, ?_, ?_, ?_, ?_, ?_, ?_, trivial⟩
    ·refine Zc rfl fun a w' hg hin => ?_;have e1 : a.eval (.tmp 1) = .pointer (some ⟨w.heap.size, 0, none⟩) := Zu hin 1 (by kernel_rfl);refine Zh ?_ rfl;clear hin hg;obtain ⟨ek, ef⟩ := evs a;generalize a.eval = ev at *;go_simp;all_goals go_arith
    ·refine Zc rfl fun a w' hg hin => ?_;have e22 : a.eval (.tmp 22) = _ := Zb hin 0 (by kernel_rfl);have h1 := (Below.cell hg (Zs hc3)).trans hc3;refine Zh ?_ rfl;clear hin hg;obtain ⟨ek, ef⟩ := evs a;generalize a.eval = ev at *;go_simp;all_goals go_arith
    ·refine Zc rfl fun a w' hg hin => ?_;have e23 : a.eval (.tmp 23) = _ := Zb hin 1 (by kernel_rfl);refine Zh ?_ rfl;clear hin hg;obtain ⟨ek, ef⟩ := evs a;generalize a.eval = ev at *;go_simp;all_goals go_arith
    ·refine Zc rfl fun a w' hg hin => ?_;have e1 : a.eval (.tmp 1) = .pointer (some ⟨w.heap.size, 0, none⟩) := Zu hin 1 (by kernel_rfl);refine Zh ?_ rfl;clear hin hg;obtain ⟨ek, ef⟩ := evs a;generalize a.eval = ev at *;go_simp;all_goals go_arith
    ·refine Zc rfl fun a w' hg hin => ?_;have e25 : a.eval (.tmp 25) = _ := Zb hin 3 (by kernel_rfl);have h1 := (Below.cell hg (Zs hc0)).trans hc0;refine Zh ?_ rfl;clear hin hg;obtain ⟨ek, ef⟩ := evs a;generalize a.eval = ev at *;go_simp;all_goals go_arith
    ·refine Zc rfl fun a w' hg hin => ?_;have e26 : a.eval (.tmp 26) = _ := Zb hin 4 (by kernel_rfl);refine Yn (f := 101) (args := #[.int .i64 k]) ?_ ((Zam k w').mono ?_)
     ·clear hin hg;obtain ⟨ek, ef⟩ := evs a;generalize a.eval = ev at *;go_simp;all_goals go_arith
     ·rintro e w2 ⟨rfl, rfl⟩;exact ⟨_, rfl, Zo.refl _, rfl⟩
    ·refine Zc rfl fun a w' hg hin => ?_;have e24 : a.eval (.tmp 24) = _ := Zb hin 2 (by kernel_rfl);have e27 : a.eval (.tmp 27) = _ := Zb hin 5 (by kernel_rfl);refine Zh ?_ rfl;clear hin hg;obtain ⟨ek, ef⟩ := evs a;generalize a.eval = ev at *;go_simp;all_goals go_arith
    ·refine Zc rfl fun a w' hg hin => ?_;have e : a.eval (.tmp 28) = _ := Zb hin 6 (by kernel_rfl);exact Yo rfl e
   ·intro vs w' hg ht;obtain ⟨q22, q23, q24, q25, q26, q27, q28, q21, -⟩ := ht;have r22 : vs 0 = .pointer (some ⟨w.heap.size, 3, none⟩) := q22;have r23 : vs 1 = .slice ao l.length cap := q23;have r24 : vs 2 = .int .i64 l.length := q24;have r25 : vs 3 = .pointer (some ⟨w.heap.size, 0, none⟩) := q25;have r26 : vs 4 = .int .i64 k := q26;have r27 : vs 5 = .int .i64 (Ka k) := q27;have r28 : vs 6 = .bool (decide (Ka k < (l.length : Int))) := q28;have r21 : vs 7 = .bool (decide (Ka k < (l.length : Int))) := q21;clear q22 q23 q24 q25 q26 q27 q28 q21;simp only [Z9, Act.put, List.setIfInBounds_toArray, List.set_cons_zero, List.set_cons_succ, r22, r23, r24, r25, r26, r27, r28, r21];clear r22 r23 r24 r25 r26 r27 r28 r21;have g2 : Zo w w' := g.trans hg;clear hg g hc0 hc3;by_cases hlt : Ka k < (l.length : Int)
    ·have HF : Hid (Yp ⟨k, y, n, l⟩ = 4) := by show Yp _ = 4; rw [HW.out, if_pos hlt]
     rw [decide_eq_true hlt];clear hlt;go_wp2;go_ret;exact ⟨Y9 HF.out.symm, g2⟩
    ·have HF : Hid (Yp ⟨k, y, n, l⟩ = 0) := by show Yp _ = 0; rw [HW.out, if_neg hlt]
     rw [decide_eq_false hlt];clear hlt;go_wp2;go_ret;exact ⟨Y9 HF.out.symm, g2⟩
  ·have d1 : (k != 1) = true := by simp [h]
   have d2 : (k != 2) = false := by simp [h]
   clear h;go_enter Tryz.func63, Tryz.ntmps63;go_wp2_with fail;refine (Kv k y n l _ _).mono ?_;rw [HR.out];rintro e w1 ⟨rfl, g1⟩;have g : Zo w w1 := (Ze _ _).trans g1;have hc0 : w1.cell? ⟨w.heap.size, 0, none⟩ = some (.int .i64 k) := (Below.cell g1 (p := ⟨w.heap.size, 0, none⟩) (by simp)).trans (by simp);have hc3 : w1.cell? ⟨w.heap.size, 3, none⟩ = some (.slice ao l.length cap) := (Below.cell g1 (p := ⟨w.heap.size, 3, none⟩) (by simp)).trans (by simp);clear g1;go_wp2_with fail;refine Z0 [ex (.pointer (some ⟨w.heap.size, 3, none⟩)), ex (.slice ao l.length cap), ex (.int .i64 l.length), ex (.pointer (some ⟨w.heap.size, 0, none⟩)), ex (.int .i64 k), ex (.int .i64 (Ka k)), ex (.bool (decide (Ka k < (l.length : Int)))), ex (.bool (decide (Ka k < (l.length : Int))))] (by kernel_rfl) (by kernel_rfl) ⟨Zd _, Zd _, Zd _, Zd _, Zd _, Zd _, Zd _, Zd _, trivial⟩ ?_ ?_
   ·refine ⟨?_, ?_, ?_, ?_, ?_, ?_, ?_, ?_, trivial⟩
    ·refine Zc rfl fun a w' hg hin => ?_;have e1 : a.eval (.tmp 1) = .pointer (some ⟨w.heap.size, 0, none⟩) := Zu hin 1 (by kernel_rfl);refine Zh ?_ rfl;clear hin hg;obtain ⟨ek, ef⟩ := evs a;generalize a.eval = ev at *;go_simp;all_goals go_arith
    ·refine Zc rfl fun a w' hg hin => ?_;have e22 : a.eval (.tmp 22) = _ := Zb hin 0 (by kernel_rfl);have h1 := (Below.cell hg (Zs hc3)).trans hc3;refine Zh ?_ rfl;clear hin hg;obtain ⟨ek, ef⟩ := evs a;generalize a.eval = ev at *;go_simp;all_goals go_arith
    ·refine Zc rfl fun a w' hg hin => ?_;have e23 : a.eval (.tmp 23) = _ := Zb hin 1 (by kernel_rfl);refine Zh ?_ rfl;clear hin hg;obtain ⟨ek, ef⟩ := evs a;generalize a.eval = ev at *;go_simp;all_goals go_arith
    ·refine Zc rfl fun a w' hg hin => ?_;have e1 : a.eval (.tmp 1) = .pointer (some ⟨w.heap.size, 0, none⟩) := Zu hin 1 (by kernel_rfl);refine Zh ?_ rfl;clear hin hg;obtain ⟨ek, ef⟩ := evs a;generalize a.eval = ev at *;go_simp;all_goals go_arith
    ·refine Zc rfl fun a w' hg hin => ?_;have e25 : a.eval (.tmp 25) = _ := Zb hin 3 (by kernel_rfl);have h1 := (Below.cell hg (Zs hc0)).trans hc0;refine Zh ?_ rfl;clear hin hg;obtain ⟨ek, ef⟩ := evs a;generalize a.eval = ev at *;go_simp;all_goals go_arith
    ·refine Zc rfl fun a w' hg hin => ?_;have e26 : a.eval (.tmp 26) = _ := Zb hin 4 (by kernel_rfl);refine Yn (f := 101) (args := #[.int .i64 k]) ?_ ((Zam k w').mono ?_)
     ·clear hin hg;obtain ⟨ek, ef⟩ := evs a;generalize a.eval = ev at *;go_simp;all_goals go_arith
     ·rintro e w2 ⟨rfl, rfl⟩;exact ⟨_, rfl, Zo.refl _, rfl⟩
    ·refine Zc rfl fun a w' hg hin => ?_;have e24 : a.eval (.tmp 24) = _ := Zb hin 2 (by kernel_rfl);have e27 : a.eval (.tmp 27) = _ := Zb hin 5 (by kernel_rfl);refine Zh ?_ rfl;clear hin hg;obtain ⟨ek, ef⟩ := evs a;generalize a.eval = ev at *;go_simp;all_goals go_arith
    ·refine Zc rfl fun a w' hg hin => ?_;have e : a.eval (.tmp 28) = _ := Zb hin 6 (by kernel_rfl);exact Yo rfl e
   ·intro vs w' hg ht;obtain ⟨q22, q23, q24, q25, q26, q27, q28, q21, -⟩ := ht;have r22 : vs 0 = .pointer (some ⟨w.heap.size, 3, none⟩) := q22;have r23 : vs 1 = .slice ao l.length cap := q23;have r24 : vs 2 = .int .i64 l.length := q24;have r25 : vs 3 = .pointer (some ⟨w.heap.size, 0, none⟩) := q25;have r26 : vs 4 = .int .i64 k := q26;have r27 : vs 5 = .int .i64 (Ka k) := q27;have r28 : vs 6 = .bool (decide (Ka k < (l.length : Int))) := q28;have r21 : vs 7 = .bool (decide (Ka k < (l.length : Int))) := q21;clear q22 q23 q24 q25 q26 q27 q28 q21;simp only [Z9, Act.put, List.setIfInBounds_toArray, List.set_cons_zero, List.set_cons_succ, r22, r23, r24, r25, r26, r27, r28, r21];clear r22 r23 r24 r25 r26 r27 r28 r21;have g2 : Zo w w' := g.trans hg;clear hg g hc0 hc3;by_cases hlt : Ka k < (l.length : Int)
    ·have HF : Hid (Yp ⟨k, y, n, l⟩ = 4) := by show Yp _ = 4; rw [HW.out, if_pos hlt]
     rw [decide_eq_true hlt];clear hlt;go_wp2;go_ret;exact ⟨Y9 HF.out.symm, g2⟩
    ·have HF : Hid (Yp ⟨k, y, n, l⟩ = 0) := by show Yp _ = 0; rw [HW.out, if_neg hlt]
     rw [decide_eq_false hlt];clear hlt;go_wp2;go_ret;exact ⟨Y9 HF.out.symm, g2⟩
  ·have d1 : (k != 1) = true := by simp [h]
   have d2 : (k != 2) = true := by simp [h]
   have d3 : (k != 3) = false := by simp [h]
   clear h;go_enter Tryz.func63, Tryz.ntmps63;go_wp2_with fail;refine (Kv k y n l _ _).mono ?_;rw [HR.out];rintro e w1 ⟨rfl, g1⟩;have g : Zo w w1 := (Ze _ _).trans g1;have hc0 : w1.cell? ⟨w.heap.size, 0, none⟩ = some (.int .i64 k) := (Below.cell g1 (p := ⟨w.heap.size, 0, none⟩) (by simp)).trans (by simp);have hc3 : w1.cell? ⟨w.heap.size, 3, none⟩ = some (.slice ao l.length cap) := (Below.cell g1 (p := ⟨w.heap.size, 3, none⟩) (by simp)).trans (by simp);clear g1;go_wp2_with fail;refine Z0 [ex (.pointer (some ⟨w.heap.size, 3, none⟩)), ex (.slice ao l.length cap), ex (.int .i64 l.length), ex (.pointer (some ⟨w.heap.size, 0, none⟩)), ex (.int .i64 k), ex (.int .i64 (Ka k)), ex (.bool (decide (Ka k < (l.length : Int)))), ex (.bool (decide (Ka k < (l.length : Int))))] (by kernel_rfl) (by kernel_rfl) ⟨Zd _, Zd _, Zd _, Zd _, Zd _, Zd _, Zd _, Zd _, trivial⟩ ?_ ?_
   ·refine ⟨?_, ?_, ?_, ?_, ?_, ?_, ?_, ?_, trivial⟩
    ·refine Zc rfl fun a w' hg hin => ?_;have e1 : a.eval (.tmp 1) = .pointer (some ⟨w.heap.size, 0, none⟩) := Zu hin 1 (by kernel_rfl);refine Zh ?_ rfl;clear hin hg;obtain ⟨ek, ef⟩ := evs a;generalize a.eval = ev at *;go_simp;all_goals go_arith
    ·refine Zc rfl fun a w' hg hin => ?_;have e22 : a.eval (.tmp 22) = _ := Zb hin 0 (by kernel_rfl);have h1 := (Below.cell hg (Zs hc3)).trans hc3;refine Zh ?_ rfl;clear hin hg;obtain ⟨ek, ef⟩ := evs a;generalize a.eval = ev at *;go_simp;all_goals go_arith
    ·refine Zc rfl fun a w' hg hin => ?_;have e23 : a.eval (.tmp 23) = _ := Zb hin 1 (by kernel_rfl);refine Zh ?_ rfl;clear hin hg;obtain ⟨ek, ef⟩ := evs a;generalize a.eval = ev at *;go_simp;all_goals go_arith
    ·refine Zc rfl fun a w' hg hin => ?_;have e1 : a.eval (.tmp 1) = .pointer (some ⟨w.heap.size, 0, none⟩) := Zu hin 1 (by kernel_rfl);refine Zh ?_ rfl;clear hin hg;obtain ⟨ek, ef⟩ := evs a;generalize a.eval = ev at *;go_simp;all_goals go_arith
    ·refine Zc rfl fun a w' hg hin => ?_;have e25 : a.eval (.tmp 25) = _ := Zb hin 3 (by kernel_rfl);have h1 := (Below.cell hg (Zs hc0)).trans hc0;refine Zh ?_ rfl;clear hin hg;obtain ⟨ek, ef⟩ := evs a;generalize a.eval = ev at *;go_simp;all_goals go_arith
    ·refine Zc rfl fun a w' hg hin => ?_;have e26 : a.eval (.tmp 26) = _ := Zb hin 4 (by kernel_rfl);refine Yn (f := 101) (args := #[.int .i64 k]) ?_ ((Zam k w').mono ?_)
     ·clear hin hg;obtain ⟨ek, ef⟩ := evs a;generalize a.eval = ev at *;go_simp;all_goals go_arith
     ·rintro e w2 ⟨rfl, rfl⟩;exact ⟨_, rfl, Zo.refl _, rfl⟩
    ·refine Zc rfl fun a w' hg hin => ?_;have e24 : a.eval (.tmp 24) = _ := Zb hin 2 (by kernel_rfl);have e27 : a.eval (.tmp 27) = _ := Zb hin 5 (by kernel_rfl);refine Zh ?_ rfl;clear hin hg;obtain ⟨ek, ef⟩ := evs a;generalize a.eval = ev at *;go_simp;all_goals go_arith
    ·refine Zc rfl fun a w' hg hin => ?_;have e : a.eval (.tmp 28) = _ := Zb hin 6 (by kernel_rfl);exact Yo rfl e
   ·intro vs w' hg ht;obtain ⟨q22, q23, q24, q25, q26, q27, q28, q21, -⟩ := ht;have r22 : vs 0 = .pointer (some ⟨w.heap.size, 3, none⟩) := q22;have r23 : vs 1 = .slice ao l.length cap := q23;have r24 : vs 2 = .int .i64 l.length := q24;have r25 : vs 3 = .pointer (some ⟨w.heap.size, 0, none⟩) := q25;have r26 : vs 4 = .int .i64 k := q26;have r27 : vs 5 = .int .i64 (Ka k) := q27;have r28 : vs 6 = .bool (decide (Ka k < (l.length : Int))) := q28;have r21 : vs 7 = .bool (decide (Ka k < (l.length : Int))) := q21;clear q22 q23 q24 q25 q26 q27 q28 q21;simp only [Z9, Act.put, List.setIfInBounds_toArray, List.set_cons_zero, List.set_cons_succ, r22, r23, r24, r25, r26, r27, r28, r21];clear r22 r23 r24 r25 r26 r27 r28 r21;have g2 : Zo w w' := g.trans hg;clear hg g hc0 hc3;by_cases hlt : Ka k < (l.length : Int)
    ·have HF : Hid (Yp ⟨k, y, n, l⟩ = 4) := by show Yp _ = 4; rw [HW.out, if_pos hlt]
     rw [decide_eq_true hlt];clear hlt;go_wp2;go_ret;exact ⟨Y9 HF.out.symm, g2⟩
    ·have HF : Hid (Yp ⟨k, y, n, l⟩ = 0) := by show Yp _ = 0; rw [HW.out, if_neg hlt]
     rw [decide_eq_false hlt];clear hlt;go_wp2;go_ret;exact ⟨Y9 HF.out.symm, g2⟩
theorem Zng : Zt7 := by
 rintro ⟨k, y, n, l⟩ a c w _ hb;by_cases hk : 1 ≤ k ∧ k ≤ 3
 ·exact Zox k y n l _ w hk hb
 ·exact Zju k y n l _ w (by omega)
end Go.Proofs.YtikhknkpndhakabGreat
