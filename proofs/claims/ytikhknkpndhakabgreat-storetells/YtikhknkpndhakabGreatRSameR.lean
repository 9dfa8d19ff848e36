import Derived.Test.YtikhknkpndhakabGreatRDo
set_option maxHeartbeats 8000000
namespace Go.Proofs.YtikhknkpndhakabGreat
set_option maxRecDepth 100000
open Go.RowKit
open Plain Reg
def Zuo (l : List Rec) (r : Rec) : Bool := l.any fun x => Qw x r
def Zuj : Prop := ∀ (d : Dd) (a : Option Addr) (c : Nat) (w : World), d.data.length ≤ 140737488355328 → Bytes w (.slice a d.data.length c) d.data →
 Calls Tryz.prog 63 #[.agg #[.int .i64 d.kind, .int .i64 d.key, .int .i64 d.num, .slice a d.data.length c]] w fun r w' => r = .returned (.int .i64 (Yq d)) ∧ Zp w w'
def Zvq : Prop := ∀ (S : Nat → Prop) (l : List Rec) (v : Value) (w : World), Jx l = true → Xu S w v l →
 Calls Tryz.prog 105 #[v] w fun r w' => r = .returned (.int .i64 (Ql l)) ∧ Zp w w'
def Zwp : Prop := ∀ (S : Nat → Prop) (l : List Rec) (d : Dd) (v : Value) (a : Option Addr) (c : Nat) (w : World), (∀ b, S b → b < w.heap.size) → Jx l = true → Yq d = 0 → Xu S w v l → Z0 S w (.slice a d.data.length c) d.data →
 Calls Tryz.prog 36 #[v, .agg #[.int .i64 d.kind, .int .i64 d.key, .int .i64 d.num, .slice a d.data.length c]] w fun r w' => ∃ v', r = .returned (.tuple #[v', .int .i64 (doR l d).n, .int .i64 (doR l d).e]) ∧ Xu (Zx S w.heap.size) w' v' (doR l d).l ∧ Zp w w'
def Zwd : Prop := ∀ (S : Nat → Prop) (l : List Rec) (key : Int) (v : Value) (w : World), (∀ b, S b → b < w.heap.size) → Jx l = true → Xu S w v l →
 Calls Tryz.prog 50 #[v, .int .i64 key] w fun r w' => ∃ u, r = .returned (.tuple #[u, .int .i64 (Ve l key).e]) ∧ Z0 (Zx S w.heap.size) w' u (Ve l key).data ∧ Zp w w'
theorem Zex (l : List Rec) : Jx l = true ↔ (∀ r ∈ l, Yh r = 0 ∧ r.kind ≠ 1) ∧ l.length ≤ 40 := by
 unfold Jx Zum;simp only [Bool.and_eq_true, List.all_eq_true, decide_eq_true_eq]
theorem J1 {d : Dd} (h : Yq d = 0) : 1 ≤ d.kind ∧ d.kind ≤ 3 ∧ 1 ≤ d.key ∧ d.key ≤ 255 ∧ d.data.length ≤ 8 ∧ (d.kind = 1 ∨ d.data.length = 0) := by
 unfold Yq at h;by_cases h1 : d.kind < 1 ∨ 3 < d.kind
 ·rw [if_pos h1] at h; omega
 ·rw [if_neg h1] at h;generalize (if d.kind = 3 then (1 : Int) else 0) = lo at h;generalize (if d.kind = 3 then (60000 : Int) else 0) = hi at h;by_cases h2 : d.key < 1 ∨ 255 < d.key ∨ d.num < lo ∨ hi < d.num
  ·rw [if_pos h2] at h; omega
  ·rw [if_neg h2] at h;by_cases h3 : 8 < d.data.length ∨ d.kind ≠ 1 ∧ d.data.length ≠ 0
   ·rw [if_pos h3] at h; omega
   ·omega
theorem Zjd (w : World) (v : Value) (l : List UInt8) (h : Bytes w v l) : (convert 23 9 v).run Tryz.prog w = .ok (.string ⟨l.toArray⟩) w := V5 w v l h
theorem Zha : ∀ (l : List Rec) (n : Int), n ≤ l.foldl (fun n r => if n ≤ r.ver then r.ver + 1 else n) n ∧ ∀ r ∈ l, r.ver < l.foldl (fun n r => if n ≤ r.ver then r.ver + 1 else n) n
 | [], n => ⟨Int.le_refl _, fun r h => by cases h⟩
 | x :: l, n => by
  rw [List.foldl_cons];obtain ⟨h1, h2⟩ := Zha l (if n ≤ x.ver then x.ver + 1 else n);have h3 : n ≤ (if n ≤ x.ver then x.ver + 1 else n) ∧ x.ver < (if n ≤ x.ver then x.ver + 1 else n) := by split <;> omega
  refine ⟨by omega, fun r hr => ?_⟩;rcases List.mem_cons.1 hr with rfl | hr
  ·omega
  ·exact h2 r hr
theorem Znn {l : List Rec} : 1 ≤ Ql l ∧ ∀ r ∈ l, r.ver < Ql l := Zha l 1
theorem Zfd {d : Dd} {n : Int} (hw : Yq d = 0) (hk : d.kind ≠ 3) (h0 : 1 ≤ n) (h1 : n ≤ 60000) : Yh (X9 d n) = 0 ∧ (X9 d n).kind ≠ 1 := by
 obtain ⟨a1, a2, a3, a4, a5, a6⟩ := J1 hw;have hkk : d.kind = 1 ∨ d.kind = 2 := by omega
 refine ⟨?_, show 1 + d.kind ≠ 1 by omega⟩;obtain ⟨dk, dy, dn, dd⟩ := d;simp only at hkk a3 a4 a5 a6;rcases hkk with rfl | rfl
 ·show Yh ⟨2, dy, n, dd⟩ = 0;have h2 : Xe ⟨2, dy, n, dd⟩ = true := by simp [Xe]; omega
  unfold Yh;rw [if_neg (by simp), h2, if_neg (by simp), if_neg (by simp [Yx]; omega)]
 ·have h6 : dd = [] := List.eq_nil_of_length_eq_zero (by omega);show Yh ⟨3, dy, n, dd⟩ = 0;have h2 : Xe ⟨3, dy, n, dd⟩ = true := by simp [Xe]; omega
  unfold Yh;rw [if_neg (by simp), h2, if_neg (by simp), if_neg (by simp [Yx, h6])]
def Kl (d : Dd) : Bool := if d.kind = 3 then decide (1 ≤ d.key ∧ d.key ≤ 255 ∧ 1 ≤ d.num ∧ d.num ≤ 60000) else decide (1 ≤ d.key ∧ d.key ≤ 255 ∧ d.num = 0)
def Kc (k : Int) : Int := if k = 1 then 8 else 0
theorem Zci (d : Dd) : Yq d = if d.kind < 1 ∨ 3 < d.kind then 1 else if Kl d = false then 3 else if Kc d.kind < (d.data.length : Int) then 4 else 0 := by
 unfold Yq Kl Kc;by_cases hk : d.kind < 1 ∨ 3 < d.kind
 ·rw [if_pos hk, if_pos hk]
 ·rw [if_neg hk, if_neg hk];by_cases h3 : d.kind = 3
  ·rw [if_pos h3, if_pos h3, if_pos h3, if_neg (show ¬ d.kind = 1 by omega)];by_cases hr : 1 ≤ d.key ∧ d.key ≤ 255 ∧ 1 ≤ d.num ∧ d.num ≤ 60000
   ·rw [if_neg (show ¬ (d.key < 1 ∨ 255 < d.key ∨ d.num < 1 ∨ 60000 < d.num) by omega), decide_eq_true hr, if_neg (show ¬ true = false by simp)];by_cases h0 : d.data.length = 0
    ·rw [if_neg (by omega), if_neg (by omega)]
    ·rw [if_pos (by omega), if_pos (by omega)]
   ·rw [if_pos (show d.key < 1 ∨ 255 < d.key ∨ d.num < 1 ∨ 60000 < d.num by omega), decide_eq_false hr, if_pos rfl]
  ·rw [if_neg h3, if_neg h3, if_neg h3];by_cases hr : 1 ≤ d.key ∧ d.key ≤ 255 ∧ d.num = 0
   ·rw [if_neg (show ¬ (d.key < 1 ∨ 255 < d.key ∨ d.num < 0 ∨ 0 < d.num) by omega), decide_eq_true hr, if_neg (show ¬ true = false by simp)];by_cases h1 : d.kind = 1
    ·rw [if_pos h1];by_cases h8 : 8 < d.data.length
     ·rw [if_pos (by omega), if_pos (by omega)]
     ·rw [if_neg (by omega), if_neg (by omega)]
    ·rw [if_neg h1];by_cases h0 : d.data.length = 0
     ·rw [if_neg (by omega), if_neg (by omega)]
     ·rw [if_pos (by omega), if_pos (by omega)]
   ·rw [if_pos (show d.key < 1 ∨ 255 < d.key ∨ d.num < 0 ∨ 0 < d.num by omega), decide_eq_false hr, if_pos rfl]
theorem Kw (k y n : Int) (l : List UInt8) (v : Value) (w : World) :
  Calls Tryz.prog 100 #[.agg #[.int .i64 k, .int .i64 y, .int .i64 n, v]] w fun e w' => e = .returned (.bool (Kl ⟨k, y, n, l⟩)) ∧ Zp w w' := by
 go_enter Tryz.func100, Tryz.ntmps100;go_wp2;all_goals go_ret
 all_goals refine ⟨?_, Zd _ _⟩
 all_goals simp_all [Kl]
 all_goals first | omega | (split <;> omega) | (rw [Bool.eq_iff_iff]; simp; done) | (rw [Bool.eq_iff_iff]; simp; omega)
theorem Zan (k : Int) (w : World) :
  Calls Tryz.prog 101 #[.int .i64 k] w fun e w' => e = .returned (.int .i64 (Kc k)) ∧ w = w' := by
 go_enter Tryz.func101, Tryz.ntmps101;go_wp2;all_goals go_ret
 all_goals simp_all [Kc]
theorem Zj1 (k y n : Int) (l : List UInt8) (v : Value) (w : World) (hk : k < 1 ∨ 3 < k) :
  Calls Tryz.prog 63 #[.agg #[.int .i64 k, .int .i64 y, .int .i64 n, v]] w fun e w' => e = .returned (.int .i64 (Yq ⟨k, y, n, l⟩)) ∧ Zp w w' := by
 have HW : Hid (Yq ⟨k, y, n, l⟩ = 1) := by show Yq _ = 1; rw [Zci, if_pos (by exact hk)]
 have d1 : (k != 1) = true := by simp; omega
 have d2 : (k != 2) = true := by simp; omega
 have d3 : (k != 3) = true := by simp; omega
 go_enter Tryz.func63, Tryz.ntmps63;go_wp2_with fail;go_ret;exact ⟨Xb HW.out.symm, Zd _ _⟩
theorem Zo4 (k y n : Int) (l : List UInt8) (v : Value) (w : World) (hk : 1 ≤ k ∧ k ≤ 3) (hv : Bytes w v l) :
  Calls Tryz.prog 63 #[.agg #[.int .i64 k, .int .i64 y, .int .i64 n, v]] w fun e w' => e = .returned (.int .i64 (Yq ⟨k, y, n, l⟩)) ∧ Zp w w' := by
 obtain ⟨ao, cap, rfl, -, -⟩ := Yg hv;clear hv;have HK : Hid (k = 1 ∨ k = 2 ∨ k = 3) := by show _ ∨ _; omega
 have hw : Yq ⟨k, y, n, l⟩ = if Kl ⟨k, y, n, l⟩ = false then 3 else if Kc k < (l.length : Int) then 4 else 0 := by
  rw [Zci, if_neg (by simp; omega)]
 clear hk;cases hr : Kl ⟨k, y, n, l⟩ with
 | false =>
  have HF : Hid (Yq ⟨k, y, n, l⟩ = 3) := by show Yq _ = 3; rw [hw, hr]; rfl
  have HR : Hid (Kl ⟨k, y, n, l⟩ = false) := hr;clear hw hr;rcases HK.out with h | h | h
  all_goals
   first
    | (have d1 : (k != 1) = false := by simp [h])
    | (have d1 : (k != 1) = true := by simp [h]); (have d2 : (k != 2) = false := by simp [h])
    | (have d1 : (k != 1) = true := by simp [h]); (have d2 : (k != 2) = true := by simp [h]); (have d3 : (k != 3) = false := by simp [h])
   clear h;go_enter Tryz.func63, Tryz.ntmps63;go_wp2_with fail;refine (Kw k y n l _ _).mono ?_;rw [HR.out];rintro e w1 ⟨rfl, g1⟩;go_wp2_with fail;go_ret;exact ⟨Xb HF.out.symm, (Zd _ _).trans g1⟩
 | true =>
  have HW : Hid (Yq ⟨k, y, n, l⟩ = if Kc k < (l.length : Int) then 4 else 0) := by show Yq _ = _; rw [hw, hr]; rfl
  have HR : Hid (Kl ⟨k, y, n, l⟩ = true) := hr;clear hw hr;rcases HK.out with h | h | h
  ·have d1 : (k != 1) = false := by simp [h]
   clear h;go_enter Tryz.func63, Tryz.ntmps63;go_wp2_with fail;refine (Kw k y n l _ _).mono ?_;rw [HR.out];rintro e w1 ⟨rfl, g1⟩;have g : Zp w w1 := (Zd _ _).trans g1;have hc0 : w1.cell? ⟨w.heap.size, 0, none⟩ = some (.int .i64 k) := (Below.cell g1 (p := ⟨w.heap.size, 0, none⟩) (by simp)).trans (by simp);have hc3 : w1.cell? ⟨w.heap.size, 3, none⟩ = some (.slice ao l.length cap) := (Below.cell g1 (p := ⟨w.heap.size, 3, none⟩) (by simp)).trans (by simp);clear g1;go_wp2_with fail;refine Z1 [ex (.pointer (some ⟨w.heap.size, 3, none⟩)), ex (.slice ao l.length cap), ex (.int .i64 l.length), ex (.pointer (some ⟨w.heap.size, 0, none⟩)), ex (.int .i64 k), ex (.int .i64 (Kc k)), ex (.bool (decide (Kc k < (l.length : Int)))), ex (.bool (decide (Kc k < (l.length : Int))))] (by kernel_rfl) (by kernel_rfl) ⟨Zh _, Zh _, Zh _, Zh _, Zh _, Zh _, Zh _, Zh _, trivial⟩ ?_ ?_
   ·refine ⟨?_, ?_, ?_, ?_, ?_, ?_, ?_, ?_, trivial⟩
    ·refine Za rfl fun a w' ek ef hg hin => ?_;have e1 : a (.tmp 1) = .pointer (some ⟨w.heap.size, 0, none⟩) := Zs hin 1 rfl;refine Zi ?_ rfl;clear hin hg;go_simp;all_goals go_arith
    ·refine Za rfl fun a w' ek ef hg hin => ?_;have e22 : a (.tmp 22) = _ := Zc hin 0 rfl;have h1 := (Below.cell hg (Zt hc3)).trans hc3;refine Zi ?_ rfl;clear hin hg;go_simp;all_goals go_arith
    ·refine Za rfl fun a w' ek ef hg hin => ?_;have e23 : a (.tmp 23) = _ := Zc hin 1 rfl;refine Zi ?_ rfl;clear hin hg;go_simp;all_goals go_arith
    ·refine Za rfl fun a w' ek ef hg hin => ?_;have e1 : a (.tmp 1) = .pointer (some ⟨w.heap.size, 0, none⟩) := Zs hin 1 rfl;refine Zi ?_ rfl;clear hin hg;go_simp;all_goals go_arith
    ·refine Za rfl fun a w' ek ef hg hin => ?_;have e25 : a (.tmp 25) = _ := Zc hin 3 rfl;have h1 := (Below.cell hg (Zt hc0)).trans hc0;refine Zi ?_ rfl;clear hin hg;go_simp;all_goals go_arith
    ·refine Za rfl fun a w' ek ef hg hin => ?_;have e26 : a (.tmp 26) = _ := Zc hin 4 rfl;refine Yo (f := 101) (args := #[.int .i64 k]) ?_ ((Zan k w').mono ?_)
     ·clear hin hg;go_simp;all_goals go_arith
     ·rintro e w2 ⟨rfl, rfl⟩;exact ⟨_, rfl, Zp.refl _, rfl⟩
    ·refine Za rfl fun a w' ek ef hg hin => ?_;have e24 : a (.tmp 24) = _ := Zc hin 2 rfl;have e27 : a (.tmp 27) = _ := Zc hin 5 rfl;refine Zi ?_ rfl;clear hin hg;go_simp;all_goals go_arith
    ·refine Za rfl fun a w' ek ef hg hin => ?_;have e : a (.tmp 28) = _ := Zc hin 6 rfl;exact Yp rfl e
   ·intro vs w' hg ht;obtain ⟨q22, q23, q24, q25, q26, q27, q28, q21, -⟩ := ht;have r22 : vs 0 = .pointer (some ⟨w.heap.size, 3, none⟩) := q22;have r23 : vs 1 = .slice ao l.length cap := q23;have r24 : vs 2 = .int .i64 l.length := q24;have r25 : vs 3 = .pointer (some ⟨w.heap.size, 0, none⟩) := q25;have r26 : vs 4 = .int .i64 k := q26;have r27 : vs 5 = .int .i64 (Kc k) := q27;have r28 : vs 6 = .bool (decide (Kc k < (l.length : Int))) := q28;have r21 : vs 7 = .bool (decide (Kc k < (l.length : Int))) := q21;clear q22 q23 q24 q25 q26 q27 q28 q21;simp only [Z9, Act.put, List.setIfInBounds_toArray, List.set_cons_zero, List.set_cons_succ, r22, r23, r24, r25, r26, r27, r28, r21];clear r22 r23 r24 r25 r26 r27 r28 r21;have g2 : Zp w w' := g.trans hg;clear hg g hc0 hc3;by_cases hlt : Kc k < (l.length : Int)
    ·have HF : Hid (Yq ⟨k, y, n, l⟩ = 4) := by show Yq _ = 4; rw [HW.out, if_pos hlt]
     rw [decide_eq_true hlt];clear hlt;go_wp2;go_ret;exact ⟨Xb HF.out.symm, g2⟩
    ·have HF : Hid (Yq ⟨k, y, n, l⟩ = 0) := by show Yq _ = 0; rw [HW.out, if_neg hlt]
     rw [decide_eq_false hlt];clear hlt;go_wp2;go_ret;exact ⟨Xb HF.out.symm, g2⟩
  ·have d1 : (k != 1) = true := by simp [h]
   have d2 : (k != 2) = false := by simp [h]
   clear h;go_enter Tryz.func63, Tryz.ntmps63;go_wp2_with fail;refine (Kw k y n l _ _).mono ?_;rw [HR.out];rintro e w1 ⟨rfl, g1⟩;have g : Zp w w1 := (Zd _ _).trans g1;have hc0 : w1.cell? ⟨w.heap.size, 0, none⟩ = some (.int .i64 k) := (Below.cell g1 (p := ⟨w.heap.size, 0, none⟩) (by simp)).trans (by simp);have hc3 : w1.cell? ⟨w.heap.size, 3, none⟩ = some (.slice ao l.length cap) := (Below.cell g1 (p := ⟨w.heap.size, 3, none⟩) (by simp)).trans (by simp);clear g1;go_wp2_with fail;refine Z1 [ex (.pointer (some ⟨w.heap.size, 3, none⟩)), ex (.slice ao l.length cap), ex (.int .i64 l.length), ex (.pointer (some ⟨w.heap.size, 0, none⟩)), ex (.int .i64 k), ex (.int .i64 (Kc k)), ex (.bool (decide (Kc k < (l.length : Int)))), ex (.bool (decide (Kc k < (l.length : Int))))] (by kernel_rfl) (by kernel_rfl) ⟨Zh _, Zh _, Zh _, Zh _, Zh _, Zh _, Zh _, Zh _, trivial⟩ ?_ ?_
   ·refine ⟨?_, ?_, ?_, ?_, ?_, ?_, ?_, ?_, trivial⟩
    ·refine Za rfl fun a w' ek ef hg hin => ?_;have e1 : a (.tmp 1) = .pointer (some ⟨w.heap.size, 0, none⟩) := Zs hin 1 rfl;refine Zi ?_ rfl;clear hin hg;go_simp;all_goals go_arith
    ·refine Za rfl fun a w' ek ef hg hin => ?_;have e22 : a (.tmp 22) = _ := Zc hin 0 rfl;have h1 := (Below.cell hg (Zt hc3)).trans hc3;refine Zi ?_ rfl;clear hin hg;go_simp;all_goals go_arith
    ·refine Za rfl fun a w' ek ef hg hin => ?_;have e23 : a (.tmp 23) = _ := Zc hin 1 rfl;refine Zi ?_ rfl;clear hin hg;go_simp;all_goals go_arith
    ·refine Za rfl fun a w' ek ef hg hin => ?_;have e1 : a (.tmp 1) = .pointer (some ⟨w.heap.size, 0, none⟩) := Zs hin 1 rfl;refine Zi ?_ rfl;clear hin hg;go_simp;all_goals go_arith
    ·refine Za rfl fun a w' ek ef hg hin => ?_;have e25 : a (.tmp 25) = _ := Zc hin 3 rfl;have h1 := (Below.cell hg (Zt hc0)).trans hc0;refine Zi ?_ rfl;clear hin hg;go_simp;all_goals go_arith
    ·refine Za rfl fun a w' ek ef hg hin => ?_;have e26 : a (.tmp 26) = _ := Zc hin 4 rfl;refine Yo (f := 101) (args := #[.int .i64 k]) ?_ ((Zan k w').mono ?_)
     ·clear hin hg;go_simp;all_goals go_arith
     ·rintro e w2 ⟨rfl, rfl⟩;exact ⟨_, rfl, Zp.refl _, rfl⟩
    ·refine Za rfl fun a w' ek ef hg hin => ?_;have e24 : a (.tmp 24) = _ := Zc hin 2 rfl;have e27 : a (.tmp 27) = _ := Zc hin 5 rfl;refine Zi ?_ rfl;clear hin hg;go_simp;all_goals go_arith
    ·refine Za rfl fun a w' ek ef hg hin => ?_;have e : a (.tmp 28) = _ := Zc hin 6 rfl;exact Yp rfl e
   ·intro vs w' hg ht;obtain ⟨q22, q23, q24, q25, q26, q27, q28, q21, -⟩ := ht;have r22 : vs 0 = .pointer (some ⟨w.heap.size, 3, none⟩) := q22;have r23 : vs 1 = .slice ao l.length cap := q23;have r24 : vs 2 = .int .i64 l.length := q24;have r25 : vs 3 = .pointer (some ⟨w.heap.size, 0, none⟩) := q25;have r26 : vs 4 = .int .i64 k := q26;have r27 : vs 5 = .int .i64 (Kc k) := q27;have r28 : vs 6 = .bool (decide (Kc k < (l.length : Int))) := q28;have r21 : vs 7 = .bool (decide (Kc k < (l.length : Int))) := q21;clear q22 q23 q24 q25 q26 q27 q28 q21;simp only [Z9, Act.put, List.setIfInBounds_toArray, List.set_cons_zero, List.set_cons_succ, r22, r23, r24, r25, r26, r27, r28, r21];clear r22 r23 r24 r25 r26 r27 r28 r21;have g2 : Zp w w' := g.trans hg;clear hg g hc0 hc3;by_cases hlt : Kc k < (l.length : Int)
    ·have HF : Hid (Yq ⟨k, y, n, l⟩ = 4) := by show Yq _ = 4; rw [HW.out, if_pos hlt]
     rw [decide_eq_true hlt];clear hlt;go_wp2;go_ret;exact ⟨Xb HF.out.symm, g2⟩
    ·have HF : Hid (Yq ⟨k, y, n, l⟩ = 0) := by show Yq _ = 0; rw [HW.out, if_neg hlt]
     rw [decide_eq_false hlt];clear hlt;go_wp2;go_ret;exact ⟨Xb HF.out.symm, g2⟩
  ·have d1 : (k != 1) = true := by simp [h]
   have d2 : (k != 2) = true := by simp [h]
   have d3 : (k != 3) = false := by simp [h]
   clear h;go_enter Tryz.func63, Tryz.ntmps63;go_wp2_with fail;refine (Kw k y n l _ _).mono ?_;rw [HR.out];rintro e w1 ⟨rfl, g1⟩;have g : Zp w w1 := (Zd _ _).trans g1;have hc0 : w1.cell? ⟨w.heap.size, 0, none⟩ = some (.int .i64 k) := (Below.cell g1 (p := ⟨w.heap.size, 0, none⟩) (by simp)).trans (by simp);have hc3 : w1.cell? ⟨w.heap.size, 3, none⟩ = some (.slice ao l.length cap) := (Below.cell g1 (p := ⟨w.heap.size, 3, none⟩) (by simp)).trans (by simp);clear g1;go_wp2_with fail;refine Z1 [ex (.pointer (some ⟨w.heap.size, 3, none⟩)), ex (.slice ao l.length cap), ex (.int .i64 l.length), ex (.pointer (some ⟨w.heap.size, 0, none⟩)), ex (.int .i64 k), ex (.int .i64 (Kc k)), ex (.bool (decide (Kc k < (l.length : Int)))), ex (.bool (decide (Kc k < (l.length : Int))))] (by kernel_rfl) (by kernel_rfl) ⟨Zh _, Zh _, Zh _, Zh _, Zh _, Zh _, Zh _, Zh _, trivial⟩ ?_ ?_
   ·refine ⟨?_, ?_, ?_, ?_, ?_, ?_, ?_, ?_, trivial⟩
    ·refine Za rfl fun a w' ek ef hg hin => ?_;have e1 : a (.tmp 1) = .pointer (some ⟨w.heap.size, 0, none⟩) := Zs hin 1 rfl;refine Zi ?_ rfl;clear hin hg;go_simp;all_goals go_arith
    ·refine Za rfl fun a w' ek ef hg hin => ?_;have e22 : a (.tmp 22) = _ := Zc hin 0 rfl;have h1 := (Below.cell hg (Zt hc3)).trans hc3;refine Zi ?_ rfl;clear hin hg;go_simp;all_goals go_arith
    ·refine Za rfl fun a w' ek ef hg hin => ?_;have e23 : a (.tmp 23) = _ := Zc hin 1 rfl;refine Zi ?_ rfl;clear hin hg;go_simp;all_goals go_arith
    ·refine Za rfl fun a w' ek ef hg hin => ?_;have e1 : a (.tmp 1) = .pointer (some ⟨w.heap.size, 0, none⟩) := Zs hin 1 rfl;refine Zi ?_ rfl;clear hin hg;go_simp;all_goals go_arith
    ·refine Za rfl fun a w' ek ef hg hin => ?_;have e25 : a (.tmp 25) = _ := Zc hin 3 rfl;have h1 := (Below.cell hg (Zt hc0)).trans hc0;refine Zi ?_ rfl;clear hin hg;go_simp;all_goals go_arith
    ·refine Za rfl fun a w' ek ef hg hin => ?_;have e26 : a (.tmp 26) = _ := Zc hin 4 rfl;refine Yo (f := 101) (args := #[.int .i64 k]) ?_ ((Zan k w').mono ?_)
     ·clear hin hg;go_simp;all_goals go_arith
     ·rintro e w2 ⟨rfl, rfl⟩;exact ⟨_, rfl, Zp.refl _, rfl⟩
    ·refine Za rfl fun a w' ek ef hg hin => ?_;have e24 : a (.tmp 24) = _ := Zc hin 2 rfl;have e27 : a (.tmp 27) = _ := Zc hin 5 rfl;refine Zi ?_ rfl;clear hin hg;go_simp;all_goals go_arith
    ·refine Za rfl fun a w' ek ef hg hin => ?_;have e : a (.tmp 28) = _ := Zc hin 6 rfl;exact Yp rfl e
   ·intro vs w' hg ht;obtain ⟨q22, q23, q24, q25, q26, q27, q28, q21, -⟩ := ht;have r22 : vs 0 = .pointer (some ⟨w.heap.size, 3, none⟩) := q22;have r23 : vs 1 = .slice ao l.length cap := q23;have r24 : vs 2 = .int .i64 l.length := q24;have r25 : vs 3 = .pointer (some ⟨w.heap.size, 0, none⟩) := q25;have r26 : vs 4 = .int .i64 k := q26;have r27 : vs 5 = .int .i64 (Kc k) := q27;have r28 : vs 6 = .bool (decide (Kc k < (l.length : Int))) := q28;have r21 : vs 7 = .bool (decide (Kc k < (l.length : Int))) := q21;clear q22 q23 q24 q25 q26 q27 q28 q21;simp only [Z9, Act.put, List.setIfInBounds_toArray, List.set_cons_zero, List.set_cons_succ, r22, r23, r24, r25, r26, r27, r28, r21];clear r22 r23 r24 r25 r26 r27 r28 r21;have g2 : Zp w w' := g.trans hg;clear hg g hc0 hc3;by_cases hlt : Kc k < (l.length : Int)
    ·have HF : Hid (Yq ⟨k, y, n, l⟩ = 4) := by show Yq _ = 4; rw [HW.out, if_pos hlt]
     rw [decide_eq_true hlt];clear hlt;go_wp2;go_ret;exact ⟨Xb HF.out.symm, g2⟩
    ·have HF : Hid (Yq ⟨k, y, n, l⟩ = 0) := by show Yq _ = 0; rw [HW.out, if_neg hlt]
     rw [decide_eq_false hlt];clear hlt;go_wp2;go_ret;exact ⟨Xb HF.out.symm, g2⟩
theorem Znp : Zuj := by
 rintro ⟨k, y, n, l⟩ a c w _ hb;by_cases hk : 1 ≤ k ∧ k ≤ 3
 ·exact Zo4 k y n l _ w hk hb
 ·exact Zj1 k y n l _ w (by omega)
end Go.Proofs.YtikhknkpndhakabGreat
