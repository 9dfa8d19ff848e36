import Derived.Test.YtpdnapbchcdhlabMdlC
import Derived.Test.YtpdnapbchcdhlabMdlW
set_option maxHeartbeats 8000000
namespace Go.Proofs.Ytpdnapbchcdhlab
set_option maxRecDepth 100000
open Go.RowKit
open Plain Reg
variable {l : List Rec}
def Xu (P : Rec → Bool) (g : Option (Nat × Rec)) (k : Nat) (x : Rec) : Option (Nat × Rec) :=
 if P x = true then (match g with | none => some (k, x) | some p => if p.2.ver < x.ver then some (k, x) else some p) else g
def gr (P : Rec → Bool) (l : List Rec) : Nat → Option (Nat × Rec)
 | 0 => none
 | k + 1 => match l[k]? with | some x => Xu P (gr P l k) k x | none => gr P l k
def Q4 : Option (Nat × Rec) → Int
 | none => -1
 | some p => (p.1 : Int)
theorem Kj (P : Rec → Bool) {k : Nat} (h : k < l.length) : gr P l (k + 1) = Xu P (gr P l k) k l[k] := by
 show (match l[k]? with | some x => Xu P (gr P l k) k x | none => gr P l k) = _;rw [List.getElem?_eq_getElem h]
theorem Kk (P : Rec → Bool) (l : List Rec) : ∀ (k : Nat) (p : Nat × Rec), gr P l k = some p → p.1 < k ∧ l[p.1]? = some p.2 ∧ P p.2 = true
 | 0, p, h => by cases h
 | k + 1, p, h => by
  have ih := Kk P l k;unfold gr at h;cases hx : l[k]? with
  | none =>
   rw [hx] at h;obtain ⟨h1, h2⟩ := ih p h;exact ⟨by omega, h2⟩
  | some x =>
   rw [hx] at h;simp only [Xu] at h;by_cases hP : P x = true
   ·rw [if_pos hP] at h;cases hg : gr P l k with
    | none =>
     rw [hg] at h;simp only [Option.some.injEq] at h;subst h;exact ⟨by simp, hx, hP⟩
    | some q =>
     rw [hg] at h;simp only at h;by_cases hv : q.2.ver < x.ver
     ·rw [if_pos hv] at h;simp only [Option.some.injEq] at h;subst h;exact ⟨by simp, hx, hP⟩
     ·rw [if_neg hv] at h;simp only [Option.some.injEq] at h;subst h;obtain ⟨h1, h2⟩ := ih q hg;exact ⟨by omega, h2⟩
   ·rw [if_neg hP] at h;obtain ⟨h1, h2⟩ := ih p h;exact ⟨by omega, h2⟩
theorem K2 (l : List Rec) (hv : ∀ r ∈ l, 1 ≤ r.ver) : ∀ k, k ≤ l.length → Yc (l.take k) = (match gr (fun _ => true) l k with | none => 1 | some p => p.2.ver + 1)
 | 0, _ => by rw [List.take_zero]; rfl
 | k + 1, h => by
  have ih := K2 l hv k (by omega);have hk : k < l.length := by omega
  have h1 := hv l[k] (List.getElem_mem hk);rw [Vf l k hk, ih, Kj _ hk];unfold Xu;rw [if_pos rfl];cases gr (fun _ => true) l k with
  | none => simp only; rw [if_pos h1]
  | some p =>
   simp only;by_cases hlt : p.2.ver < l[k].ver
   ·rw [if_pos hlt, if_pos (by omega)]
   ·rw [if_neg hlt, if_neg (by omega)]
def Qm : Option (Nat × Rec) → Got
 | none => ⟨0, 6, []⟩
 | some p => if p.2.kind = 3 then ⟨p.2.ver, 10, []⟩ else ⟨p.2.ver, 0, p.2.data⟩
theorem J6 (p : Nat × Rec) : (Qm (some p)).n = p.2.ver := by unfold Qm; simp only; split <;> rfl
theorem J5 (key : Int) (l : List Rec) (hv : ∀ r ∈ l, 1 ≤ r.ver) : ∀ k, k ≤ l.length → Xm (l.take k) key = Qm (gr (fun r => r.key == key) l k)
 | 0, _ => by rw [List.take_zero]; rfl
 | k + 1, h => by
  have ih := J5 key l hv k (by omega);have hk : k < l.length := by omega
  have h1 := hv l[k] (List.getElem_mem hk);rw [Kb l key k hk, ih, Kj _ hk];unfold Xu Yq;by_cases hy : l[k].key = key
  ·have hp : (fun r : Rec => r.key == key) l[k] = true := by simpa using hy
   rw [if_pos hp];cases hg : gr (fun r => r.key == key) l k with
   | none =>
    have h3 : ¬ (l[k].key ≠ key ∨ l[k].ver ≤ (Qm none).n) := by
     rintro (h2 | h2)
     ·exact h2 hy
     ·have : l[k].ver ≤ 0 := h2;omega
    rw [if_neg h3];rfl
   | some p =>
    simp only;by_cases hlt : p.2.ver < l[k].ver
    ·have h3 : ¬ (l[k].key ≠ key ∨ l[k].ver ≤ (Qm (some p)).n) := by
      rw [J6];rintro (h2 | h2)
      ·exact h2 hy
      ·omega
     rw [if_neg h3, if_pos hlt];rfl
    ·have h3 : l[k].key ≠ key ∨ l[k].ver ≤ (Qm (some p)).n := .inr (by rw [J6]; omega);rw [if_pos h3, if_neg hlt]
  ·have hp : ¬ (fun r : Rec => r.key == key) l[k] = true := by simpa using hy
   rw [if_pos (.inl hy), if_neg hp]
theorem Ka (K : Nat) (caps : Array Value) (P : Rec → Bool) (S : Nat → Prop) (l : List Rec) (v : Value) (w : World) (hK : ∀ (args : Array Value) (w : World), (callFunc K args).run Try.prog w = .ok (.enter K args) w) (hl : Zv S w v l) (hn : l.length ≤ 1000000)
  (hc : ∀ (x : Rec) (a : Option Addr) (c : Nat) (w' : World), x ∈ l → Zi w w' → Calls Try.prog K (#[.agg #[.int .i64 x.kind, .int .i64 x.key, .int .i64 x.ver, .slice a x.data.length c]] ++ caps) w' fun e w2 => e = .returned (.bool (P x)) ∧ Zi w' w2) :
  Calls Try.prog 55 #[v, .func (.func K) #[] caps] w fun e w' => e = .returned (.int .i64 (Q4 (gr P l l.length))) ∧ Zi w w' := by
 obtain ⟨ao, cp, rfl⟩ := hl.form;obtain ⟨R, hR⟩ : ∃ R, R = Q4 (gr P l l.length) := ⟨_, rfl⟩;rw [← hR];have HR : Hid _ := hR;clear hR;go_enter Try.func55, Try.ntmps55;go_wp2_with fail;go_loopw [5, 10] (fun o i wr => ∃ (k : Nat) (A : Int), k ≤ l.length ∧ i = .int .i64 k ∧ o = .int .i64 A ∧ Hid (A = Q4 (gr P l k)) ∧ Zi w wr) (fun _ i _ => l.length - (intOf i).toNat)
 case atStart => exact ⟨0, -1, Nat.zero_le _, rfl, rfl, (by show _ = _; rfl), Zi.refl _⟩
 case round =>
  obtain ⟨k, A, hk, rfl, rfl, HA, hg0⟩ := hrel;by_cases hlt : k < l.length
  ·obtain ⟨b, off, a1, c1, hv1, q0, q1, q2, q3, hu⟩ := Yf (hl.grow hg0) k hlt;cases hv1;have HM : Hid (l[k] ∈ l) := List.getElem_mem hlt;have HG : Hid (gr P l (k + 1) = Xu P (gr P l k) k l[k]) := Kj P hlt;have HC : Hid (∀ p, gr P l k = some p → p.1 < k ∧ wr.cell? ⟨b, off + p.1 * 4 + 2, none⟩ = some (.int .i64 p.2.ver)) := by
    intro p hp;obtain ⟨m1, m2, -⟩ := Kk P l k p hp;obtain ⟨b', off', a', c', e1, -, -, e4, -, -⟩ := Yf (hl.grow hg0) p.1 (by omega);cases e1;obtain ⟨hm, e5⟩ := List.getElem?_eq_some_iff.1 m2;rw [e5] at e4;exact ⟨m1, e4⟩
   clear hu;generalize l[k] = x at *;generalize gr P l k = G at *;have g1 := Ze wr (.cells #[.int .i64 x.kind, .int .i64 x.key, .int .i64 x.ver, .slice a1 x.data.length c1] 33);have hX1 := Zs wr #[.int .i64 x.kind, .int .i64 x.key, .int .i64 x.ver, .slice a1 x.data.length c1] 33;have gw1 := hg0.trans g1;obtain ⟨gx, hgx⟩ : ∃ gx, gx = wr.heap.size := ⟨_, rfl⟩;have hlk : k < l.length := hlt;cases hP : P x with
   | false =>
    have HF : Hid (P x = false) := hP;have HG2 : Hid (A = Q4 (gr P l (k + 1))) := by show _ = _; rw [HA.out, HG.out]; unfold Xu; rw [hP, if_neg (by simp)]
    clear HG HA HC hP;go_wp2_with fail;generalize World.alloc wr _ = W at *;rw [← hgx] at *;clear hgx g1 hg0 q0 q1 q2 q3;refine Zw [ex (.func (.func K) #[] caps), ex (.agg #[.int .i64 x.kind, .int .i64 x.key, .int .i64 x.ver, .slice a1 x.data.length c1]), ex (.bool false), ex (.bool false), ex (undef), ex (undef), ex (undef), ex (undef), ex (undef), ex (undef), ex (undef), ex (undef), ex (undef), ex (undef), ex (undef), ex (undef), ex (.bool false)] (by kernel_rfl) (by kernel_rfl) ⟨Zd _, Zd _, Zd _, Zd _, Zd _, Zd _, Zd _, Zd _, Zd _, Zd _, Zd _, Zd _, Zd _, Zd _, Zd _, Zd _, Zd _, trivial⟩ ?_ ?_
    ·refine ⟨?_, ?_, ?_, ?_, ?_, ?_, ?_, ?_, ?_, ?_, ?_, ?_, ?_, ?_, ?_, ?_, ?_, trivial⟩
     ·exact Za rfl fun a _ _ _ _ A => Zj rfl (Zk A 1 rfl)
     ·refine Za rfl fun a _ _ _ B A => ?_;have e7 : a (.tmp 7) = .pointer (some ⟨gx, 0, none⟩) := Zk A 7 rfl;have hh := (B.block _ (Zf hX1)).trans hX1;obtain ⟨z0, z1, z2, z3⟩ := Yt hh rfl rfl rfl rfl;refine Zg ?_ rfl;clear A B hh;go_simp;all_goals go_arith
     ·refine Za rfl fun a B _ _ C A => ?_;have e15 : a (.tmp 15) = _ := Zb A 0 rfl;have e16 : a (.tmp 16) = _ := Zb A 1 rfl;refine Z2 (f := K) ?_ ((hc x a1 c1 B HM.out (gw1.trans C)).mono ?_)
      ·clear A C;go_simp;all_goals go_arith
      ·rw [HF.out];rintro e w2 ⟨rfl, g2⟩;exact ⟨_, rfl, g2, rfl⟩
     ·exact Za rfl fun a _ _ _ _ A => Zj rfl (Zb A 2 rfl)
     ·refine Z9 3 true rfl rfl rfl (fun _ => rfl)
     ·refine Z9 3 true rfl rfl rfl (fun _ => rfl)
     ·refine Z9 3 true rfl rfl rfl (fun _ => rfl)
     ·refine Yj 6 false rfl rfl rfl (fun _ => rfl)
     ·refine Yj 6 false rfl rfl rfl (fun _ => rfl)
     ·refine Yj 6 false rfl rfl rfl (fun _ => rfl)
     ·refine Yj 6 false rfl rfl rfl (fun _ => rfl)
     ·refine Yj 6 false rfl rfl rfl (fun _ => rfl)
     ·refine Yj 6 false rfl rfl rfl (fun _ => rfl)
     ·refine Yj 6 false rfl rfl rfl (fun _ => rfl)
     ·refine Yj 6 false rfl rfl rfl (fun _ => rfl)
     ·refine Z9 3 true rfl rfl rfl (fun _ => rfl)
     ·refine Za rfl fun a _ B _ _ A => ?_;have ec : a (.tmp 18) = _ := Zb A 3 rfl;exact Z1 rfl ec (B _)
    ·intro vs w' hg ht;obtain ⟨(r15 : vs 0 = _), (r16 : vs 1 = _), (r17 : vs 2 = _), (r18 : vs 3 = _), (r19 : vs 4 = _), (r20 : vs 5 = _), (r21 : vs 6 = _), (r22 : vs 7 = _), (r23 : vs 8 = _), (r24 : vs 9 = _), (r25 : vs 10 = _), (r26 : vs 11 = _), (r27 : vs 12 = _), (r28 : vs 13 = _), (r29 : vs 14 = _), (r30 : vs 15 = _), (r31 : vs 16 = _), -⟩ := ht;simp only [Z4, Act.put, List.setIfInBounds_toArray, List.set_cons_zero, List.set_cons_succ, r15, r16, r17, r18, r19, r20, r21, r22, r23, r24, r25, r26, r27, r28, r29, r30, r31];clear r15 r16 r17 r18 r19 r20 r21 r22 r23 r24 r25 r26 r27 r28 r29 r30 r31;have gE := gw1.trans hg;clear hg gw1 hX1;go_wp2_with fail;go_roundw
     case rel => exact ⟨k + 1, A, by omega, by go_num, rfl, HG2, gE⟩
     case measure => simp [intOf]; omega
   | true =>
    have HF : Hid (P x = true) := hP;cases G with
    | none =>
     have HG2 : Hid ((k : Int) = Q4 (gr P l (k + 1))) := by show _ = _; rw [HG.out]; unfold Xu; rw [hP, if_pos rfl]; rfl
     obtain rfl : A = -1 := HA.out;clear HG HA HC hP;go_wp2_with fail;generalize World.alloc wr _ = W at *;rw [← hgx] at *;clear hgx g1 hg0 q0 q1 q2 q3;refine Zw [ex (.func (.func K) #[] caps), ex (.agg #[.int .i64 x.kind, .int .i64 x.key, .int .i64 x.ver, .slice a1 x.data.length c1]), ex (.bool true), ex (.bool true), ex (.int .i64 (-1)), ex (.bool true), ex (.bool true), ex (undef), ex (undef), ex (undef), ex (undef), ex (undef), ex (undef), ex (undef), ex (undef), ex (.bool true), ex (.bool true)] (by kernel_rfl) (by kernel_rfl) ⟨Zd _, Zd _, Zd _, Zd _, Zd _, Zd _, Zd _, Zd _, Zd _, Zd _, Zd _, Zd _, Zd _, Zd _, Zd _, Zd _, Zd _, trivial⟩ ?_ ?_
     ·refine ⟨?_, ?_, ?_, ?_, ?_, ?_, ?_, ?_, ?_, ?_, ?_, ?_, ?_, ?_, ?_, ?_, ?_, trivial⟩
      ·exact Za rfl fun a _ _ _ _ A => Zj rfl (Zk A 1 rfl)
      ·refine Za rfl fun a _ _ _ B A => ?_;have e7 : a (.tmp 7) = .pointer (some ⟨gx, 0, none⟩) := Zk A 7 rfl;have hh := (B.block _ (Zf hX1)).trans hX1;obtain ⟨z0, z1, z2, z3⟩ := Yt hh rfl rfl rfl rfl;refine Zg ?_ rfl;clear A B hh;go_simp;all_goals go_arith
      ·refine Za rfl fun a B _ _ C A => ?_;have e15 : a (.tmp 15) = _ := Zb A 0 rfl;have e16 : a (.tmp 16) = _ := Zb A 1 rfl;refine Z2 (f := K) ?_ ((hc x a1 c1 B HM.out (gw1.trans C)).mono ?_)
       ·clear A C;go_simp;all_goals go_arith
       ·rw [HF.out];rintro e w2 ⟨rfl, g2⟩;exact ⟨_, rfl, g2, rfl⟩
      ·exact Za rfl fun a _ _ _ _ A => Zj rfl (Zb A 2 rfl)
      ·exact Zh 3 true rfl rfl rfl fun a _ _ _ _ A => Zj rfl (Zk A 5 rfl)
      ·refine Zh 3 true rfl rfl rfl fun a _ _ _ B A => ?_;have e19 : a (.tmp 19) = _ := Zb A 4 rfl;refine Zg ?_ rfl;clear A B;go_simp;all_goals go_arith
      ·exact Zh 3 true rfl rfl rfl fun a _ _ _ _ A => Zj rfl (Zb A 5 rfl)
      ·refine Z9 6 false rfl rfl rfl (fun _ => rfl)
      ·refine Z9 6 false rfl rfl rfl (fun _ => rfl)
      ·refine Z9 6 false rfl rfl rfl (fun _ => rfl)
      ·refine Z9 6 false rfl rfl rfl (fun _ => rfl)
      ·refine Z9 6 false rfl rfl rfl (fun _ => rfl)
      ·refine Z9 6 false rfl rfl rfl (fun _ => rfl)
      ·refine Z9 6 false rfl rfl rfl (fun _ => rfl)
      ·refine Z9 6 false rfl rfl rfl (fun _ => rfl)
      ·refine Zh 3 true rfl rfl rfl fun a _ B _ _ A => ?_;have ec : a (.tmp 21) = _ := Zb A 6 rfl;exact Z1 rfl ec (B _)
      ·refine Za rfl fun a _ _ _ _ A => ?_;have ec : a (.tmp 18) = _ := Zb A 3 rfl;have e : a (.tmp 30) = _ := Zb A 15 rfl;exact Z1 rfl ec e
     ·intro vs w' hg ht;obtain ⟨(r15 : vs 0 = _), (r16 : vs 1 = _), (r17 : vs 2 = _), (r18 : vs 3 = _), (r19 : vs 4 = _), (r20 : vs 5 = _), (r21 : vs 6 = _), (r22 : vs 7 = _), (r23 : vs 8 = _), (r24 : vs 9 = _), (r25 : vs 10 = _), (r26 : vs 11 = _), (r27 : vs 12 = _), (r28 : vs 13 = _), (r29 : vs 14 = _), (r30 : vs 15 = _), (r31 : vs 16 = _), -⟩ := ht;simp only [Z4, Act.put, List.setIfInBounds_toArray, List.set_cons_zero, List.set_cons_succ, r15, r16, r17, r18, r19, r20, r21, r22, r23, r24, r25, r26, r27, r28, r29, r30, r31];clear r15 r16 r17 r18 r19 r20 r21 r22 r23 r24 r25 r26 r27 r28 r29 r30 r31;have gE := gw1.trans hg;clear hg gw1 hX1;go_wp2_with fail;go_roundw
      case rel => exact ⟨k + 1, k, by omega, by go_num, rfl, HG2, gE⟩
      case measure => simp [intOf]; omega
    | some p =>
     obtain ⟨i, y⟩ := p;obtain ⟨m1, m2⟩ := HC.out (i, y) rfl;have HG1 : Hid (gr P l (k + 1) = if y.ver < x.ver then some (k, x) else some (i, y)) := by show _ = _; rw [HG.out]; unfold Xu; rw [hP, if_pos rfl]
     obtain rfl : A = (i : Int) := HA.out;have hcp := (Below.cell g1 (Zr m2)).trans m2;have HA1 : Hid ((i : Int) = Q4 (some (i, y))) := HA.out;simp only at m1 hcp;clear HG HA HC hP m2;go_wp2_with fail;generalize World.alloc wr _ = W at *;rw [← hgx] at *;clear hgx g1 hg0 q0 q1 q2 q3;refine Zw [ex (.func (.func K) #[] caps), ex (.agg #[.int .i64 x.kind, .int .i64 x.key, .int .i64 x.ver, .slice a1 x.data.length c1]), ex (.bool true), ex (.bool true), ex (.int .i64 (i : Int)), ex (.bool false), ex (.bool false), ex (.pointer (some ⟨gx, 2, none⟩)), ex (.int .i64 x.ver), ex (.slice (some ⟨b, off, none⟩) l.length cp), ex (.int .i64 (i : Int)), ex (.pointer (some ⟨b, off + i * 4, none⟩)), ex (.pointer (some ⟨b, off + i * 4 + 2, none⟩)), ex (.int .i64 y.ver), ex (.bool (decide (y.ver < x.ver))), ex (.bool (decide (y.ver < x.ver))), ex (.bool (decide (y.ver < x.ver)))] (by kernel_rfl) (by kernel_rfl) ⟨Zd _, Zd _, Zd _, Zd _, Zd _, Zd _, Zd _, Zd _, Zd _, Zd _, Zd _, Zd _, Zd _, Zd _, Zd _, Zd _, Zd _, trivial⟩ ?_ ?_
     ·refine ⟨?_, ?_, ?_, ?_, ?_, ?_, ?_, ?_, ?_, ?_, ?_, ?_, ?_, ?_, ?_, ?_, ?_, trivial⟩
      ·exact Za rfl fun a _ _ _ _ A => Zj rfl (Zk A 1 rfl)
      ·refine Za rfl fun a _ _ _ B A => ?_;have e7 : a (.tmp 7) = .pointer (some ⟨gx, 0, none⟩) := Zk A 7 rfl;have hh := (B.block _ (Zf hX1)).trans hX1;obtain ⟨z0, z1, z2, z3⟩ := Yt hh rfl rfl rfl rfl;refine Zg ?_ rfl;clear A B hh;go_simp;all_goals go_arith
      ·refine Za rfl fun a B _ _ C A => ?_;have e15 : a (.tmp 15) = _ := Zb A 0 rfl;have e16 : a (.tmp 16) = _ := Zb A 1 rfl;refine Z2 (f := K) ?_ ((hc x a1 c1 B HM.out (gw1.trans C)).mono ?_)
       ·clear A C;go_simp;all_goals go_arith
       ·rw [HF.out];rintro e w2 ⟨rfl, g2⟩;exact ⟨_, rfl, g2, rfl⟩
      ·exact Za rfl fun a _ _ _ _ A => Zj rfl (Zb A 2 rfl)
      ·exact Zh 3 true rfl rfl rfl fun a _ _ _ _ A => Zj rfl (Zk A 5 rfl)
      ·refine Zh 3 true rfl rfl rfl fun a _ _ _ B A => ?_;have e19 : a (.tmp 19) = _ := Zb A 4 rfl;refine Zg ?_ rfl;clear A B;go_simp;all_goals go_arith
      ·exact Zh 3 true rfl rfl rfl fun a _ _ _ _ A => Zj rfl (Zb A 5 rfl)
      ·refine Zh 6 false rfl rfl rfl fun a _ _ _ B A => ?_;have e7 : a (.tmp 7) = .pointer (some ⟨gx, 0, none⟩) := Zk A 7 rfl;refine Zg ?_ rfl;clear A B;go_simp;all_goals go_arith
      ·refine Zh 6 false rfl rfl rfl fun a _ _ _ B A => ?_;have e22 : a (.tmp 22) = _ := Zb A 7 rfl;have z2 := Zp ((B.block _ (Zf hX1)).trans hX1) 2 _ rfl;refine Zg ?_ rfl;clear A B;go_simp;all_goals go_arith
      ·exact Zh 6 false rfl rfl rfl fun a _ _ _ _ A => Zj rfl (Zk A 0 rfl)
      ·exact Zh 6 false rfl rfl rfl fun a _ _ _ _ A => Zj rfl (Zk A 5 rfl)
      ·refine Zh 6 false rfl rfl rfl fun a _ _ _ B A => ?_;have e24 : a (.tmp 24) = _ := Zb A 9 rfl;have e25 : a (.tmp 25) = _ := Zb A 10 rfl;refine Zg ?_ rfl;clear A B;go_simp;all_goals go_arith
      ·refine Zh 6 false rfl rfl rfl fun a _ _ _ B A => ?_;have e26 : a (.tmp 26) = _ := Zb A 11 rfl;refine Zg ?_ rfl;clear A B;go_simp;all_goals go_arith
      ·refine Zh 6 false rfl rfl rfl fun a _ _ _ B A => ?_;have e27 : a (.tmp 27) = _ := Zb A 12 rfl;have z2 := (Below.cell B (Zr hcp)).trans hcp;refine Zg ?_ rfl;clear A B;go_simp;all_goals go_arith
      ·refine Zh 6 false rfl rfl rfl fun a _ _ _ B A => ?_;have e23 : a (.tmp 23) = _ := Zb A 8 rfl;have e28 : a (.tmp 28) = _ := Zb A 13 rfl;refine Zg ?_ rfl;clear A B;go_simp;all_goals go_arith
      ·refine Zh 3 true rfl rfl rfl fun a _ _ _ _ A => ?_;have ec : a (.tmp 21) = _ := Zb A 6 rfl;have e : a (.tmp 29) = _ := Zb A 14 rfl;exact Z1 rfl ec e
      ·refine Za rfl fun a _ _ _ _ A => ?_;have ec : a (.tmp 18) = _ := Zb A 3 rfl;have e : a (.tmp 30) = _ := Zb A 15 rfl;exact Z1 rfl ec e
     ·intro vs w' hg ht;obtain ⟨(r15 : vs 0 = _), (r16 : vs 1 = _), (r17 : vs 2 = _), (r18 : vs 3 = _), (r19 : vs 4 = _), (r20 : vs 5 = _), (r21 : vs 6 = _), (r22 : vs 7 = _), (r23 : vs 8 = _), (r24 : vs 9 = _), (r25 : vs 10 = _), (r26 : vs 11 = _), (r27 : vs 12 = _), (r28 : vs 13 = _), (r29 : vs 14 = _), (r30 : vs 15 = _), (r31 : vs 16 = _), -⟩ := ht;simp only [Z4, Act.put, List.setIfInBounds_toArray, List.set_cons_zero, List.set_cons_succ, r15, r16, r17, r18, r19, r20, r21, r22, r23, r24, r25, r26, r27, r28, r29, r30, r31];clear r15 r16 r17 r18 r19 r20 r21 r22 r23 r24 r25 r26 r27 r28 r29 r30 r31;have gE := gw1.trans hg;clear hg gw1 hX1 hcp;by_cases hv : y.ver < x.ver
      ·have HG2 : Hid ((k : Int) = Q4 (gr P l (k + 1))) := by show _ = _; rw [HG1.out, if_pos hv]; rfl
       rw [decide_eq_true hv];clear hv HG1 HA1;go_wp2_with fail;go_roundw
       case rel => exact ⟨k + 1, k, by omega, by go_num, rfl, HG2, gE⟩
       case measure => simp [intOf]; omega
      ·have HG2 : Hid ((i : Int) = Q4 (gr P l (k + 1))) := by show _ = _; rw [HG1.out, if_neg hv]; rfl
       rw [decide_eq_false hv];clear hv HG1 HA1;go_wp2_with fail;go_roundw
       case rel => exact ⟨k + 1, i, by omega, by go_num, rfl, HG2, gE⟩
       case measure => simp [intOf]; omega
  ·have hAR : A = R := by rw [HA.out, HR.out, show k = l.length from by omega]
   subst hAR;clear HA HR;go_wp2_with fail;go_ret;exact ⟨rfl, hg0⟩
theorem Km (args : Array Value) (w : World) : (callFunc 58 args).run Try.prog w = .ok (.enter 58 args) w := by
 simp [callFunc, Try.func58, Try.f58, mark]
theorem K3 (args : Array Value) (w : World) : (callFunc 56 args).run Try.prog w = .ok (.enter 56 args) w := by
 simp [callFunc, Try.func56, Try.f56, mark]
theorem Zai (x : Rec) (a : Option Addr) (c : Nat) (w : World) : Calls Try.prog 58 #[.agg #[.int .i64 x.kind, .int .i64 x.key, .int .i64 x.ver, .slice a x.data.length c]] w fun e w' => e = .returned (.bool true) ∧ Zi w w' := by
 have g0 := Ze w (.cells #[.int .i64 x.kind, .int .i64 x.key, .int .i64 x.ver, .slice a x.data.length c] 33);go_enter Try.func58, Try.ntmps58;go_wp2_with fail;go_ret;exact ⟨rfl, g0⟩
theorem Zbc (x : Rec) (a : Option Addr) (c : Nat) (key : Int) (g : Nat) (w : World) (hp : w.heap[g]? = some (.cells #[.int .i64 key] 3 (0, 0))) : Calls Try.prog 56 #[.agg #[.int .i64 x.kind, .int .i64 x.key, .int .i64 x.ver, .slice a x.data.length c], .pointer (some ⟨g, 0, none⟩)] w fun e w' => e = .returned (.bool (x.key == key)) ∧ Zi w w' := by
 have g0 := Ze w (.cells #[.int .i64 x.kind, .int .i64 x.key, .int .i64 x.ver, .slice a x.data.length c] 33);have y0 := Zp ((g0.block _ (Zf hp)).trans hp) 0 _ rfl;go_enter Try.func56, Try.ntmps56;go_wp2_with fail;go_ret;exact ⟨rfl, g0⟩
theorem Qb (h : Z6 l = true) : l.length ≤ 40 ∧ ∀ r ∈ l, 1 ≤ r.ver ∧ r.ver ≤ 60000 ∧ r.data.length ≤ 8 := by
 obtain ⟨h1, h2⟩ := (Yk l).1 h;refine ⟨h2, fun r hr => ?_⟩;obtain ⟨h3, h4⟩ := h1 r hr;obtain ⟨k, y, n, d⟩ := r;simp only at h4;have hk : ¬ (k < 1 ∨ 3 < k) := fun hk => by rw [Vy _ _ _ _ hk] at h3; cases h3
 cases hR : Ya ⟨k, y, n, d⟩ with
 | false => rw [Xq _ _ _ _ hk hR] at h3; cases h3
 | true =>
  have hR2 := hR;rw [Z8 _ _ _ _ h4, decide_eq_true_eq] at hR2;by_cases hm : Yn k < (d.length : Int)
  ·rw [Xz _ _ _ _ hk hR hm] at h3; cases h3
  ·have : Yn k ≤ 8 := by unfold Yn; split <;> omega
   exact ⟨hR2.2.2.1, hR2.2.2.2, by show d.length ≤ 8; omega⟩
theorem Ki : Vo := by
 intro S l v w hr hl;obtain ⟨hn, hb⟩ := Qb hr;have HE : Hid _ := K2 l (fun r h => (hb r h).1) l.length (Nat.le_refl _);obtain ⟨ao, cp, rfl⟩ := hl.form;obtain ⟨R, hR⟩ : ∃ R, R = Yc l := ⟨_, rfl⟩;rw [← hR];have HR : Hid _ := hR;have HB : Hid _ := hb;clear hR hb hr;go_enter Try.func23, Try.ntmps23;go_wp2_with fail;refine (Ka 58 #[] (fun _ => true) S l _ w Km hl (by omega) (fun x a c w' _ _ => by rw [Array.append_empty]; exact Zai x a c w')).mono ?_;rintro e w1 ⟨rfl, g1⟩;have HM : Hid _ := Kk (fun _ => true) l l.length;have HE2 : Hid (R = match gr (fun _ => true) l l.length with | none => 1 | some p => p.2.ver + 1) := by
  show R = _;rw [HR.out, ← HE.out, List.take_length]
 clear HE HR;generalize gr (fun _ => true) l l.length = G at *;cases G with
 | none =>
  obtain rfl : R = 1 := HE2.out;simp only [Q4];go_wp2_with fail;go_ret;exact ⟨rfl, g1⟩
 | some p =>
  obtain ⟨i, y⟩ := p;obtain ⟨m1, m2, -⟩ := HM.out (i, y) rfl;obtain rfl : R = y.ver + 1 := HE2.out;simp only at m1 m2;obtain ⟨b, off, a1, c1, hv1, -, -, q2, -, -⟩ := Yf (hl.grow g1) i m1;cases hv1;have e5 := (List.getElem?_eq_some_iff.1 m2).2;rw [e5] at q2;have hbd := HB.out y (by rw [← e5]; exact List.getElem_mem m1);clear m2 e5 HB HM HE2;simp only [Q4];go_wp2_with fail;go_ret;exact ⟨rfl, g1⟩
theorem Zaq (k y n : Int) (ao : Option Addr) (len cap : Nat) (w : World) : (Instr.field 33 (.agg #[.int .i64 k, .int .i64 y, .int .i64 n, .slice ao len cap]) 3).run Try.prog w = .ok (.slice ao len cap) w := by
 unfold Instr.field;simp only [Sem.run_bind, run_underlying Try.underlying33, Result.andThen_ok];simp [part, asAgg]
theorem Za4 : K7 := by
 intro S l key v w hS hr hl;obtain ⟨hn, hb⟩ := Qb hr;have HE : Hid _ := J5 key l (fun r h => (hb r h).1) l.length (Nat.le_refl _);obtain ⟨ao, cp, rfl⟩ := hl.form;obtain ⟨R, hR⟩ : ∃ R, R = Xm l key := ⟨_, rfl⟩;rw [← hR];have HR : Hid _ := hR;have HB : Hid _ := hb;clear hR hb hr;have g0 := Ze w (.cells #[.int .i64 key] 3);have hp := Zs w #[.int .i64 key] 3;go_enter Try.func21, Try.ntmps21;go_wp2_with fail;refine (Ka 56 #[.pointer (some ⟨w.heap.size, 0, none⟩)] (fun r => r.key == key) S l _ _ K3 (hl.grow g0) (by omega) (fun x a c w' _ hg => Zbc x a c key _ w' ((hg.block _ (Zf hp)).trans hp))).mono ?_;rintro e w1 ⟨rfl, g1⟩;have gw1 := g0.trans g1;clear g0 g1 hp;have HM : Hid _ := Kk (fun r => r.key == key) l l.length;have HE2 : Hid (R = Qm (gr (fun r => r.key == key) l l.length)) := by
  show R = _;rw [HR.out, ← HE.out, List.take_length]
 clear HE HR;generalize gr (fun r => r.key == key) l l.length = G at *;cases G with
 | none =>
  obtain rfl : R = ⟨0, 6, []⟩ := HE2.out;simp only [Q4];go_wp2_with fail
  go_ret2
  exact ⟨_, rfl, .inl ⟨none, 0, rfl, rfl, fun _ => rfl⟩, gw1⟩
 | some p =>
  obtain ⟨i, y⟩ := p;obtain ⟨m1, m2, -⟩ := HM.out (i, y) rfl;simp only at m1 m2;obtain ⟨b, off, a1, c1, hv1, q0, q1, q2, q3, hu⟩ := Yf (hl.grow gw1) i m1;cases hv1;have e5 := (List.getElem?_eq_some_iff.1 m2).2;rw [e5] at q0 q1 q2 q3 hu;have HB8 : Hid _ := HB.out y (by rw [← e5]; exact List.getElem_mem m1);clear m2 e5 HB HM;simp only [Q4];by_cases h3 : y.kind = 3
  ·obtain rfl : R = ⟨y.ver, 10, []⟩ := by rw [HE2.out]; unfold Qm; simp only; rw [if_pos h3]
   have d3 : (y.kind == 3) = true := by simp [h3]
   clear HE2 h3 hu;go_wp2_with fail
   go_ret2
   exact ⟨_, rfl, .inl ⟨none, 0, rfl, rfl, fun _ => rfl⟩, gw1⟩
  ·obtain rfl : R = ⟨y.ver, 0, y.data⟩ := by rw [HE2.out]; unfold Qm; simp only; rw [if_neg h3]
   have d3 : (y.kind == 3) = false := by simp [h3]
   clear HE2 h3;go_wp2_with fail;refine (Kh y.kind y.key y.ver y.data _ w1 (by have := HB8.out; omega) hu.p).mono ?_;rintro e w2 ⟨v', rfl, ho, g2⟩;have gE := gw1.trans g2;have hB := (Zby S (X7 ho gw1.size));clear ho hu q0 q1 q2 q3 g2;obtain ⟨a9, c9, rfl⟩ := hB.form;have ff := Zaq;go_wp2_with fail
   go_ret2
   exact ⟨_, rfl, hB, gE⟩
end Go.Proofs.Ytpdnapbchcdhlab
