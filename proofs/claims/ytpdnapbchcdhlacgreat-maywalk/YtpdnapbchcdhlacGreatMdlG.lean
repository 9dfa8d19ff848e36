import Derived.Test.YtpdnapbchcdhlacGreatMdlC
import Derived.Test.YtpdnapbchcdhlacGreatMdlW
set_option maxHeartbeats 8000000
namespace Go.Proofs.YtpdnapbchcdhlacGreat
set_option maxRecDepth 100000
open Go.RowKit
open Plain Reg
variable {l : List Rec}
def Zak (P : Rec → Bool) (g : Option (Nat × Rec)) (k : Nat) (x : Rec) : Option (Nat × Rec) :=
 if P x = true then (match g with | none => some (k, x) | some p => if p.2.ver < x.ver then some (k, x) else some p) else g
def gr (P : Rec → Bool) (l : List Rec) : Nat → Option (Nat × Rec)
 | 0 => none
 | k + 1 => match l[k]? with | some x => Zak P (gr P l k) k x | none => gr P l k
def Zgl : Option (Nat × Rec) → Int
 | none => -1
 | some p => (p.1 : Int)
theorem Zoe (P : Rec → Bool) {k : Nat} (h : k < l.length) : gr P l (k + 1) = Zak P (gr P l k) k l[k] := by
 show (match l[k]? with | some x => Zak P (gr P l k) k x | none => gr P l k) = _;rw [List.getElem?_eq_getElem h]
theorem Zm1 (P : Rec → Bool) (l : List Rec) : ∀ (k : Nat) (p : Nat × Rec), gr P l k = some p → p.1 < k ∧ l[p.1]? = some p.2 ∧ P p.2 = true
 | 0, p, h => by cases h
 | k + 1, p, h => by
  have ih := Zm1 P l k;unfold gr at h;cases hx : l[k]? with
  | none =>
   rw [hx] at h;obtain ⟨h1, h2⟩ := ih p h;exact ⟨by omega, h2⟩
  | some x =>
   rw [hx] at h;simp only [Zak] at h;by_cases hP : P x = true
   ·rw [if_pos hP] at h;cases hg : gr P l k with
    | none =>
     rw [hg] at h;simp only [Option.some.injEq] at h;subst h;exact ⟨by simp, hx, hP⟩
    | some q =>
     rw [hg] at h;simp only at h;by_cases hv : q.2.ver < x.ver
     ·rw [if_pos hv] at h;simp only [Option.some.injEq] at h;subst h;exact ⟨by simp, hx, hP⟩
     ·rw [if_neg hv] at h;simp only [Option.some.injEq] at h;subst h;obtain ⟨h1, h2⟩ := ih q hg;exact ⟨by omega, h2⟩
   ·rw [if_neg hP] at h;obtain ⟨h1, h2⟩ := ih p h;exact ⟨by omega, h2⟩
theorem Zkj (l : List Rec) (hv : ∀ r ∈ l, 1 ≤ r.ver) : ∀ k, k ≤ l.length → X9 (l.take k) = (match gr (fun _ => true) l k with | none => 1 | some p => p.2.ver + 1)
 | 0, _ => by rw [List.take_zero]; rfl
 | k + 1, h => by
  have ih := Zkj l hv k (by omega);have hk : k < l.length := by omega
  have h1 := hv l[k] (List.getElem_mem hk);rw [Zmh l k hk, ih, Zoe _ hk];unfold Zak;rw [if_pos rfl];cases gr (fun _ => true) l k with
  | none => simp only; rw [if_pos h1]
  | some p =>
   simp only;by_cases hlt : p.2.ver < l[k].ver
   ·rw [if_pos hlt, if_pos (by omega)]
   ·rw [if_neg hlt, if_neg (by omega)]
theorem Zp6 (K : Nat) (caps : Array Value) (P : Rec → Bool) (S : Nat → Prop) (l : List Rec) (v : Value) (w : World) (hK : ∀ (args : Array Value) (w : World), (callFunc K args).run Tryz.prog w = .ok (.enter K args) w) (hl : Y4 S w v l) (hn : l.length ≤ 1000000)
  (hc : ∀ (x : Rec) (a : Option Addr) (c : Nat) (w' : World), x ∈ l → Zl w w' → Calls Tryz.prog K (#[.agg #[.int .i64 x.kind, .int .i64 x.key, .int .i64 x.ver, .slice a x.data.length c]] ++ caps) w' fun e w2 => e = .returned (.bool (P x)) ∧ Zl w' w2) :
  Calls Tryz.prog 166 #[v, .func (.func K) #[] caps] w fun e w' => e = .returned (.int .i64 (Zgl (gr P l l.length))) ∧ Zl w w' := by
 obtain ⟨ao, cp, rfl⟩ := hl.form;obtain ⟨R, hR⟩ : ∃ R, R = Zgl (gr P l l.length) := ⟨_, rfl⟩;rw [← hR];have HR : Hid _ := hR;clear hR;go_enter Tryz.func166, Tryz.ntmps166;go_wp2_with fail;go_loopw [5, 10] (fun o i wr => ∃ (k : Nat) (A : Int), k ≤ l.length ∧ i = .int .i64 k ∧ o = .int .i64 A ∧ Hid (A = Zgl (gr P l k)) ∧ Zl w wr) (fun _ i _ => l.length - (intOf i).toNat)
 case atStart => exact ⟨0, -1, Nat.zero_le _, rfl, rfl, (by show _ = _; rfl), Zl.refl _⟩
 case round =>
  obtain ⟨k, A, hk, rfl, rfl, HA, hg0⟩ := hrel;by_cases hlt : k < l.length
  ·obtain ⟨b, off, a1, c1, hv1, q0, q1, q2, q3, hu⟩ := Jf (hl.grow hg0) k hlt;cases hv1;have HM : Hid (l[k] ∈ l) := List.getElem_mem hlt;have HG : Hid (gr P l (k + 1) = Zak P (gr P l k) k l[k]) := Zoe P hlt;have HC : Hid (∀ p, gr P l k = some p → p.1 < k ∧ wr.cell? ⟨b, off + p.1 * 4 + 2, none⟩ = some (.int .i64 p.2.ver)) := by
    intro p hp;obtain ⟨m1, m2, -⟩ := Zm1 P l k p hp;obtain ⟨b', off', a', c', e1, -, -, e4, -, -⟩ := Jf (hl.grow hg0) p.1 (by omega);cases e1;obtain ⟨hm, e5⟩ := List.getElem?_eq_some_iff.1 m2;rw [e5] at e4;exact ⟨m1, e4⟩
   clear hu;generalize l[k] = x at *;generalize gr P l k = G at *;have g1 := Zb wr (.cells #[.int .i64 x.kind, .int .i64 x.key, .int .i64 x.ver, .slice a1 x.data.length c1] 61);have hX1 := Zk wr #[.int .i64 x.kind, .int .i64 x.key, .int .i64 x.ver, .slice a1 x.data.length c1] 61;have gw1 := hg0.trans g1;obtain ⟨gx, hgx⟩ : ∃ gx, gx = wr.heap.size := ⟨_, rfl⟩;have hlk : k < l.length := hlt;cases hP : P x with
   | false =>
    have HF : Hid (P x = false) := hP;have HG2 : Hid (A = Zgl (gr P l (k + 1))) := by show _ = _; rw [HA.out, HG.out]; unfold Zak; rw [hP, if_neg (by simp)]
    clear HG HA HC hP;go_wp2_with fail;generalize World.alloc wr _ = W at *;rw [← hgx] at *;clear hgx g1 hg0 q0 q1 q2 q3;refine Z9 [ex (.func (.func K) #[] caps), ex (.agg #[.int .i64 x.kind, .int .i64 x.key, .int .i64 x.ver, .slice a1 x.data.length c1]), ex (.bool false), ex (.bool false), ex (undef), ex (undef), ex (undef), ex (undef), ex (undef), ex (undef), ex (undef), ex (undef), ex (undef), ex (undef), ex (undef), ex (undef), ex (.bool false)] (by kernel_rfl) (by kernel_rfl) ⟨Zj _, Zj _, Zj _, Zj _, Zj _, Zj _, Zj _, Zj _, Zj _, Zj _, Zj _, Zj _, Zj _, Zj _, Zj _, Zj _, Zj _, trivial⟩ ?_ ?_
    ·refine ⟨?_, ?_, ?_, ?_, ?_, ?_, ?_, ?_, ?_, ?_, ?_, ?_, ?_, ?_, ?_, ?_, ?_, trivial⟩
     ·exact Ze rfl fun a _ _ _ _ A => Zw rfl (Zy A 1 rfl)
     ·refine Ze rfl fun a _ _ _ B A => ?_;have e7 : a (.tmp 7) = .pointer (some ⟨gx, 0, none⟩) := Zy A 7 rfl;have hh := (B.block _ (Za hX1)).trans hX1;obtain ⟨z0, z1, z2, z3⟩ := Yk hh rfl rfl rfl rfl;refine Zn ?_ rfl;clear A B hh;go_simp;all_goals go_arith
     ·refine Ze rfl fun a B _ _ C A => ?_;have e15 : a (.tmp 15) = _ := Zg A 0 rfl;have e16 : a (.tmp 16) = _ := Zg A 1 rfl;refine Y0 (f := K) ?_ ((hc x a1 c1 B HM.out (gw1.trans C)).mono ?_)
      ·clear A C;go_simp;all_goals go_arith
      ·rw [HF.out];rintro e w2 ⟨rfl, g2⟩;exact ⟨_, rfl, g2, rfl⟩
     ·exact Ze rfl fun a _ _ _ _ A => Zw rfl (Zg A 2 rfl)
     ·refine Zv 3 true rfl rfl rfl (fun _ => rfl)
     ·refine Zv 3 true rfl rfl rfl (fun _ => rfl)
     ·refine Zv 3 true rfl rfl rfl (fun _ => rfl)
     ·refine Qx 6 false rfl rfl rfl (fun _ => rfl)
     ·refine Qx 6 false rfl rfl rfl (fun _ => rfl)
     ·refine Qx 6 false rfl rfl rfl (fun _ => rfl)
     ·refine Qx 6 false rfl rfl rfl (fun _ => rfl)
     ·refine Qx 6 false rfl rfl rfl (fun _ => rfl)
     ·refine Qx 6 false rfl rfl rfl (fun _ => rfl)
     ·refine Qx 6 false rfl rfl rfl (fun _ => rfl)
     ·refine Qx 6 false rfl rfl rfl (fun _ => rfl)
     ·refine Zv 3 true rfl rfl rfl (fun _ => rfl)
     ·refine Ze rfl fun a _ B _ _ A => ?_;have ec : a (.tmp 18) = _ := Zg A 3 rfl;exact Xj rfl ec (B _)
    ·intro vs w' hg ht;obtain ⟨q15, q16, q17, q18, q19, q20, q21, q22, q23, q24, q25, q26, q27, q28, q29, q30, q31, -⟩ := ht;have r15 : vs 0 = _ := q15;have r16 : vs 1 = _ := q16;have r17 : vs 2 = _ := q17;have r18 : vs 3 = _ := q18;have r19 : vs 4 = _ := q19;have r20 : vs 5 = _ := q20;have r21 : vs 6 = _ := q21;have r22 : vs 7 = _ := q22;have r23 : vs 8 = _ := q23;have r24 : vs 9 = _ := q24;have r25 : vs 10 = _ := q25;have r26 : vs 11 = _ := q26;have r27 : vs 12 = _ := q27;have r28 : vs 13 = _ := q28;have r29 : vs 14 = _ := q29;have r30 : vs 15 = _ := q30;have r31 : vs 16 = _ := q31;clear q15 q16 q17 q18 q19 q20 q21 q22 q23 q24 q25 q26 q27 q28 q29 q30 q31;simp only [Ye, Act.put, List.setIfInBounds_toArray, List.set_cons_zero, List.set_cons_succ, r15, r16, r17, r18, r19, r20, r21, r22, r23, r24, r25, r26, r27, r28, r29, r30, r31];clear r15 r16 r17 r18 r19 r20 r21 r22 r23 r24 r25 r26 r27 r28 r29 r30 r31;have gE := gw1.trans hg;clear hg gw1 hX1;go_wp2_with fail;go_roundw
     case rel => exact ⟨k + 1, A, by omega, by go_num, rfl, HG2, gE⟩
     case measure => simp [intOf]; omega
   | true =>
    have HF : Hid (P x = true) := hP;cases G with
    | none =>
     have HG2 : Hid ((k : Int) = Zgl (gr P l (k + 1))) := by show _ = _; rw [HG.out]; unfold Zak; rw [hP, if_pos rfl]; rfl
     obtain rfl : A = -1 := HA.out;clear HG HA HC hP;go_wp2_with fail;generalize World.alloc wr _ = W at *;rw [← hgx] at *;clear hgx g1 hg0 q0 q1 q2 q3;refine Z9 [ex (.func (.func K) #[] caps), ex (.agg #[.int .i64 x.kind, .int .i64 x.key, .int .i64 x.ver, .slice a1 x.data.length c1]), ex (.bool true), ex (.bool true), ex (.int .i64 (-1)), ex (.bool true), ex (.bool true), ex (undef), ex (undef), ex (undef), ex (undef), ex (undef), ex (undef), ex (undef), ex (undef), ex (.bool true), ex (.bool true)] (by kernel_rfl) (by kernel_rfl) ⟨Zj _, Zj _, Zj _, Zj _, Zj _, Zj _, Zj _, Zj _, Zj _, Zj _, Zj _, Zj _, Zj _, Zj _, Zj _, Zj _, Zj _, trivial⟩ ?_ ?_
     ·refine ⟨?_, ?_, ?_, ?_, ?_, ?_, ?_, ?_, ?_, ?_, ?_, ?_, ?_, ?_, ?_, ?_, ?_, trivial⟩
      ·exact Ze rfl fun a _ _ _ _ A => Zw rfl (Zy A 1 rfl)
      ·refine Ze rfl fun a _ _ _ B A => ?_;have e7 : a (.tmp 7) = .pointer (some ⟨gx, 0, none⟩) := Zy A 7 rfl;have hh := (B.block _ (Za hX1)).trans hX1;obtain ⟨z0, z1, z2, z3⟩ := Yk hh rfl rfl rfl rfl;refine Zn ?_ rfl;clear A B hh;go_simp;all_goals go_arith
      ·refine Ze rfl fun a B _ _ C A => ?_;have e15 : a (.tmp 15) = _ := Zg A 0 rfl;have e16 : a (.tmp 16) = _ := Zg A 1 rfl;refine Y0 (f := K) ?_ ((hc x a1 c1 B HM.out (gw1.trans C)).mono ?_)
       ·clear A C;go_simp;all_goals go_arith
       ·rw [HF.out];rintro e w2 ⟨rfl, g2⟩;exact ⟨_, rfl, g2, rfl⟩
      ·exact Ze rfl fun a _ _ _ _ A => Zw rfl (Zg A 2 rfl)
      ·exact Zr 3 true rfl rfl rfl fun a _ _ _ _ A => Zw rfl (Zy A 5 rfl)
      ·refine Zr 3 true rfl rfl rfl fun a _ _ _ B A => ?_;have e19 : a (.tmp 19) = _ := Zg A 4 rfl;refine Zn ?_ rfl;clear A B;go_simp;all_goals go_arith
      ·exact Zr 3 true rfl rfl rfl fun a _ _ _ _ A => Zw rfl (Zg A 5 rfl)
      ·refine Zv 6 false rfl rfl rfl (fun _ => rfl)
      ·refine Zv 6 false rfl rfl rfl (fun _ => rfl)
      ·refine Zv 6 false rfl rfl rfl (fun _ => rfl)
      ·refine Zv 6 false rfl rfl rfl (fun _ => rfl)
      ·refine Zv 6 false rfl rfl rfl (fun _ => rfl)
      ·refine Zv 6 false rfl rfl rfl (fun _ => rfl)
      ·refine Zv 6 false rfl rfl rfl (fun _ => rfl)
      ·refine Zv 6 false rfl rfl rfl (fun _ => rfl)
      ·refine Zr 3 true rfl rfl rfl fun a _ B _ _ A => ?_;have ec : a (.tmp 21) = _ := Zg A 6 rfl;exact Xj rfl ec (B _)
      ·refine Ze rfl fun a _ _ _ _ A => ?_;have ec : a (.tmp 18) = _ := Zg A 3 rfl;have e : a (.tmp 30) = _ := Zg A 15 rfl;exact Xj rfl ec e
     ·intro vs w' hg ht;obtain ⟨q15, q16, q17, q18, q19, q20, q21, q22, q23, q24, q25, q26, q27, q28, q29, q30, q31, -⟩ := ht;have r15 : vs 0 = _ := q15;have r16 : vs 1 = _ := q16;have r17 : vs 2 = _ := q17;have r18 : vs 3 = _ := q18;have r19 : vs 4 = _ := q19;have r20 : vs 5 = _ := q20;have r21 : vs 6 = _ := q21;have r22 : vs 7 = _ := q22;have r23 : vs 8 = _ := q23;have r24 : vs 9 = _ := q24;have r25 : vs 10 = _ := q25;have r26 : vs 11 = _ := q26;have r27 : vs 12 = _ := q27;have r28 : vs 13 = _ := q28;have r29 : vs 14 = _ := q29;have r30 : vs 15 = _ := q30;have r31 : vs 16 = _ := q31;clear q15 q16 q17 q18 q19 q20 q21 q22 q23 q24 q25 q26 q27 q28 q29 q30 q31;simp only [Ye, Act.put, List.setIfInBounds_toArray, List.set_cons_zero, List.set_cons_succ, r15, r16, r17, r18, r19, r20, r21, r22, r23, r24, r25, r26, r27, r28, r29, r30, r31];clear r15 r16 r17 r18 r19 r20 r21 r22 r23 r24 r25 r26 r27 r28 r29 r30 r31;have gE := gw1.trans hg;clear hg gw1 hX1;go_wp2_with fail;go_roundw
      case rel => exact ⟨k + 1, k, by omega, by go_num, rfl, HG2, gE⟩
      case measure => simp [intOf]; omega
    | some p =>
     obtain ⟨i, y⟩ := p;obtain ⟨m1, m2⟩ := HC.out (i, y) rfl;have HG1 : Hid (gr P l (k + 1) = if y.ver < x.ver then some (k, x) else some (i, y)) := by show _ = _; rw [HG.out]; unfold Zak; rw [hP, if_pos rfl]
     obtain rfl : A = (i : Int) := HA.out;have hcp := (Below.cell g1 (Zs m2)).trans m2;have HA1 : Hid ((i : Int) = Zgl (some (i, y))) := HA.out;simp only at m1 hcp;clear HG HA HC hP m2;go_wp2_with fail;generalize World.alloc wr _ = W at *;rw [← hgx] at *;clear hgx g1 hg0 q0 q1 q2 q3;refine Z9 [ex (.func (.func K) #[] caps), ex (.agg #[.int .i64 x.kind, .int .i64 x.key, .int .i64 x.ver, .slice a1 x.data.length c1]), ex (.bool true), ex (.bool true), ex (.int .i64 (i : Int)), ex (.bool false), ex (.bool false), ex (.pointer (some ⟨gx, 2, none⟩)), ex (.int .i64 x.ver), ex (.slice (some ⟨b, off, none⟩) l.length cp), ex (.int .i64 (i : Int)), ex (.pointer (some ⟨b, off + i * 4, none⟩)), ex (.pointer (some ⟨b, off + i * 4 + 2, none⟩)), ex (.int .i64 y.ver), ex (.bool (decide (y.ver < x.ver))), ex (.bool (decide (y.ver < x.ver))), ex (.bool (decide (y.ver < x.ver)))] (by kernel_rfl) (by kernel_rfl) ⟨Zj _, Zj _, Zj _, Zj _, Zj _, Zj _, Zj _, Zj _, Zj _, Zj _, Zj _, Zj _, Zj _, Zj _, Zj _, Zj _, Zj _, trivial⟩ ?_ ?_
     ·refine ⟨?_, ?_, ?_, ?_, ?_, ?_, ?_, ?_, ?_, ?_, ?_, ?_, ?_, ?_, ?_, ?_, ?_, trivial⟩
      ·exact Ze rfl fun a _ _ _ _ A => Zw rfl (Zy A 1 rfl)
      ·refine Ze rfl fun a _ _ _ B A => ?_;have e7 : a (.tmp 7) = .pointer (some ⟨gx, 0, none⟩) := Zy A 7 rfl;have hh := (B.block _ (Za hX1)).trans hX1;obtain ⟨z0, z1, z2, z3⟩ := Yk hh rfl rfl rfl rfl;refine Zn ?_ rfl;clear A B hh;go_simp;all_goals go_arith
      ·refine Ze rfl fun a B _ _ C A => ?_;have e15 : a (.tmp 15) = _ := Zg A 0 rfl;have e16 : a (.tmp 16) = _ := Zg A 1 rfl;refine Y0 (f := K) ?_ ((hc x a1 c1 B HM.out (gw1.trans C)).mono ?_)
       ·clear A C;go_simp;all_goals go_arith
       ·rw [HF.out];rintro e w2 ⟨rfl, g2⟩;exact ⟨_, rfl, g2, rfl⟩
      ·exact Ze rfl fun a _ _ _ _ A => Zw rfl (Zg A 2 rfl)
      ·exact Zr 3 true rfl rfl rfl fun a _ _ _ _ A => Zw rfl (Zy A 5 rfl)
      ·refine Zr 3 true rfl rfl rfl fun a _ _ _ B A => ?_;have e19 : a (.tmp 19) = _ := Zg A 4 rfl;refine Zn ?_ rfl;clear A B;go_simp;all_goals go_arith
      ·exact Zr 3 true rfl rfl rfl fun a _ _ _ _ A => Zw rfl (Zg A 5 rfl)
      ·refine Zr 6 false rfl rfl rfl fun a _ _ _ B A => ?_;have e7 : a (.tmp 7) = .pointer (some ⟨gx, 0, none⟩) := Zy A 7 rfl;refine Zn ?_ rfl;clear A B;go_simp;all_goals go_arith
      ·refine Zr 6 false rfl rfl rfl fun a _ _ _ B A => ?_;have e22 : a (.tmp 22) = _ := Zg A 7 rfl;have z2 := Zc ((B.block _ (Za hX1)).trans hX1) 2 _ rfl;refine Zn ?_ rfl;clear A B;go_simp;all_goals go_arith
      ·exact Zr 6 false rfl rfl rfl fun a _ _ _ _ A => Zw rfl (Zy A 0 rfl)
      ·exact Zr 6 false rfl rfl rfl fun a _ _ _ _ A => Zw rfl (Zy A 5 rfl)
      ·refine Zr 6 false rfl rfl rfl fun a _ _ _ B A => ?_;have e24 : a (.tmp 24) = _ := Zg A 9 rfl;have e25 : a (.tmp 25) = _ := Zg A 10 rfl;refine Zn ?_ rfl;clear A B;go_simp;all_goals go_arith
      ·refine Zr 6 false rfl rfl rfl fun a _ _ _ B A => ?_;have e26 : a (.tmp 26) = _ := Zg A 11 rfl;refine Zn ?_ rfl;clear A B;go_simp;all_goals go_arith
      ·refine Zr 6 false rfl rfl rfl fun a _ _ _ B A => ?_;have e27 : a (.tmp 27) = _ := Zg A 12 rfl;have z2 := (Below.cell B (Zs hcp)).trans hcp;refine Zn ?_ rfl;clear A B;go_simp;all_goals go_arith
      ·refine Zr 6 false rfl rfl rfl fun a _ _ _ B A => ?_;have e23 : a (.tmp 23) = _ := Zg A 8 rfl;have e28 : a (.tmp 28) = _ := Zg A 13 rfl;refine Zn ?_ rfl;clear A B;go_simp;all_goals go_arith
      ·refine Zr 3 true rfl rfl rfl fun a _ _ _ _ A => ?_;have ec : a (.tmp 21) = _ := Zg A 6 rfl;have e : a (.tmp 29) = _ := Zg A 14 rfl;exact Xj rfl ec e
      ·refine Ze rfl fun a _ _ _ _ A => ?_;have ec : a (.tmp 18) = _ := Zg A 3 rfl;have e : a (.tmp 30) = _ := Zg A 15 rfl;exact Xj rfl ec e
     ·intro vs w' hg ht;obtain ⟨q15, q16, q17, q18, q19, q20, q21, q22, q23, q24, q25, q26, q27, q28, q29, q30, q31, -⟩ := ht;have r15 : vs 0 = _ := q15;have r16 : vs 1 = _ := q16;have r17 : vs 2 = _ := q17;have r18 : vs 3 = _ := q18;have r19 : vs 4 = _ := q19;have r20 : vs 5 = _ := q20;have r21 : vs 6 = _ := q21;have r22 : vs 7 = _ := q22;have r23 : vs 8 = _ := q23;have r24 : vs 9 = _ := q24;have r25 : vs 10 = _ := q25;have r26 : vs 11 = _ := q26;have r27 : vs 12 = _ := q27;have r28 : vs 13 = _ := q28;have r29 : vs 14 = _ := q29;have r30 : vs 15 = _ := q30;have r31 : vs 16 = _ := q31;clear q15 q16 q17 q18 q19 q20 q21 q22 q23 q24 q25 q26 q27 q28 q29 q30 q31;simp only [Ye, Act.put, List.setIfInBounds_toArray, List.set_cons_zero, List.set_cons_succ, r15, r16, r17, r18, r19, r20, r21, r22, r23, r24, r25, r26, r27, r28, r29, r30, r31];clear r15 r16 r17 r18 r19 r20 r21 r22 r23 r24 r25 r26 r27 r28 r29 r30 r31;have gE := gw1.trans hg;clear hg gw1 hX1 hcp;by_cases hv : y.ver < x.ver
      ·have HG2 : Hid ((k : Int) = Zgl (gr P l (k + 1))) := by show _ = _; rw [HG1.out, if_pos hv]; rfl
       rw [decide_eq_true hv];clear hv HG1 HA1;go_wp2_with fail;go_roundw
       case rel => exact ⟨k + 1, k, by omega, by go_num, rfl, HG2, gE⟩
       case measure => simp [intOf]; omega
      ·have HG2 : Hid ((i : Int) = Zgl (gr P l (k + 1))) := by show _ = _; rw [HG1.out, if_neg hv]; rfl
       rw [decide_eq_false hv];clear hv HG1 HA1;go_wp2_with fail;go_roundw
       case rel => exact ⟨k + 1, i, by omega, by go_num, rfl, HG2, gE⟩
       case measure => simp [intOf]; omega
  ·have hAR : A = R := by rw [HA.out, HR.out, show k = l.length from by omega]
   subst hAR;clear HA HR;go_wp2_with fail;go_ret;exact ⟨rfl, hg0⟩
theorem Zih (args : Array Value) (w : World) : (callFunc 167 args).run Tryz.prog w = .ok (.enter 167 args) w := by
 simp [callFunc, Tryz.func167, Tryz.f167, mark]
theorem Zpk (x : Rec) (a : Option Addr) (c : Nat) (w : World) : Calls Tryz.prog 167 #[.agg #[.int .i64 x.kind, .int .i64 x.key, .int .i64 x.ver, .slice a x.data.length c]] w fun e w' => e = .returned (.bool true) ∧ Zl w w' := by
 have g0 := Zb w (.cells #[.int .i64 x.kind, .int .i64 x.key, .int .i64 x.ver, .slice a x.data.length c] 61);go_enter Tryz.func167, Tryz.ntmps167;go_wp2_with fail;go_ret;exact ⟨rfl, g0⟩
theorem Vr (h : Qp l = true) : l.length ≤ 40 ∧ ∀ r ∈ l, 1 ≤ r.ver ∧ r.ver ≤ 60000 ∧ r.data.length ≤ 8 := by
 obtain ⟨h1, h2⟩ := (Zcc l).1 h;refine ⟨h2, fun r hr => ?_⟩;obtain ⟨h3, h4⟩ := h1 r hr;obtain ⟨k, y, n, d⟩ := r;simp only at h4;have hk : ¬ (k < 1 ∨ 3 < k) := fun hk => by rw [Zgv _ _ _ _ hk] at h3; cases h3
 cases hR : Xc ⟨k, y, n, d⟩ with
 | false => rw [Ja _ _ _ _ hk hR] at h3; cases h3
 | true =>
  have hR2 := hR;rw [Xx _ _ _ _ h4, decide_eq_true_eq] at hR2;by_cases hm : Xa k < (d.length : Int)
  ·rw [Zae _ _ _ _ hk hR hm] at h3; cases h3
  ·have : Xa k ≤ 8 := by unfold Xa; split <;> omega
   exact ⟨hR2.2.2.1, hR2.2.2.2, by show d.length ≤ 8; omega⟩
theorem Zwx : Zxd := by
 intro S l v w hr hl;obtain ⟨hn, hb⟩ := Vr hr;have HE : Hid _ := Zkj l (fun r h => (hb r h).1) l.length (Nat.le_refl _);obtain ⟨ao, cp, rfl⟩ := hl.form;obtain ⟨R, hR⟩ : ∃ R, R = X9 l := ⟨_, rfl⟩;rw [← hR];have HR : Hid _ := hR;have HB : Hid _ := hb;clear hR hb hr;go_enter Tryz.func134, Tryz.ntmps134;go_wp2_with fail;refine (Zp6 167 #[] (fun _ => true) S l _ w Zih hl (by omega) (fun x a c w' _ _ => by rw [Array.append_empty]; exact Zpk x a c w')).mono ?_;rintro e w1 ⟨rfl, g1⟩;have HM : Hid _ := Zm1 (fun _ => true) l l.length;have HE2 : Hid (R = match gr (fun _ => true) l l.length with | none => 1 | some p => p.2.ver + 1) := by
  show R = _;rw [HR.out, ← HE.out, List.take_length]
 clear HE HR;generalize gr (fun _ => true) l l.length = G at *;cases G with
 | none =>
  obtain rfl : R = 1 := HE2.out;simp only [Zgl];go_wp2_with fail;go_ret;exact ⟨rfl, g1⟩
 | some p =>
  obtain ⟨i, y⟩ := p;obtain ⟨m1, m2, -⟩ := HM.out (i, y) rfl;obtain rfl : R = y.ver + 1 := HE2.out;simp only at m1 m2;obtain ⟨b, off, a1, c1, hv1, -, -, q2, -, -⟩ := Jf (hl.grow g1) i m1;cases hv1;have e5 := (List.getElem?_eq_some_iff.1 m2).2;rw [e5] at q2;have hbd := HB.out y (by rw [← e5]; exact List.getElem_mem m1);clear m2 e5 HB HM HE2;simp only [Zgl];go_wp2_with fail;go_ret;exact ⟨rfl, g1⟩
end Go.Proofs.YtpdnapbchcdhlacGreat
