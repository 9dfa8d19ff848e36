import Derived.Test.YtpdnapbchcdhlacGreatMdlS
set_option maxHeartbeats 8000000
namespace Go.Proofs.YtpdnapbchcdhlacGreat
set_option maxRecDepth 100000
open Go.RowKit
open Plain Reg
variable {l : List Rec}
def Zbk (P : Rec → Bool) (g : Option (Nat × Rec)) (k : Nat) (x : Rec) : Option (Nat × Rec) :=
 if P x = true then (match g with | none => some (k, x) | some p => if p.2.ver < x.ver then some (k, x) else some p) else g
def gr (P : Rec → Bool) (l : List Rec) : Nat → Option (Nat × Rec)
 | 0 => none
 | k + 1 => match l[k]? with | some x => Zbk P (gr P l k) k x | none => gr P l k
def Zhz : Option (Nat × Rec) → Int
 | none => -1
 | some p => (p.1 : Int)
theorem Zqc (P : Rec → Bool) {k : Nat} (h : k < l.length) : gr P l (k + 1) = Zbk P (gr P l k) k l[k] := by
 show (match l[k]? with | some x => Zbk P (gr P l k) k x | none => gr P l k) = _;rw [List.getElem?_eq_getElem h]
theorem Zov (P : Rec → Bool) (l : List Rec) : ∀ (k : Nat) (p : Nat × Rec), gr P l k = some p → p.1 < k ∧ l[p.1]? = some p.2 ∧ P p.2 = true
 | 0, p, h => by cases h
 | k + 1, p, h => by
  have ih := Zov P l k;unfold gr at h;cases hx : l[k]? with
  | none =>
   rw [hx] at h;obtain ⟨h1, h2⟩ := ih p h;exact ⟨by omega, h2⟩
  | some x =>
   rw [hx] at h;simp only [Zbk] at h;by_cases hP : P x = true
   ·rw [if_pos hP] at h;cases hg : gr P l k with
    | none =>
     rw [hg] at h;simp only [Option.some.injEq] at h;subst h;exact ⟨by simp, hx, hP⟩
    | some q =>
     rw [hg] at h;simp only at h;by_cases hv : q.2.ver < x.ver
     ·rw [if_pos hv] at h;simp only [Option.some.injEq] at h;subst h;exact ⟨by simp, hx, hP⟩
     ·rw [if_neg hv] at h;simp only [Option.some.injEq] at h;subst h;obtain ⟨h1, h2⟩ := ih q hg;exact ⟨by omega, h2⟩
   ·rw [if_neg hP] at h;obtain ⟨h1, h2⟩ := ih p h;exact ⟨by omega, h2⟩
theorem Zl9 (l : List Rec) (hv : ∀ r ∈ l, 1 ≤ r.ver) : ∀ k, k ≤ l.length → Xt (l.take k) = (match gr (fun _ => true) l k with | none => 1 | some p => p.2.ver + 1)
 | 0, _ => by rw [List.take_zero]; rfl
 | k + 1, h => by
  have ih := Zl9 l hv k (by omega);have hk : k < l.length := by omega
  have h1 := hv l[k] (List.getElem_mem hk);rw [Zgp l k hk, ih, Zqc _ hk];unfold Zbk;rw [if_pos rfl];cases gr (fun _ => true) l k with
  | none => simp only; rw [if_pos h1]
  | some p =>
   simp only;by_cases hlt : p.2.ver < l[k].ver
   ·rw [if_pos hlt, if_pos (by omega)]
   ·rw [if_neg hlt, if_neg (by omega)]
theorem Zr9 (K : Nat) (caps : Array Value) (P : Rec → Bool) (S : Nat → Prop) (l : List Rec) (v : Value) (w : World) (hK : ∀ (args : Array Value) (w : World), (callFunc K args).run Tryz.prog w = .ok (.enter K args) w) (hl : Y2 S w v l) (hn : l.length ≤ 1000000)
  (hc : ∀ (x : Rec) (a : Option Addr) (c : Nat) (w' : World), x ∈ l → Zn w w' → Calls Tryz.prog K (#[.agg #[.int .i64 x.kind, .int .i64 x.key, .int .i64 x.ver, .slice a x.data.length c]] ++ caps) w' fun e w2 => e = .returned (.bool (P x)) ∧ Zn w' w2) :
  Calls Tryz.prog 166 #[v, .func (.func K) #[] caps] w fun e w' => e = .returned (.int .i64 (Zhz (gr P l l.length))) ∧ Zn w w' := by
 obtain ⟨ao, cp, rfl⟩ := hl.form;obtain ⟨R, hR⟩ : ∃ R, R = Zhz (gr P l l.length) := ⟨_, rfl⟩;rw [← hR];have HR : Hid _ := hR;clear hR;go_enter Tryz.func166, Tryz.ntmps166;go_wp2_with fail;go_loopw [5, 10] (fun o i wr => ∃ (k : Nat) (A : Int), k ≤ l.length ∧ i = .int .i64 k ∧ o = .int .i64 A ∧ Hid (A = Zhz (gr P l k)) ∧ Zn w wr) (fun _ i _ => l.length - (intOf i).toNat)
 case atStart => exact ⟨0, -1, Nat.zero_le _, rfl, rfl, (by show _ = _; rfl), Zn.refl _⟩
 case round =>
  obtain ⟨k, A, hk, rfl, rfl, HA, hg0⟩ := hrel;by_cases hlt : k < l.length
  ·obtain ⟨b, off, a1, c1, hv1, q0, q1, q2, q3, hu⟩ := Kv (hl.grow hg0) k hlt;cases hv1;have HM : Hid (l[k] ∈ l) := List.getElem_mem hlt;have HG : Hid (gr P l (k + 1) = Zbk P (gr P l k) k l[k]) := Zqc P hlt;have HC : Hid (∀ p, gr P l k = some p → p.1 < k ∧ wr.cell? ⟨b, off + p.1 * 4 + 2, none⟩ = some (.int .i64 p.2.ver)) := by
    intro p hp;obtain ⟨m1, m2, -⟩ := Zov P l k p hp;obtain ⟨b', off', a', c', e1, -, -, e4, -, -⟩ := Kv (hl.grow hg0) p.1 (by omega);cases e1;obtain ⟨hm, e5⟩ := List.getElem?_eq_some_iff.1 m2;rw [e5] at e4;exact ⟨m1, e4⟩
   clear hu;generalize l[k] = x at *;generalize gr P l k = G at *;have g1 := Zb wr (.cells #[.int .i64 x.kind, .int .i64 x.key, .int .i64 x.ver, .slice a1 x.data.length c1] 61);have hX1 := Zh wr #[.int .i64 x.kind, .int .i64 x.key, .int .i64 x.ver, .slice a1 x.data.length c1] 61;have gw1 := hg0.trans g1;obtain ⟨gx, hgx⟩ : ∃ gx, gx = wr.heap.size := ⟨_, rfl⟩;have hlk : k < l.length := hlt;cases hP : P x with
   | false =>
    have HF : Hid (P x = false) := hP;have HG2 : Hid (A = Zhz (gr P l (k + 1))) := by show _ = _; rw [HA.out, HG.out]; unfold Zbk; rw [hP, if_neg (by simp)]
    clear HG HA HC hP;go_wp2_with fail;generalize World.alloc wr _ = W at *;rw [← hgx] at *;clear hgx g1 hg0 q0 q1 q2 q3;refine Yb [ex (.func (.func K) #[] caps), ex (.agg #[.int .i64 x.kind, .int .i64 x.key, .int .i64 x.ver, .slice a1 x.data.length c1]), ex (.bool false), ex (.bool false), ex (undef), ex (undef), ex (undef), ex (undef), ex (undef), ex (undef), ex (undef), ex (undef), ex (undef), ex (undef), ex (undef), ex (undef), ex (.bool false)] (by kernel_rfl) (by kernel_rfl) ⟨Zj _, Zj _, Zj _, Zj _, Zj _, Zj _, Zj _, Zj _, Zj _, Zj _, Zj _, Zj _, Zj _, Zj _, Zj _, Zj _, Zj _, trivial⟩ ?_ ?_
    ·refine ⟨?_, ?_, ?_, ?_, ?_, ?_, ?_, ?_, ?_, ?_, ?_, ?_, ?_, ?_, ?_, ?_, ?_, trivial⟩
     ·exact Ze rfl fun a _ _ _ _ A => Zx rfl (Zy A 1 rfl)
     ·refine Ze rfl fun a _ _ _ B A => ?_;have e7 : a (.tmp 7) = .pointer (some ⟨gx, 0, none⟩) := Zy A 7 rfl;have hh := (B.block _ (Za hX1)).trans hX1;obtain ⟨z0, z1, z2, z3⟩ := Z7 hh rfl rfl rfl rfl;refine Zo ?_ rfl;clear A B hh;go_simp;all_goals go_arith
     ·refine Ze rfl fun a B _ _ C A => ?_;have e15 : a (.tmp 15) = _ := Zg A 0 rfl;have e16 : a (.tmp 16) = _ := Zg A 1 rfl;refine Yv (f := K) ?_ ((hc x a1 c1 B HM.out (gw1.trans C)).mono ?_)
      ·clear A C;go_simp;all_goals go_arith
      ·rw [HF.out];rintro e w2 ⟨rfl, g2⟩;exact ⟨_, rfl, g2, rfl⟩
     ·exact Ze rfl fun a _ _ _ _ A => Zx rfl (Zg A 2 rfl)
     ·refine Zz 3 true rfl rfl rfl (fun _ => rfl)
     ·refine Zz 3 true rfl rfl rfl (fun _ => rfl)
     ·refine Zz 3 true rfl rfl rfl (fun _ => rfl)
     ·refine Vg 6 false rfl rfl rfl (fun _ => rfl)
     ·refine Vg 6 false rfl rfl rfl (fun _ => rfl)
     ·refine Vg 6 false rfl rfl rfl (fun _ => rfl)
     ·refine Vg 6 false rfl rfl rfl (fun _ => rfl)
     ·refine Vg 6 false rfl rfl rfl (fun _ => rfl)
     ·refine Vg 6 false rfl rfl rfl (fun _ => rfl)
     ·refine Vg 6 false rfl rfl rfl (fun _ => rfl)
     ·refine Vg 6 false rfl rfl rfl (fun _ => rfl)
     ·refine Zz 3 true rfl rfl rfl (fun _ => rfl)
     ·refine Ze rfl fun a _ B _ _ A => ?_;have ec : a (.tmp 18) = _ := Zg A 3 rfl;exact Xb rfl ec (B _)
    ·intro vs w' hg ht;obtain ⟨(r15 : vs 0 = _), (r16 : vs 1 = _), (r17 : vs 2 = _), (r18 : vs 3 = _), (r19 : vs 4 = _), (r20 : vs 5 = _), (r21 : vs 6 = _), (r22 : vs 7 = _), (r23 : vs 8 = _), (r24 : vs 9 = _), (r25 : vs 10 = _), (r26 : vs 11 = _), (r27 : vs 12 = _), (r28 : vs 13 = _), (r29 : vs 14 = _), (r30 : vs 15 = _), (r31 : vs 16 = _), -⟩ := ht;simp only [Ye, Act.put, List.setIfInBounds_toArray, List.set_cons_zero, List.set_cons_succ, r15, r16, r17, r18, r19, r20, r21, r22, r23, r24, r25, r26, r27, r28, r29, r30, r31];clear r15 r16 r17 r18 r19 r20 r21 r22 r23 r24 r25 r26 r27 r28 r29 r30 r31;have gE := gw1.trans hg;clear hg gw1 hX1;go_wp2_with fail;go_roundw
     case rel => exact ⟨k + 1, A, by omega, by go_num, rfl, HG2, gE⟩
     case measure => simp [intOf]; omega
   | true =>
    have HF : Hid (P x = true) := hP;cases G with
    | none =>
     have HG2 : Hid ((k : Int) = Zhz (gr P l (k + 1))) := by show _ = _; rw [HG.out]; unfold Zbk; rw [hP, if_pos rfl]; rfl
     obtain rfl : A = -1 := HA.out;clear HG HA HC hP;go_wp2_with fail;generalize World.alloc wr _ = W at *;rw [← hgx] at *;clear hgx g1 hg0 q0 q1 q2 q3;refine Yb [ex (.func (.func K) #[] caps), ex (.agg #[.int .i64 x.kind, .int .i64 x.key, .int .i64 x.ver, .slice a1 x.data.length c1]), ex (.bool true), ex (.bool true), ex (.int .i64 (-1)), ex (.bool true), ex (.bool true), ex (undef), ex (undef), ex (undef), ex (undef), ex (undef), ex (undef), ex (undef), ex (undef), ex (.bool true), ex (.bool true)] (by kernel_rfl) (by kernel_rfl) ⟨Zj _, Zj _, Zj _, Zj _, Zj _, Zj _, Zj _, Zj _, Zj _, Zj _, Zj _, Zj _, Zj _, Zj _, Zj _, Zj _, Zj _, trivial⟩ ?_ ?_
     ·refine ⟨?_, ?_, ?_, ?_, ?_, ?_, ?_, ?_, ?_, ?_, ?_, ?_, ?_, ?_, ?_, ?_, ?_, trivial⟩
      ·exact Ze rfl fun a _ _ _ _ A => Zx rfl (Zy A 1 rfl)
      ·refine Ze rfl fun a _ _ _ B A => ?_;have e7 : a (.tmp 7) = .pointer (some ⟨gx, 0, none⟩) := Zy A 7 rfl;have hh := (B.block _ (Za hX1)).trans hX1;obtain ⟨z0, z1, z2, z3⟩ := Z7 hh rfl rfl rfl rfl;refine Zo ?_ rfl;clear A B hh;go_simp;all_goals go_arith
      ·refine Ze rfl fun a B _ _ C A => ?_;have e15 : a (.tmp 15) = _ := Zg A 0 rfl;have e16 : a (.tmp 16) = _ := Zg A 1 rfl;refine Yv (f := K) ?_ ((hc x a1 c1 B HM.out (gw1.trans C)).mono ?_)
       ·clear A C;go_simp;all_goals go_arith
       ·rw [HF.out];rintro e w2 ⟨rfl, g2⟩;exact ⟨_, rfl, g2, rfl⟩
      ·exact Ze rfl fun a _ _ _ _ A => Zx rfl (Zg A 2 rfl)
      ·exact Zw 3 true rfl rfl rfl fun a _ _ _ _ A => Zx rfl (Zy A 5 rfl)
      ·refine Zw 3 true rfl rfl rfl fun a _ _ _ B A => ?_;have e19 : a (.tmp 19) = _ := Zg A 4 rfl;refine Zo ?_ rfl;clear A B;go_simp;all_goals go_arith
      ·exact Zw 3 true rfl rfl rfl fun a _ _ _ _ A => Zx rfl (Zg A 5 rfl)
      ·refine Zz 6 false rfl rfl rfl (fun _ => rfl)
      ·refine Zz 6 false rfl rfl rfl (fun _ => rfl)
      ·refine Zz 6 false rfl rfl rfl (fun _ => rfl)
      ·refine Zz 6 false rfl rfl rfl (fun _ => rfl)
      ·refine Zz 6 false rfl rfl rfl (fun _ => rfl)
      ·refine Zz 6 false rfl rfl rfl (fun _ => rfl)
      ·refine Zz 6 false rfl rfl rfl (fun _ => rfl)
      ·refine Zz 6 false rfl rfl rfl (fun _ => rfl)
      ·refine Zw 3 true rfl rfl rfl fun a _ B _ _ A => ?_;have ec : a (.tmp 21) = _ := Zg A 6 rfl;exact Xb rfl ec (B _)
      ·refine Ze rfl fun a _ _ _ _ A => ?_;have ec : a (.tmp 18) = _ := Zg A 3 rfl;have e : a (.tmp 30) = _ := Zg A 15 rfl;exact Xb rfl ec e
     ·intro vs w' hg ht;obtain ⟨(r15 : vs 0 = _), (r16 : vs 1 = _), (r17 : vs 2 = _), (r18 : vs 3 = _), (r19 : vs 4 = _), (r20 : vs 5 = _), (r21 : vs 6 = _), (r22 : vs 7 = _), (r23 : vs 8 = _), (r24 : vs 9 = _), (r25 : vs 10 = _), (r26 : vs 11 = _), (r27 : vs 12 = _), (r28 : vs 13 = _), (r29 : vs 14 = _), (r30 : vs 15 = _), (r31 : vs 16 = _), -⟩ := ht;simp only [Ye, Act.put, List.setIfInBounds_toArray, List.set_cons_zero, List.set_cons_succ, r15, r16, r17, r18, r19, r20, r21, r22, r23, r24, r25, r26, r27, r28, r29, r30, r31];clear r15 r16 r17 r18 r19 r20 r21 r22 r23 r24 r25 r26 r27 r28 r29 r30 r31;have gE := gw1.trans hg;clear hg gw1 hX1;go_wp2_with fail;go_roundw
      case rel => exact ⟨k + 1, k, by omega, by go_num, rfl, HG2, gE⟩
      case measure => simp [intOf]; omega
    | some p =>
     obtain ⟨i, y⟩ := p;obtain ⟨m1, m2⟩ := HC.out (i, y) rfl;have HG1 : Hid (gr P l (k + 1) = if y.ver < x.ver then some (k, x) else some (i, y)) := by show _ = _; rw [HG.out]; unfold Zbk; rw [hP, if_pos rfl]
     obtain rfl : A = (i : Int) := HA.out;have hcp := (Below.cell g1 (Zv m2)).trans m2;have HA1 : Hid ((i : Int) = Zhz (some (i, y))) := HA.out;simp only at m1 hcp;clear HG HA HC hP m2;go_wp2_with fail;generalize World.alloc wr _ = W at *;rw [← hgx] at *;clear hgx g1 hg0 q0 q1 q2 q3;refine Yb [ex (.func (.func K) #[] caps), ex (.agg #[.int .i64 x.kind, .int .i64 x.key, .int .i64 x.ver, .slice a1 x.data.length c1]), ex (.bool true), ex (.bool true), ex (.int .i64 (i : Int)), ex (.bool false), ex (.bool false), ex (.pointer (some ⟨gx, 2, none⟩)), ex (.int .i64 x.ver), ex (.slice (some ⟨b, off, none⟩) l.length cp), ex (.int .i64 (i : Int)), ex (.pointer (some ⟨b, off + i * 4, none⟩)), ex (.pointer (some ⟨b, off + i * 4 + 2, none⟩)), ex (.int .i64 y.ver), ex (.bool (decide (y.ver < x.ver))), ex (.bool (decide (y.ver < x.ver))), ex (.bool (decide (y.ver < x.ver)))] (by kernel_rfl) (by kernel_rfl) ⟨Zj _, Zj _, Zj _, Zj _, Zj _, Zj _, Zj _, Zj _, Zj _, Zj _, Zj _, Zj _, Zj _, Zj _, Zj _, Zj _, Zj _, trivial⟩ ?_ ?_
     ·refine ⟨?_, ?_, ?_, ?_, ?_, ?_, ?_, ?_, ?_, ?_, ?_, ?_, ?_, ?_, ?_, ?_, ?_, trivial⟩
      ·exact Ze rfl fun a _ _ _ _ A => Zx rfl (Zy A 1 rfl)
      ·refine Ze rfl fun a _ _ _ B A => ?_;have e7 : a (.tmp 7) = .pointer (some ⟨gx, 0, none⟩) := Zy A 7 rfl;have hh := (B.block _ (Za hX1)).trans hX1;obtain ⟨z0, z1, z2, z3⟩ := Z7 hh rfl rfl rfl rfl;refine Zo ?_ rfl;clear A B hh;go_simp;all_goals go_arith
      ·refine Ze rfl fun a B _ _ C A => ?_;have e15 : a (.tmp 15) = _ := Zg A 0 rfl;have e16 : a (.tmp 16) = _ := Zg A 1 rfl;refine Yv (f := K) ?_ ((hc x a1 c1 B HM.out (gw1.trans C)).mono ?_)
       ·clear A C;go_simp;all_goals go_arith
       ·rw [HF.out];rintro e w2 ⟨rfl, g2⟩;exact ⟨_, rfl, g2, rfl⟩
      ·exact Ze rfl fun a _ _ _ _ A => Zx rfl (Zg A 2 rfl)
      ·exact Zw 3 true rfl rfl rfl fun a _ _ _ _ A => Zx rfl (Zy A 5 rfl)
      ·refine Zw 3 true rfl rfl rfl fun a _ _ _ B A => ?_;have e19 : a (.tmp 19) = _ := Zg A 4 rfl;refine Zo ?_ rfl;clear A B;go_simp;all_goals go_arith
      ·exact Zw 3 true rfl rfl rfl fun a _ _ _ _ A => Zx rfl (Zg A 5 rfl)
      ·refine Zw 6 false rfl rfl rfl fun a _ _ _ B A => ?_;have e7 : a (.tmp 7) = .pointer (some ⟨gx, 0, none⟩) := Zy A 7 rfl;refine Zo ?_ rfl;clear A B;go_simp;all_goals go_arith
      ·refine Zw 6 false rfl rfl rfl fun a _ _ _ B A => ?_;have e22 : a (.tmp 22) = _ := Zg A 7 rfl;have z2 := Zc ((B.block _ (Za hX1)).trans hX1) 2 _ rfl;refine Zo ?_ rfl;clear A B;go_simp;all_goals go_arith
      ·exact Zw 6 false rfl rfl rfl fun a _ _ _ _ A => Zx rfl (Zy A 0 rfl)
      ·exact Zw 6 false rfl rfl rfl fun a _ _ _ _ A => Zx rfl (Zy A 5 rfl)
      ·refine Zw 6 false rfl rfl rfl fun a _ _ _ B A => ?_;have e24 : a (.tmp 24) = _ := Zg A 9 rfl;have e25 : a (.tmp 25) = _ := Zg A 10 rfl;refine Zo ?_ rfl;clear A B;go_simp;all_goals go_arith
      ·refine Zw 6 false rfl rfl rfl fun a _ _ _ B A => ?_;have e26 : a (.tmp 26) = _ := Zg A 11 rfl;refine Zo ?_ rfl;clear A B;go_simp;all_goals go_arith
      ·refine Zw 6 false rfl rfl rfl fun a _ _ _ B A => ?_;have e27 : a (.tmp 27) = _ := Zg A 12 rfl;have z2 := (Below.cell B (Zv hcp)).trans hcp;refine Zo ?_ rfl;clear A B;go_simp;all_goals go_arith
      ·refine Zw 6 false rfl rfl rfl fun a _ _ _ B A => ?_;have e23 : a (.tmp 23) = _ := Zg A 8 rfl;have e28 : a (.tmp 28) = _ := Zg A 13 rfl;refine Zo ?_ rfl;clear A B;go_simp;all_goals go_arith
      ·refine Zw 3 true rfl rfl rfl fun a _ _ _ _ A => ?_;have ec : a (.tmp 21) = _ := Zg A 6 rfl;have e : a (.tmp 29) = _ := Zg A 14 rfl;exact Xb rfl ec e
      ·refine Ze rfl fun a _ _ _ _ A => ?_;have ec : a (.tmp 18) = _ := Zg A 3 rfl;have e : a (.tmp 30) = _ := Zg A 15 rfl;exact Xb rfl ec e
     ·intro vs w' hg ht;obtain ⟨(r15 : vs 0 = _), (r16 : vs 1 = _), (r17 : vs 2 = _), (r18 : vs 3 = _), (r19 : vs 4 = _), (r20 : vs 5 = _), (r21 : vs 6 = _), (r22 : vs 7 = _), (r23 : vs 8 = _), (r24 : vs 9 = _), (r25 : vs 10 = _), (r26 : vs 11 = _), (r27 : vs 12 = _), (r28 : vs 13 = _), (r29 : vs 14 = _), (r30 : vs 15 = _), (r31 : vs 16 = _), -⟩ := ht;simp only [Ye, Act.put, List.setIfInBounds_toArray, List.set_cons_zero, List.set_cons_succ, r15, r16, r17, r18, r19, r20, r21, r22, r23, r24, r25, r26, r27, r28, r29, r30, r31];clear r15 r16 r17 r18 r19 r20 r21 r22 r23 r24 r25 r26 r27 r28 r29 r30 r31;have gE := gw1.trans hg;clear hg gw1 hX1 hcp;by_cases hv : y.ver < x.ver
      ·have HG2 : Hid ((k : Int) = Zhz (gr P l (k + 1))) := by show _ = _; rw [HG1.out, if_pos hv]; rfl
       rw [decide_eq_true hv];clear hv HG1 HA1;go_wp2_with fail;go_roundw
       case rel => exact ⟨k + 1, k, by omega, by go_num, rfl, HG2, gE⟩
       case measure => simp [intOf]; omega
      ·have HG2 : Hid ((i : Int) = Zhz (gr P l (k + 1))) := by show _ = _; rw [HG1.out, if_neg hv]; rfl
       rw [decide_eq_false hv];clear hv HG1 HA1;go_wp2_with fail;go_roundw
       case rel => exact ⟨k + 1, i, by omega, by go_num, rfl, HG2, gE⟩
       case measure => simp [intOf]; omega
  ·have hAR : A = R := by rw [HA.out, HR.out, show k = l.length from by omega]
   subst hAR;clear HA HR;go_wp2_with fail;go_ret;exact ⟨rfl, hg0⟩
theorem Zj5 (args : Array Value) (w : World) : (callFunc 167 args).run Tryz.prog w = .ok (.enter 167 args) w := by
 simp [callFunc, Tryz.func167, Tryz.f167, mark]
theorem Zro (x : Rec) (a : Option Addr) (c : Nat) (w : World) : Calls Tryz.prog 167 #[.agg #[.int .i64 x.kind, .int .i64 x.key, .int .i64 x.ver, .slice a x.data.length c]] w fun e w' => e = .returned (.bool true) ∧ Zn w w' := by
 have g0 := Zb w (.cells #[.int .i64 x.kind, .int .i64 x.key, .int .i64 x.ver, .slice a x.data.length c] 61);go_enter Tryz.func167, Tryz.ntmps167;go_wp2_with fail;go_ret;exact ⟨rfl, g0⟩
theorem Kc (h : Q3 l = true) : l.length ≤ 40 ∧ ∀ r ∈ l, 1 ≤ r.ver ∧ r.ver ≤ 60000 ∧ r.data.length ≤ 8 := by
 obtain ⟨h1, h2⟩ := (Zbc l).1 h;refine ⟨h2, fun r hr => ?_⟩;obtain ⟨h3, h4⟩ := h1 r hr;obtain ⟨k, y, n, d⟩ := r;simp only at h4;have hk : ¬ (k < 1 ∨ 3 < k) := fun hk => by rw [Zh8 _ _ _ _ hk] at h3; cases h3
 cases hR : Xi ⟨k, y, n, d⟩ with
 | false => rw [J3 _ _ _ _ hk hR] at h3; cases h3
 | true =>
  have hR2 := hR;rw [Qi _ _ _ _ h4, decide_eq_true_eq] at hR2;by_cases hm : Xg k < (d.length : Int)
  ·rw [Za9 _ _ _ _ hk hR hm] at h3; cases h3
  ·have : Xg k ≤ 8 := by unfold Xg; split <;> omega
   exact ⟨hR2.2.2.1, hR2.2.2.2, by show d.length ≤ 8; omega⟩
theorem Zzi : Zzx := by
 intro S l v w hr hl;obtain ⟨hn, hb⟩ := Kc hr;have HE : Hid _ := Zl9 l (fun r h => (hb r h).1) l.length (Nat.le_refl _);obtain ⟨ao, cp, rfl⟩ := hl.form;obtain ⟨R, hR⟩ : ∃ R, R = Xt l := ⟨_, rfl⟩;rw [← hR];have HR : Hid _ := hR;have HB : Hid _ := hb;clear hR hb hr;go_enter Tryz.func134, Tryz.ntmps134;go_wp2_with fail;refine (Zr9 167 #[] (fun _ => true) S l _ w Zj5 hl (by omega) (fun x a c w' _ _ => by rw [Array.append_empty]; exact Zro x a c w')).mono ?_;rintro e w1 ⟨rfl, g1⟩;have HM : Hid _ := Zov (fun _ => true) l l.length;have HE2 : Hid (R = match gr (fun _ => true) l l.length with | none => 1 | some p => p.2.ver + 1) := by
  show R = _;rw [HR.out, ← HE.out, List.take_length]
 clear HE HR;generalize gr (fun _ => true) l l.length = G at *;cases G with
 | none =>
  obtain rfl : R = 1 := HE2.out;simp only [Zhz];go_wp2_with fail;go_ret;exact ⟨rfl, g1⟩
 | some p =>
  obtain ⟨i, y⟩ := p;obtain ⟨m1, m2, -⟩ := HM.out (i, y) rfl;obtain rfl : R = y.ver + 1 := HE2.out;simp only at m1 m2;obtain ⟨b, off, a1, c1, hv1, -, -, q2, -, -⟩ := Kv (hl.grow g1) i m1;cases hv1;have e5 := (List.getElem?_eq_some_iff.1 m2).2;rw [e5] at q2;have hbd := HB.out y (by rw [← e5]; exact List.getElem_mem m1);clear m2 e5 HB HM HE2;simp only [Zhz];go_wp2_with fail;go_ret;exact ⟨rfl, g1⟩
end Go.Proofs.YtpdnapbchcdhlacGreat
namespace Go.Proofs.YtpdnapbchcdhlacGreat
set_option maxRecDepth 100000
open Go.RowKit Go.Deep
open Plain Reg
variable {B g k : Nat} {css : List (List Value)} {v : Value} {w w' : World} {α : Type}
def Zce (B : Nat) (r : Rec) (v : Value) (w : World) : Prop := ∃ a c, v = .agg #[.int .i64 r.kind, .int .i64 r.key, .int .i64 r.ver, .slice a r.data.length c] ∧ w.ownsRow B 5 1 (.slice a r.data.length c) r.data.length (r.data.map bv)
theorem Zce.grow {r : Rec} (h : Zce B r v w) (hg : Zn w w') : Zce B r v w' := by
 obtain ⟨a, c, h1, h2⟩ := h; exact ⟨a, c, h1, Yd h2 hg⟩
theorem Zrt (y m n : Int) (l : List UInt8) (v : Value) (w : World) (hm : l.length ≤ 140737488355328) (h : Bytes w v l) :
  Calls Tryz.prog 135 #[.agg #[.int .i64 1, .int .i64 y, .int .i64 m, v], .int .i64 n] w fun e w' => ∃ v', e = .returned v' ∧ Zce w.heap.size ⟨2, y, n, l⟩ v' w' ∧ Zn w w' := by
 obtain ⟨ao, cap, rfl, -, -⟩ := Yp h;go_enter Tryz.func135, Tryz.ntmps135;go_wp2_with fail;refine (Zfn 2 y n l _ _ hm (by exact Z3 h (Zq _ _ _))).mono ?_;rintro e w1 ⟨v', rfl, ho, g1⟩;obtain ⟨ao', cap', rfl⟩ := Ya ho;obtain ⟨hc, hf⟩ := Zqg g1;have cs := Zr;clear h;go_wp2_with fail;refine bodyPost_ret (v := .agg #[.int .i64 2, .int .i64 y, .int .i64 n, .slice ao' l.length cap']) (by simp [results, Tryz.results135, go_sem, hc, cs]) rfl ⟨_, rfl, ⟨ao', cap', rfl, Yj (base := w.heap.size + 2) ?_ (by omega)⟩, ?_⟩
 ·replace ho : w1.ownsRow (w.heap.size + 2) 5 1 (.slice ao' l.length cap') l.length (l.map bv) := by simpa using ho
  exact Xl (Xl (Xl (Xl ho (by simp) _) (by simp) _) (by simp) _) (by simp) _
 ·exact Z1 (Z1 (Z1 (Z1 ((Zq _ _ _).trans g1) (by simp) _) (by simp) _) (by simp) _) (by simp) _
theorem Zru (y m n : Int) (v : Value) (w : World) :
  Calls Tryz.prog 135 #[.agg #[.int .i64 2, .int .i64 y, .int .i64 m, v], .int .i64 n] w fun e w' => ∃ v', e = .returned v' ∧ Zce w.heap.size ⟨3, y, n, []⟩ v' w' ∧ Zn w w' := by
 have g0 := Zq w (.cells #[.int .i64 2, .int .i64 y, .int .i64 m, v] 47) (.cells #[.int .i64 3, .int .i64 y, .int .i64 n, .slice none 0 0] 61);go_enter Tryz.func135, Tryz.ntmps135;go_wp2_with fail;exact bodyPost_ret (v := .agg #[.int .i64 3, .int .i64 y, .int .i64 n, .slice none 0 0]) (by simp [results, Tryz.results135, go_sem]) rfl ⟨_, rfl, ⟨none, 0, rfl, World.ownsRow_nil _ _ _ _⟩, g0⟩
theorem Zit (d : Dd) (n : Int) (a : Option Addr) (c : Nat) (w : World) (hw : Yl d = 0) (hk : d.kind ≠ 3) (hb : Bytes w (.slice a d.data.length c) d.data) :
  Calls Tryz.prog 135 #[.agg #[.int .i64 d.kind, .int .i64 d.key, .int .i64 d.num, .slice a d.data.length c], .int .i64 n] w fun e w' => ∃ v', e = .returned v' ∧ Zce w.heap.size (Xy d n) v' w' ∧ Zn w w' := by
 obtain ⟨a1, a2, a3, a4, a5, a6⟩ := Vy hw;obtain ⟨k, y, m, l⟩ := d;simp only at hk a1 a2 a5 a6 hb ⊢;have h12 : k = 1 ∨ k = 2 := by omega
 rcases h12 with rfl | rfl
 ·exact Zrt y m n l _ w (by omega) hb
 ·obtain rfl := List.eq_nil_of_length_eq_zero (show l.length = 0 by omega);exact Zru y m n _ w
theorem Zsl (w : World) (ty : TypeId) (b o c : Nat) (hc : ∀ j, j < 4 → (w.cell? ⟨b, o + j, none⟩).isSome = true) (hf : ∀ j, j < 4 → w.frozen? ⟨b, o + j, none⟩ = false) :
  (Builtin.clear_ #[58] ty #[.slice (some ⟨b, o, none⟩) 1 c]).run Tryz.prog w = .ok (.tuple #[]) (w.setCells b o [.int .i64 0, .int .i64 0, .int .i64 0, .slice none 0 0]) := by
 obtain ⟨i0, hif, hz0, hz1, hz2⟩ := info_parts K6;have hv : ∀ w, (zeroValue 61).run Tryz.prog w = .ok (.agg #[.int .i64 0, .int .i64 0, .int .i64 0, .slice none 0 0]) w := fun w => by simp [zeroValue, typeInfo, hif, hz0]
 have hzc : (Builtin.zeroCells (Value.agg #[.int .i64 0, .int .i64 0, .int .i64 0, .slice none 0 0]).cells 1).toList = [.int .i64 0, .int .i64 0, .int .i64 0, .slice none 0 0] := by kernel_rfl
 have hst := run_storeCells_cells (P := Tryz.prog) b o [.int .i64 0, .int .i64 0, .int .i64 0, .slice none 0 0] 0 w (by simpa using hc) (by simpa using hf) (by intro v hv'; simp at hv'; rcases hv' with rfl | rfl <;> rfl);simp only [Nat.add_zero] at hst;simp [Builtin.clear_, run_underlying Tryz.underlying58, hv, hzc, hst]
theorem Zbn : ∀ (css : List (List Value)) (j : Nat), (∀ c ∈ css, c.length = k) → css.flatten.drop (j * k) = (css.drop j).flatten
 | [], j, _ => by simp
 | c :: css, 0, _ => by simp
 | c :: css, j + 1, h => by
  have h1 := h c (by simp);rw [List.flatten_cons, List.drop_succ_cons, ← Zbn css j fun x hx => h x (by simp [hx]), List.drop_append, h1, List.drop_of_length_le (by rw [h1, Nat.add_mul]; omega), List.nil_append]
  congr 1
  rw [Nat.add_mul]; omega
theorem Zdy : ∀ (css : List (List Value)) (j : Nat), (∀ c ∈ css, c.length = k) → css.flatten.take (j * k) = (css.take j).flatten
 | [], j, _ => by simp
 | c :: css, 0, _ => by simp
 | c :: css, j + 1, h => by
  have h1 := h c (by simp);rw [List.flatten_cons, List.take_succ_cons, List.flatten_cons, ← Zdy css j fun x hx => h x (by simp [hx]), List.take_append, h1, List.take_of_length_le (by rw [h1, Nat.add_mul]; omega)]
  congr 2
  rw [Nat.add_mul]; omega
theorem Yw.cslen {sh : Ql α} {S0 : Nat → Prop} {xs : List α} (h : Yw sh S0 B v xs css w) : ∀ c ∈ css, c.length = sh.size := by
 intro c hc;obtain ⟨i, hi, rfl⟩ := List.mem_iff_getElem.1 hc;obtain ⟨cs, k1, k2⟩ := h.each i (by rw [← h.len]; exact hi);rw [List.getElem?_eq_getElem hi] at k1;cases k1;exact sh.len k2
theorem Yw.anew {sh : Ql α} {v' : Value} {xs ys : List α} {yss : List (List Value)} {c : Array Value} {f} (h : Yw sh NoR B v xs css w) (hT : sh.T ≠ 5) (hh : w.heap[g]? = some (.cells c sh.T f)) (hg : Zp g w w') (hl : yss.length = ys.length)
  (hy : ∀ i (hi : i < ys.length), ∃ j, ∃ hj : j < xs.length, xs[j] = ys[i] ∧ css[j]? = yss[i]?) (hown : w'.ownsRow B sh.T sh.size v' ys.length yss.flatten) : Yw sh NoR B v' ys yss w' := by
 have hne : ∀ b, InS NoR B w b → b ≠ g := by
  rintro b (h1 | ⟨_, c, f, h1⟩) rfl
  ·exact h1
  ·rw [hh] at h1; injection h1 with h1; injection h1 with _ h1; exact hT h1
 have hkp : ∀ b, InS NoR B w b → b < w.heap.size → w'.heap[b]? = w.heap[b]? := fun b hb hlt => hg.block b hlt (hne b hb)
 have hmo : ∀ b, InS NoR B w b → InS NoR B w' b := fun b hb => Xo hb (fun x => x) fun ⟨k1, c, f, k2⟩ => ⟨k1, c, f, (hkp b hb (Za k2)).trans k2⟩
 refine ⟨hl, fun i hi => ?_, hown⟩;obtain ⟨j, hj, e1, e2⟩ := hy i hi;obtain ⟨cs, k1, k2⟩ := h.each j hj;refine ⟨cs, by rw [← e2]; exact k1, ?_⟩;rw [← e1];exact sh.mono (sh.keep k2 hkp) hmo
def Zm0 (W : World) (s g n cap : Nat) (U : Array Value) (dn : Nat → Bool) (f : Nat → Value) (w : World) : Prop :=
 (dn s = false → Zn W w) ∧ (dn s = true → f s = .slice (some ⟨g, 0, none⟩) n cap ∧ w.heap[g]? = some (.cells U 61 (0, 0)) ∧ Zp g W w)
theorem Zm0.start (W : World) (s g n cap : Nat) (U : Array Value) (f : Nat → Value) : Zm0 W s g n cap U (fun _ => false) f W.drew := ⟨fun _ => (Zn.refl _).drew, fun h => by cases h⟩
theorem Zm0.app {W : World} {s n i j cap : Nat} {cur U : Array Value} {dn : Nat → Bool} {f : Nat → Value} {ad : Addr} {lc : Nat} (h : Zm0 W s g (i + (n - j)) cap U dn f w) (hs : dn s = false) (hU : U = (cur.toList.take (i * 4) ++ (css.drop j).flatten ++ cur.toList.drop (i * 4 + (css.drop j).flatten.length)).toArray)
  (hcur : W.heap[g]? = some (.cells cur 61 (0, 0))) (hlen : ∀ c ∈ css, c.length = 4) (hcn : css.length = n) (ht : cur.toList.take (n * 4) = css.flatten) (hone : ∀ u ∈ css.flatten, u.oneCell' = true) (hij : i < j) (hjn : j ≤ n) (hnc : n ≤ cap) (hsz : cur.size = cap * 4) (had : j < n → ad = ⟨g, 0 + j * 4, none⟩) :
  ∃ w', (Builtin.append_ #[58, 58] 58 #[.slice (some ⟨g, 0, none⟩) i cap, .slice (some ad) (n - j) lc]).run Tryz.prog w = .ok (.slice (some ⟨g, 0, none⟩) (i + (n - j)) cap) w' ∧ Zm0 W s g (i + (n - j)) cap U (upd dn s) (K2 f s (.slice (some ⟨g, 0, none⟩) (i + (n - j)) cap)) w' := by
 obtain ⟨i0, hif, hz0, hz1, hz2⟩ := info_parts K6;have hG := h.1 hs;have hw := (hG.block _ (Za hcur)).trans hcur;have hfl : (css.drop j).flatten.length = (n - j) * 4 := by rw [Vx (k := 4) _ (fun c hc => hlen c (List.mem_of_mem_drop hc)), List.length_drop, hcn]
 have hr := run_append_room (P := Tryz.prog) w 58 58 61 i0 Tryz.underlying58 hif g i cap cur hw ad (n - j) lc (css.drop j).flatten (by rw [hz1]; exact hfl) (fun t u hu => ?_) (fun u hu => ?_) (by omega) (by rw [hz1, hfl, hsz]; omega)
 ·rw [hz1] at hr;refine ⟨_, hr, fun h1 => ?_, fun _ => ⟨Vb, ?_, (Zp.of hG).row _⟩⟩
  ·rw [Kj] at h1; cases h1
  ·rw [← hU]; exact setRow_heap w g cur U _ _ hw
 ·have htl : t < (n - j) * 4 := by rw [← hfl]; exact (List.getElem?_eq_some_iff.1 hu).1
  rw [had (by omega)];have e : (⟨g, 0 + j * 4, none⟩ : Addr).add t = ⟨g, j * 4 + t, none⟩ := by
   unfold Addr.add;split
   ·rename_i h; rw [h]; simp
   ·simp
  rw [e];refine Zc hw _ u ?_;rw [← Zbn css j hlen, List.getElem?_drop, ← ht, List.getElem?_take, if_pos (by omega), Array.getElem?_toList] at hu;exact hu
 ·rw [← Zbn css j hlen] at hu;exact hone u (List.mem_of_mem_drop hu)
theorem Yw.ones {xs : List Rec} (h : Yw Yo NoR B v xs css w) : ∀ u ∈ css.flatten, u.oneCell' = true := by
 intro u hu;obtain ⟨c, hc, hu⟩ := List.mem_flatten.1 hu;obtain ⟨i, hi, rfl⟩ := List.mem_iff_getElem.1 hc;obtain ⟨cs, k1, k2⟩ := h.each i (by rw [← h.len]; exact hi);rw [List.getElem?_eq_getElem hi] at k1;cases k1;exact Yo.one k2 u hu
theorem Zo0 (B : Nat) (l : List Rec) (css : List (List Value)) (v : Value) (w : World) (i j : Nat) (hij : i < j) (hji : j < i + 2) (hjl : j ≤ l.length) (_hl : l.length ≤ 1000) (hR : Yw Yo NoR B v l css w) :
  Calls Tryz.prog 133 #[v, .int .i64 (i : Int), .int .i64 (j : Int)] w fun e w' => ∃ v' css', e = .returned v' ∧ Yw Yo NoR B v' (l.take i ++ l.drop j) css' w' ∧ ∀ w0, Zn w0 w → w0.heap.size ≤ B → Zn w0 w' := by
 rcases hR.row.2 with ⟨rfl, h0⟩ | ⟨g, cap, cur, rfl, hB, hh, hnc, hcm, hsz, ht⟩
 ·omega
 ·have hcslen : ∀ c ∈ css, c.length = 4 := hR.cslen;have hones := hR.ones;have hclen := hR.len;obtain ⟨U, hU⟩ : ∃ U, U = (cur.toList.take (i * 4) ++ (css.drop j).flatten ++ cur.toList.drop (i * 4 + (css.drop j).flatten.length)).toArray := ⟨_, rfl⟩;have hnn : cap ≤ 9223372036854775807 := hcm;have d0 : ((i : Int) == (j : Int)) = false := by simp; omega
  go_enter Tryz.func133, Tryz.ntmps133;go_wp2_with fail;obtain ⟨W, rfl⟩ : ∃ W : World, W = w := ⟨_, rfl⟩;refine Vu [px (.slice (some ⟨g, 0, none⟩) l.length cap), px (.int .i64 (i : Int)), px (.slice (some ⟨g, 0, none⟩) i cap), px (.slice (some ⟨g, 0, none⟩) l.length cap), px (.int .i64 (j : Int)), px (.slice (some (if cap = j then ⟨g, 0, none⟩ else ⟨g, 0 + j * 4, none⟩)) (l.length - j) (cap - j)), px (.slice (some ⟨g, 0, none⟩) (i + (l.length - j)) cap), px (.slice (some ⟨g, 0, none⟩) (i + (l.length - j)) cap)] [none, none, none, none, none, none, some ((fun _ _ => True))] (Zm0 W 6 g (i + (l.length - j)) cap U) (by kernel_rfl) (by kernel_rfl) ⟨se, se, se, se, se, se, se, se, trivial⟩ ⟨⟨(fun _ => trivial), ⟨x5, x5, x5, x5, x5, x5, .inl (by kernel_rfl), .inl (by kernel_rfl), trivial⟩⟩, trivial⟩ ⟨n5, n5, n5, n5, n5, n5, n5, n5, trivial⟩ (Zm0.start _ _ _ _ _ _) ?_ ?_
  ·refine ⟨?_, ?_, ?_, ?_, ?_, ?_, ?_, ?_, trivial⟩
   ·exact Zu rfl fun a _ _ _ _ _ B A => Xp rfl B (Zm A 0 rfl)
   ·exact Zu rfl fun a _ _ _ _ _ B A => Xp rfl B (Zm A 1 rfl)
   ·refine Zu rfl fun a B _ _ _ _ C A => ?_;have e20 : a (.tmp 20) = _ := Zf A 0 rfl;have e21 : a (.tmp 21) = _ := Zf A 1 rfl;refine Qx (Zif B _ _ (.tmp 20) (.tmp 21) rfl g 0 l.length cap i (by omega) hnc e20 e21) C rfl
   ·exact Zu rfl fun a _ _ _ _ _ B A => Xp rfl B (Zm A 0 rfl)
   ·exact Zu rfl fun a _ _ _ _ _ B A => Xp rfl B (Zm A 2 rfl)
   ·refine Zu rfl fun a B _ _ _ _ C A => ?_;have e23 : a (.tmp 23) = _ := Zf A 3 rfl;have e24 : a (.tmp 24) = _ := Zf A 4 rfl;refine Qx (Ze2 B _ _ (.tmp 23) (.tmp 24) rfl g 0 l.length cap j hjl hnc e23 e24) C rfl
   ·refine Zu rfl fun a w' _ _ _ C B A => ?_;have e22 : a (.tmp 22) = _ := Zf A 2 rfl;have e25 : a (.tmp 25) = _ := Zf A 5 rfl;obtain ⟨w2, hrun, hJ⟩ := Zm0.app (n := l.length) (lc := cap - j) (ad := (if cap = j then ⟨g, 0, none⟩ else ⟨g, 0 + j * 4, none⟩)) B C.un hU hh hcslen hclen ht hones hij hjl hnc hsz (fun h => if_neg (show ¬ cap = j by omega));exact Qy (v := .slice (some ⟨g, 0, none⟩) (i + (l.length - j)) cap) (w' := w2) (Q7 (.tmp 22) (.tmp 25) 58 rfl _ _ e22 e25 hrun) trivial hJ rfl
   ·exact Zu rfl fun a _ _ _ _ _ B A => Xn rfl B (Zf A 6 rfl)
  ·intro vs w' dn hdn hg ht;obtain ⟨(r20 : vs 0 = _), (r21 : vs 1 = _), (r22 : vs 2 = _), (r23 : vs 3 = _), (r24 : vs 4 = _), (r25 : vs 5 = _), (r26 : vs 6 = _), (r0 : vs 7 = _), -⟩ := ht;simp only [Ye, Act.put, List.setIfInBounds_toArray, List.set_cons_zero, List.set_cons_succ, r20, r21, r22, r23, r24, r25, r26, r0];clear r20 r21 r22 r23 r24 r25 r26 r0;obtain ⟨-, hUg, hGB⟩ := hg.2 (hdn 6 (by decide));clear hg hdn;obtain ⟨N, hN⟩ : ∃ N, N = i + (l.length - j) := ⟨_, rfl⟩;have hN1 : N < l.length := by omega
   have hN2 : l.length < N + 2 := by omega
   have hfl : (css.drop j).flatten.length = (l.length - j) * 4 := by rw [Vx (k := 4) _ (fun c hc => hcslen c (List.mem_of_mem_drop hc)), List.length_drop, hclen]
   have hsz4 : cur.size = cap * 4 := hsz;have hUs : U.size = cap * 4 := by
    rw [hU];simp only [List.size_toArray, List.length_append, List.length_take, List.length_drop, Array.length_toList, hfl, hsz4];omega
   have hUt : U.toList.take (N * 4) = (css.take i ++ css.drop j).flatten := by
    have e1 : cur.toList.take (i * 4) = (css.take i).flatten := by
     rw [← Zdy css i hcslen, ← ht, List.take_take, show min (i * 4) (l.length * Yo.size) = i * 4 from Nat.min_eq_left (by show i * 4 ≤ l.length * 4; omega)]
    have e2 : ((css.take i).flatten ++ (css.drop j).flatten).length = N * 4 := by
     rw [List.length_append, hfl, Vx (k := 4) _ (fun c hc => hcslen c (List.mem_of_mem_take hc)), List.length_take, hclen];omega
    rw [hU, e1, List.flatten_append, List.take_append_of_le_length (by rw [e2]; exact Nat.le_refl _), ← e2, List.take_length]
   have hcl : ∀ ty, (Builtin.clear_ #[58] ty #[.slice (some ⟨g, N * 4, none⟩) (l.length - N) (cap - N)]).run Tryz.prog w' = .ok (.tuple #[]) (w'.setCells g (N * 4) [.int .i64 0, .int .i64 0, .int .i64 0, .slice none 0 0]) := fun ty => by
    rw [show l.length - N = 1 from by omega];exact Zsl w' ty g (N * 4) (cap - N) (fun t h => by rw [Zc hUg _ _ (Array.getElem?_eq_getElem (show N * 4 + t < U.size by omega))]; rfl) (fun t _ => Zk hUg _)
   have hsz2 : N * 4 + 4 ≤ U.size := by omega
   have hrow := Yh (Yh (Yh (Yh hUg (N * 4) (.int .i64 0)) (N * 4 + 1) (.int .i64 0)) (N * 4 + 2) (.int .i64 0)) (N * 4 + 3) (.slice none 0 0);have hGE : Zp g W (w'.setCells g (N * 4) [.int .i64 0, .int .i64 0, .int .i64 0, .slice none 0 0]) := (((hGB.set _ _ _).set _ _ _).set _ _ _).set _ _ _;have hrow2 : (w'.setCells g (N * 4) [.int .i64 0, .int .i64 0, .int .i64 0, .slice none 0 0]).heap[g]? = _ := hrow;have hE : Yw Yo NoR B (.slice (some ⟨g, 0, none⟩) N cap) (l.take i ++ l.drop j) (css.take i ++ css.drop j) (w'.setCells g (N * 4) [.int .i64 0, .int .i64 0, .int .i64 0, .slice none 0 0]) := by
    have hlN : (l.take i ++ l.drop j).length = N := by simp only [List.length_append, List.length_take, List.length_drop]; omega
    refine Yw.anew hR (by decide) hh hGE (by simp [hclen]) (fun t htl => ?_) ?_
    ·rw [hlN] at htl;by_cases hti : t < i
     ·exact ⟨t, by omega, by rw [List.getElem_append_left (by simp; omega), List.getElem_take], by rw [List.getElem?_append_left (by simp; omega), List.getElem?_take, if_pos hti]⟩
     ·refine ⟨j + (t - i), by omega, ?_, ?_⟩
      ·rw [List.getElem_append_right (by simp; omega), List.getElem_drop]
       congr 1
       simp; omega
      ·rw [List.getElem?_append_right (by simp; omega), List.getElem?_drop]
       congr 1
       simp; omega
    ·rw [hlN];refine ⟨?_, .inr ⟨g, cap, _, rfl, hB, hrow2, by omega, hcm, by show _ = cap * 4; simpa using hUs, ?_⟩⟩
     ·rw [← hUt, List.length_take, Array.length_toList];show min (N * 4) U.size = N * 4;omega
     ·show List.take (N * 4) _ = _;rw [← hUt];apply List.ext_getElem?;intro t;rw [List.getElem?_take, List.getElem?_take];by_cases ht4 : t < N * 4
      ·rw [if_pos ht4, if_pos ht4, Array.getElem?_toList, Array.getElem?_toList, Zza hsz2, if_neg (by omega), if_neg (by omega), if_neg (by omega), if_neg (by omega)]
      ·rw [if_neg ht4, if_neg ht4]
   have hgr : ∀ w0, Zn w0 W → w0.heap.size ≤ B → Zn w0 (w'.setCells g (N * 4) [.int .i64 0, .int .i64 0, .int .i64 0, .slice none 0 0]) := fun w0 h1 h2 => hGE.grow h1 (by omega)
   rw [← hN];generalize (if cap = j then (⟨g, 0, none⟩ : Addr) else ⟨g, 0 + j * 4, none⟩) = ad5;generalize w'.setCells g (N * 4) [.int .i64 0, .int .i64 0, .int .i64 0, .slice none 0 0] = wE at *;clear hrow hrow2 hGE hsz2 hUt hUs hfl hN hGB hUg hR hh ht hsz4 hsz hcm hU hones hcslen hclen;go_wp2_with fail;go_ret;exact ⟨_, _, rfl, hE, hgr⟩
end Go.Proofs.YtpdnapbchcdhlacGreat
