import Derived.Test.YtpdnapbchcdhlaaREnt
import Derived.Test.YtpdnapbchcdhlaaRMend
set_option maxHeartbeats 8000000
namespace Go.Proofs.Ytpdnapbchcdhlaa
set_option maxRecDepth 100000
open Go.RowKit
open Plain Reg
def Vr : List Ent → List Ent → Bool
 | [], [] => true
 | x :: a, y :: b => (decide (x.pair = y.pair) && Xt x.rc y.rc) && Vr a b
 | _, _ => false
theorem V9 : ∀ (a b : List Ent), Vr a b = true ↔ a = b
 | [], [] => by simp [Vr]
 | [], _ :: _ => by simp [Vr]
 | _ :: _, [] => by simp [Vr]
 | ⟨r, p⟩ :: a, ⟨q, o⟩ :: b => by
  have ih := V9 a b;simp only [Vr, Bool.and_eq_true, decide_eq_true_eq, Jf, ih, List.cons.injEq, Ent.mk.injEq];constructor
  ·rintro ⟨⟨h1, h2⟩, h3⟩; exact ⟨⟨h2, h1⟩, h3⟩
  ·rintro ⟨⟨h1, h2⟩, h3⟩; exact ⟨⟨h2, h1⟩, h3⟩
theorem Xf (a : List Ent) : Vr a a = true := (V9 a a).2 rfl
theorem Zcl {a b : List Ent} (h : a ≠ b) : Vr a b = false := by
 cases hs : Vr a b with
 | false => rfl
 | true => exact absurd ((V9 a b).1 hs) h
theorem Zfr {α : Type} {a b : List α} {k : Nat} (h : a.take k = b.take k) (h1 : k < a.length) (h2 : k < b.length) (he : a[k] = b[k]) : a.take (k + 1) = b.take (k + 1) := by
 rw [List.take_succ_eq_append_getElem h1, List.take_succ_eq_append_getElem h2, h, he]
theorem Xg (s t : List Ent) (v u : Value) (S S' : Nat → Prop) (w : World) (hs : Yl S w v s) (ht : Yl S' w u t) (hm : s.length ≤ 140737488355328) :
  Calls Try.prog 58 #[v, u] w fun e w' => e = .returned (.bool (Vr s t)) ∧ Zm w w' := by
 obtain ⟨ao, ca, rfl⟩ := hs.form;obtain ⟨bo, cb, rfl⟩ := ht.form;by_cases hl : s.length = t.length
 ·obtain ⟨R, hR⟩ : ∃ R, R = Vr s t := ⟨_, rfl⟩;rw [← hR];have HR : Hid _ := hR;have HL : Hid (s.length = t.length) := hl;have d0 : ((s.length : Int) != (t.length : Int)) = false := by simp [hl]
  have hm2 : t.length ≤ 140737488355328 := by omega
  clear hR hl;go_enter Try.func58, Try.ntmps58;go_wp2_with fail;clear d0;go_loopw [13] (fun i wr => ∃ k : Nat, k ≤ s.length ∧ i = .int .i64 k ∧ s.take k = t.take k ∧ Zm w wr) (fun i _ => s.length - (intOf i).toNat)
  case atStart => exact ⟨0, Nat.zero_le _, rfl, rfl, Zm.refl _⟩
  case round =>
   obtain ⟨k, hk, rfl, htk, hgr⟩ := hrel;have HK : Hid (s.take k = t.take k) := htk;clear htk;by_cases hlt : k < s.length
   ·have hlt2 : k < t.length := by rw [← HL.out]; exact hlt
    have hsr := hs.grow hgr;have htr := ht.grow hgr;obtain ⟨b1, o1, a1, c1, e1, p0, p1, p2, p3, p4, hu⟩ := X4 hsr k hlt;obtain ⟨b2, o2, a2, c2, e2, q0, q1, q2, q3, q4, hz⟩ := X4 htr k hlt2;cases e1;cases e2;have HX : Hid (s[k] = t[k] → s.take (k + 1) = t.take (k + 1)) := fun h => Zfr HK.out hlt hlt2 h
    have HY : Hid (s[k] ≠ t[k] → R = false) := fun h => by
     rw [HR.out]; exact Zcl fun h2 => h (by simp [h2])
    generalize s[k] = x at *;generalize t[k] = z at *;clear hsr htr;by_cases hp : x.pair = z.pair
    ·cases hsb : Xt x.rc z.rc with
     | true =>
      have HB : Hid (Xt x.rc z.rc = true) := hsb;have HZ : Hid (s.take (k + 1) = t.take (k + 1)) := HX.out (by
       obtain ⟨xr, xp⟩ := x;obtain ⟨zr, zp⟩ := z;have h1 := (Jf xr zr).1 hsb;simp only at hp;rw [h1, hp])
      clear hsb HX HY;go_wp2_with fail;refine Zr [ex (.slice (some ⟨b1, o1, none⟩) s.length ca), ex (.int .i64 k), ex (.pointer (some ⟨b1, o1 + k * 5, none⟩)), ex (.pointer (some ⟨b1, o1 + k * 5 + 4, none⟩)), ex (.int .i64 x.pair), ex (.slice (some ⟨b2, o2, none⟩) t.length cb), ex (.int .i64 k), ex (.pointer (some ⟨b2, o2 + k * 5, none⟩)), ex (.pointer (some ⟨b2, o2 + k * 5 + 4, none⟩)), ex (.int .i64 z.pair), ex (.bool false), ex (.bool false), ex (.slice (some ⟨b1, o1, none⟩) s.length ca), ex (.int .i64 k), ex (.pointer (some ⟨b1, o1 + k * 5, none⟩)), ex (.pointer (some ⟨b1, o1 + k * 5, none⟩)), ex (.agg #[.int .i64 x.rc.kind, .int .i64 x.rc.key, .int .i64 x.rc.ver, .slice a1 x.rc.data.length c1]), ex (.slice (some ⟨b2, o2, none⟩) t.length cb), ex (.int .i64 k), ex (.pointer (some ⟨b2, o2 + k * 5, none⟩)), ex (.pointer (some ⟨b2, o2 + k * 5, none⟩)), ex (.agg #[.int .i64 z.rc.kind, .int .i64 z.rc.key, .int .i64 z.rc.ver, .slice a2 z.rc.data.length c2]), ex (.bool true), ex (.bool false), ex (.bool false)] (by kernel_rfl) (by kernel_rfl) ⟨Zc _, Zc _, Zc _, Zc _, Zc _, Zc _, Zc _, Zc _, Zc _, Zc _, Zc _, Zc _, Zc _, Zc _, Zc _, Zc _, Zc _, Zc _, Zc _, Zc _, Zc _, Zc _, Zc _, Zc _, Zc _, trivial⟩ ?_ ?_
      ·refine ⟨?_, ?_, ?_, ?_, ?_, ?_, ?_, ?_, ?_, ?_, ?_, ?_, ?_, ?_, ?_, ?_, ?_, ?_, ?_, ?_, ?_, ?_, ?_, ?_, ?_, trivial⟩
       ·exact Za rfl fun a _ _ _ _ A => Zf rfl (Zj A 0 rfl)
       ·exact Za rfl fun a _ _ _ _ A => Zf rfl (Zj A 5 rfl)
       ·refine Za rfl fun a _ _ _ B A => ?_;have e16 : a (.tmp 16) = _ := Zb A 0 rfl;have e17 : a (.tmp 17) = _ := Zb A 1 rfl;refine Ze ?_ rfl;clear A B;go_simp;all_goals go_arith
       ·refine Za rfl fun a _ _ _ B A => ?_;have e18 : a (.tmp 18) = _ := Zb A 2 rfl;refine Ze ?_ rfl;clear A B;go_simp;all_goals go_arith
       ·refine Za rfl fun a _ _ _ B A => ?_;have e19 : a (.tmp 19) = _ := Zb A 3 rfl;have h1 := (Below.cell B (Zn p4)).trans p4;refine Ze ?_ rfl;clear A B;go_simp;all_goals go_arith
       ·exact Za rfl fun a _ _ _ _ A => Zf rfl (Zj A 1 rfl)
       ·exact Za rfl fun a _ _ _ _ A => Zf rfl (Zj A 5 rfl)
       ·refine Za rfl fun a _ _ _ B A => ?_;have e21 : a (.tmp 21) = _ := Zb A 5 rfl;have e22 : a (.tmp 22) = _ := Zb A 6 rfl;refine Ze ?_ rfl;clear A B;go_simp;all_goals go_arith
       ·refine Za rfl fun a _ _ _ B A => ?_;have e23 : a (.tmp 23) = _ := Zb A 7 rfl;refine Ze ?_ rfl;clear A B;go_simp;all_goals go_arith
       ·refine Za rfl fun a _ _ _ B A => ?_;have e24 : a (.tmp 24) = _ := Zb A 8 rfl;have h1 := (Below.cell B (Zn q4)).trans q4;refine Ze ?_ rfl;clear A B;go_simp;all_goals go_arith
       ·refine Za rfl fun a _ _ _ B A => ?_;have e20 : a (.tmp 20) = _ := Zb A 4 rfl;have e25 : a (.tmp 25) = _ := Zb A 9 rfl;refine Ze ?_ rfl;clear A B;go_simp;all_goals go_arith
       ·exact Za rfl fun a _ _ _ _ A => Zf rfl (Zb A 10 rfl)
       ·exact Zd 11 false rfl rfl rfl fun a _ _ _ _ A => Zf rfl (Zj A 0 rfl)
       ·exact Zd 11 false rfl rfl rfl fun a _ _ _ _ A => Zf rfl (Zj A 5 rfl)
       ·refine Zd 11 false rfl rfl rfl fun a _ _ _ B A => ?_;have e28 : a (.tmp 28) = _ := Zb A 12 rfl;have e29 : a (.tmp 29) = _ := Zb A 13 rfl;refine Ze ?_ rfl;clear A B;go_simp;all_goals go_arith
       ·refine Zd 11 false rfl rfl rfl fun a _ _ _ B A => ?_;have e30 : a (.tmp 30) = _ := Zb A 14 rfl;refine Ze ?_ rfl;clear A B;go_simp;all_goals go_arith
       ·refine Zd 11 false rfl rfl rfl fun a _ _ _ B A => ?_;have e31 : a (.tmp 31) = _ := Zb A 15 rfl;have h1 := (Below.cell B (Zn p0)).trans p0;have h2 := (Below.cell B (Zn p1)).trans p1;have h3 := (Below.cell B (Zn p2)).trans p2;have h4 := (Below.cell B (Zn p3)).trans p3;refine Ze ?_ rfl;clear A B;go_simp;all_goals go_arith
       ·exact Zd 11 false rfl rfl rfl fun a _ _ _ _ A => Zf rfl (Zj A 1 rfl)
       ·exact Zd 11 false rfl rfl rfl fun a _ _ _ _ A => Zf rfl (Zj A 5 rfl)
       ·refine Zd 11 false rfl rfl rfl fun a _ _ _ B A => ?_;have e33 : a (.tmp 33) = _ := Zb A 17 rfl;have e34 : a (.tmp 34) = _ := Zb A 18 rfl;refine Ze ?_ rfl;clear A B;go_simp;all_goals go_arith
       ·refine Zd 11 false rfl rfl rfl fun a _ _ _ B A => ?_;have e35 : a (.tmp 35) = _ := Zb A 19 rfl;refine Ze ?_ rfl;clear A B;go_simp;all_goals go_arith
       ·refine Zd 11 false rfl rfl rfl fun a _ _ _ B A => ?_;have e36 : a (.tmp 36) = _ := Zb A 20 rfl;have h1 := (Below.cell B (Zn q0)).trans q0;have h2 := (Below.cell B (Zn q1)).trans q1;have h3 := (Below.cell B (Zn q2)).trans q2;have h4 := (Below.cell B (Zn q3)).trans q3;refine Ze ?_ rfl;clear A B;go_simp;all_goals go_arith
       ·refine Zd 11 false rfl rfl rfl fun a B _ _ C A => ?_;have e32 : a (.tmp 32) = _ := Zb A 16 rfl;have e37 : a (.tmp 37) = _ := Zb A 21 rfl;refine Zx (f := 25) (args := #[.agg #[.int .i64 x.rc.kind, .int .i64 x.rc.key, .int .i64 x.rc.ver, .slice a1 x.rc.data.length c1], .agg #[.int .i64 z.rc.kind, .int .i64 z.rc.key, .int .i64 z.rc.ver, .slice a2 z.rc.data.length c2]]) ?_ ((Jg _ _ _ _ _ _ x.rc.data z.rc.data _ _ B (Zw hu.p C) (Zw hz.p C)).mono ?_)
        ·clear A C;go_simp;all_goals go_arith
        ·rintro e w2 ⟨rfl, g2⟩;exact ⟨_, rfl, g2, by rw [← HB.out]; rfl⟩
       ·refine Zd 11 false rfl rfl rfl fun a _ _ _ B A => ?_;have e38 : a (.tmp 38) = _ := Zb A 22 rfl;refine Ze ?_ rfl;clear A B;go_simp;all_goals go_arith
       ·refine Za rfl fun a _ _ _ _ A => ?_;have ec : a (.tmp 27) = _ := Zb A 11 rfl;have e : a (.tmp 39) = _ := Zb A 23 rfl;exact Zp rfl ec e
      ·intro vs w' hg ht;obtain ⟨(r16 : vs 0 = _), (r17 : vs 1 = _), (r18 : vs 2 = _), (r19 : vs 3 = _), (r20 : vs 4 = _), (r21 : vs 5 = _), (r22 : vs 6 = _), (r23 : vs 7 = _), (r24 : vs 8 = _), (r25 : vs 9 = _), (r26 : vs 10 = _), (r27 : vs 11 = _), (r28 : vs 12 = _), (r29 : vs 13 = _), (r30 : vs 14 = _), (r31 : vs 15 = _), (r32 : vs 16 = _), (r33 : vs 17 = _), (r34 : vs 18 = _), (r35 : vs 19 = _), (r36 : vs 20 = _), (r37 : vs 21 = _), (r38 : vs 22 = _), (r39 : vs 23 = _), (r40 : vs 24 = _), -⟩ := ht;simp only [Z3, Act.put, List.setIfInBounds_toArray, List.set_cons_zero, List.set_cons_succ, r16, r17, r18, r19, r20, r21, r22, r23, r24, r25, r26, r27, r28, r29, r30, r31, r32, r33, r34, r35, r36, r37, r38, r39, r40];clear r16 r17 r18 r19 r20 r21 r22 r23 r24 r25 r26 r27 r28 r29 r30 r31 r32 r33 r34 r35 r36 r37 r38 r39 r40;have gr2 := hgr.trans hg;clear hg p0 p1 p2 p3 p4 q0 q1 q2 q3 q4 hu hz;go_wp2_with fail;go_roundw
       case rel => exact ⟨k + 1, by omega, by go_num, HZ.out, gr2⟩
       case measure => simp [intOf]; omega
     | false =>
      have HB : Hid (Xt x.rc z.rc = false) := hsb;have hRf : R = false := HY.out (by
       intro h;rw [h] at hsb;rw [(Jf z.rc z.rc).2 rfl] at hsb;cases hsb)
      subst hRf;clear hsb HX HY;go_wp2_with fail;refine Zr [ex (.slice (some ⟨b1, o1, none⟩) s.length ca), ex (.int .i64 k), ex (.pointer (some ⟨b1, o1 + k * 5, none⟩)), ex (.pointer (some ⟨b1, o1 + k * 5 + 4, none⟩)), ex (.int .i64 x.pair), ex (.slice (some ⟨b2, o2, none⟩) t.length cb), ex (.int .i64 k), ex (.pointer (some ⟨b2, o2 + k * 5, none⟩)), ex (.pointer (some ⟨b2, o2 + k * 5 + 4, none⟩)), ex (.int .i64 z.pair), ex (.bool false), ex (.bool false), ex (.slice (some ⟨b1, o1, none⟩) s.length ca), ex (.int .i64 k), ex (.pointer (some ⟨b1, o1 + k * 5, none⟩)), ex (.pointer (some ⟨b1, o1 + k * 5, none⟩)), ex (.agg #[.int .i64 x.rc.kind, .int .i64 x.rc.key, .int .i64 x.rc.ver, .slice a1 x.rc.data.length c1]), ex (.slice (some ⟨b2, o2, none⟩) t.length cb), ex (.int .i64 k), ex (.pointer (some ⟨b2, o2 + k * 5, none⟩)), ex (.pointer (some ⟨b2, o2 + k * 5, none⟩)), ex (.agg #[.int .i64 z.rc.kind, .int .i64 z.rc.key, .int .i64 z.rc.ver, .slice a2 z.rc.data.length c2]), ex (.bool false), ex (.bool true), ex (.bool true)] (by kernel_rfl) (by kernel_rfl) ⟨Zc _, Zc _, Zc _, Zc _, Zc _, Zc _, Zc _, Zc _, Zc _, Zc _, Zc _, Zc _, Zc _, Zc _, Zc _, Zc _, Zc _, Zc _, Zc _, Zc _, Zc _, Zc _, Zc _, Zc _, Zc _, trivial⟩ ?_ ?_
      ·refine ⟨?_, ?_, ?_, ?_, ?_, ?_, ?_, ?_, ?_, ?_, ?_, ?_, ?_, ?_, ?_, ?_, ?_, ?_, ?_, ?_, ?_, ?_, ?_, ?_, ?_, trivial⟩
       ·exact Za rfl fun a _ _ _ _ A => Zf rfl (Zj A 0 rfl)
       ·exact Za rfl fun a _ _ _ _ A => Zf rfl (Zj A 5 rfl)
       ·refine Za rfl fun a _ _ _ B A => ?_;have e16 : a (.tmp 16) = _ := Zb A 0 rfl;have e17 : a (.tmp 17) = _ := Zb A 1 rfl;refine Ze ?_ rfl;clear A B;go_simp;all_goals go_arith
       ·refine Za rfl fun a _ _ _ B A => ?_;have e18 : a (.tmp 18) = _ := Zb A 2 rfl;refine Ze ?_ rfl;clear A B;go_simp;all_goals go_arith
       ·refine Za rfl fun a _ _ _ B A => ?_;have e19 : a (.tmp 19) = _ := Zb A 3 rfl;have h1 := (Below.cell B (Zn p4)).trans p4;refine Ze ?_ rfl;clear A B;go_simp;all_goals go_arith
       ·exact Za rfl fun a _ _ _ _ A => Zf rfl (Zj A 1 rfl)
       ·exact Za rfl fun a _ _ _ _ A => Zf rfl (Zj A 5 rfl)
       ·refine Za rfl fun a _ _ _ B A => ?_;have e21 : a (.tmp 21) = _ := Zb A 5 rfl;have e22 : a (.tmp 22) = _ := Zb A 6 rfl;refine Ze ?_ rfl;clear A B;go_simp;all_goals go_arith
       ·refine Za rfl fun a _ _ _ B A => ?_;have e23 : a (.tmp 23) = _ := Zb A 7 rfl;refine Ze ?_ rfl;clear A B;go_simp;all_goals go_arith
       ·refine Za rfl fun a _ _ _ B A => ?_;have e24 : a (.tmp 24) = _ := Zb A 8 rfl;have h1 := (Below.cell B (Zn q4)).trans q4;refine Ze ?_ rfl;clear A B;go_simp;all_goals go_arith
       ·refine Za rfl fun a _ _ _ B A => ?_;have e20 : a (.tmp 20) = _ := Zb A 4 rfl;have e25 : a (.tmp 25) = _ := Zb A 9 rfl;refine Ze ?_ rfl;clear A B;go_simp;all_goals go_arith
       ·exact Za rfl fun a _ _ _ _ A => Zf rfl (Zb A 10 rfl)
       ·exact Zd 11 false rfl rfl rfl fun a _ _ _ _ A => Zf rfl (Zj A 0 rfl)
       ·exact Zd 11 false rfl rfl rfl fun a _ _ _ _ A => Zf rfl (Zj A 5 rfl)
       ·refine Zd 11 false rfl rfl rfl fun a _ _ _ B A => ?_;have e28 : a (.tmp 28) = _ := Zb A 12 rfl;have e29 : a (.tmp 29) = _ := Zb A 13 rfl;refine Ze ?_ rfl;clear A B;go_simp;all_goals go_arith
       ·refine Zd 11 false rfl rfl rfl fun a _ _ _ B A => ?_;have e30 : a (.tmp 30) = _ := Zb A 14 rfl;refine Ze ?_ rfl;clear A B;go_simp;all_goals go_arith
       ·refine Zd 11 false rfl rfl rfl fun a _ _ _ B A => ?_;have e31 : a (.tmp 31) = _ := Zb A 15 rfl;have h1 := (Below.cell B (Zn p0)).trans p0;have h2 := (Below.cell B (Zn p1)).trans p1;have h3 := (Below.cell B (Zn p2)).trans p2;have h4 := (Below.cell B (Zn p3)).trans p3;refine Ze ?_ rfl;clear A B;go_simp;all_goals go_arith
       ·exact Zd 11 false rfl rfl rfl fun a _ _ _ _ A => Zf rfl (Zj A 1 rfl)
       ·exact Zd 11 false rfl rfl rfl fun a _ _ _ _ A => Zf rfl (Zj A 5 rfl)
       ·refine Zd 11 false rfl rfl rfl fun a _ _ _ B A => ?_;have e33 : a (.tmp 33) = _ := Zb A 17 rfl;have e34 : a (.tmp 34) = _ := Zb A 18 rfl;refine Ze ?_ rfl;clear A B;go_simp;all_goals go_arith
       ·refine Zd 11 false rfl rfl rfl fun a _ _ _ B A => ?_;have e35 : a (.tmp 35) = _ := Zb A 19 rfl;refine Ze ?_ rfl;clear A B;go_simp;all_goals go_arith
       ·refine Zd 11 false rfl rfl rfl fun a _ _ _ B A => ?_;have e36 : a (.tmp 36) = _ := Zb A 20 rfl;have h1 := (Below.cell B (Zn q0)).trans q0;have h2 := (Below.cell B (Zn q1)).trans q1;have h3 := (Below.cell B (Zn q2)).trans q2;have h4 := (Below.cell B (Zn q3)).trans q3;refine Ze ?_ rfl;clear A B;go_simp;all_goals go_arith
       ·refine Zd 11 false rfl rfl rfl fun a B _ _ C A => ?_;have e32 : a (.tmp 32) = _ := Zb A 16 rfl;have e37 : a (.tmp 37) = _ := Zb A 21 rfl;refine Zx (f := 25) (args := #[.agg #[.int .i64 x.rc.kind, .int .i64 x.rc.key, .int .i64 x.rc.ver, .slice a1 x.rc.data.length c1], .agg #[.int .i64 z.rc.kind, .int .i64 z.rc.key, .int .i64 z.rc.ver, .slice a2 z.rc.data.length c2]]) ?_ ((Jg _ _ _ _ _ _ x.rc.data z.rc.data _ _ B (Zw hu.p C) (Zw hz.p C)).mono ?_)
        ·clear A C;go_simp;all_goals go_arith
        ·rintro e w2 ⟨rfl, g2⟩;exact ⟨_, rfl, g2, by rw [← HB.out]; rfl⟩
       ·refine Zd 11 false rfl rfl rfl fun a _ _ _ B A => ?_;have e38 : a (.tmp 38) = _ := Zb A 22 rfl;refine Ze ?_ rfl;clear A B;go_simp;all_goals go_arith
       ·refine Za rfl fun a _ _ _ _ A => ?_;have ec : a (.tmp 27) = _ := Zb A 11 rfl;have e : a (.tmp 39) = _ := Zb A 23 rfl;exact Zp rfl ec e
      ·intro vs w' hg ht;obtain ⟨(r16 : vs 0 = _), (r17 : vs 1 = _), (r18 : vs 2 = _), (r19 : vs 3 = _), (r20 : vs 4 = _), (r21 : vs 5 = _), (r22 : vs 6 = _), (r23 : vs 7 = _), (r24 : vs 8 = _), (r25 : vs 9 = _), (r26 : vs 10 = _), (r27 : vs 11 = _), (r28 : vs 12 = _), (r29 : vs 13 = _), (r30 : vs 14 = _), (r31 : vs 15 = _), (r32 : vs 16 = _), (r33 : vs 17 = _), (r34 : vs 18 = _), (r35 : vs 19 = _), (r36 : vs 20 = _), (r37 : vs 21 = _), (r38 : vs 22 = _), (r39 : vs 23 = _), (r40 : vs 24 = _), -⟩ := ht;simp only [Z3, Act.put, List.setIfInBounds_toArray, List.set_cons_zero, List.set_cons_succ, r16, r17, r18, r19, r20, r21, r22, r23, r24, r25, r26, r27, r28, r29, r30, r31, r32, r33, r34, r35, r36, r37, r38, r39, r40];clear r16 r17 r18 r19 r20 r21 r22 r23 r24 r25 r26 r27 r28 r29 r30 r31 r32 r33 r34 r35 r36 r37 r38 r39 r40;have gr2 := hgr.trans hg;clear hg p0 p1 p2 p3 p4 q0 q1 q2 q3 q4 hu hz;go_wp2_with fail;go_ret;exact ⟨rfl, gr2⟩
    ·have hRf : R = false := HY.out (fun h => hp (by rw [h]));subst hRf;have d2 : (x.pair != z.pair) = true := by simp [hp]
     clear HX HY hp;go_wp2_with fail;refine Zr [ex (.slice (some ⟨b1, o1, none⟩) s.length ca), ex (.int .i64 k), ex (.pointer (some ⟨b1, o1 + k * 5, none⟩)), ex (.pointer (some ⟨b1, o1 + k * 5 + 4, none⟩)), ex (.int .i64 x.pair), ex (.slice (some ⟨b2, o2, none⟩) t.length cb), ex (.int .i64 k), ex (.pointer (some ⟨b2, o2 + k * 5, none⟩)), ex (.pointer (some ⟨b2, o2 + k * 5 + 4, none⟩)), ex (.int .i64 z.pair), ex (.bool true), ex (.bool true), ex (undef), ex (undef), ex (undef), ex (undef), ex (undef), ex (undef), ex (undef), ex (undef), ex (undef), ex (undef), ex (undef), ex (undef), ex (.bool true)] (by kernel_rfl) (by kernel_rfl) ⟨Zc _, Zc _, Zc _, Zc _, Zc _, Zc _, Zc _, Zc _, Zc _, Zc _, Zc _, Zc _, Zc _, Zc _, Zc _, Zc _, Zc _, Zc _, Zc _, Zc _, Zc _, Zc _, Zc _, Zc _, Zc _, trivial⟩ ?_ ?_
     ·refine ⟨?_, ?_, ?_, ?_, ?_, ?_, ?_, ?_, ?_, ?_, ?_, ?_, ?_, ?_, ?_, ?_, ?_, ?_, ?_, ?_, ?_, ?_, ?_, ?_, ?_, trivial⟩
      ·exact Za rfl fun a _ _ _ _ A => Zf rfl (Zj A 0 rfl)
      ·exact Za rfl fun a _ _ _ _ A => Zf rfl (Zj A 5 rfl)
      ·refine Za rfl fun a _ _ _ B A => ?_;have e16 : a (.tmp 16) = _ := Zb A 0 rfl;have e17 : a (.tmp 17) = _ := Zb A 1 rfl;refine Ze ?_ rfl;clear A B;go_simp;all_goals go_arith
      ·refine Za rfl fun a _ _ _ B A => ?_;have e18 : a (.tmp 18) = _ := Zb A 2 rfl;refine Ze ?_ rfl;clear A B;go_simp;all_goals go_arith
      ·refine Za rfl fun a _ _ _ B A => ?_;have e19 : a (.tmp 19) = _ := Zb A 3 rfl;have h1 := (Below.cell B (Zn p4)).trans p4;refine Ze ?_ rfl;clear A B;go_simp;all_goals go_arith
      ·exact Za rfl fun a _ _ _ _ A => Zf rfl (Zj A 1 rfl)
      ·exact Za rfl fun a _ _ _ _ A => Zf rfl (Zj A 5 rfl)
      ·refine Za rfl fun a _ _ _ B A => ?_;have e21 : a (.tmp 21) = _ := Zb A 5 rfl;have e22 : a (.tmp 22) = _ := Zb A 6 rfl;refine Ze ?_ rfl;clear A B;go_simp;all_goals go_arith
      ·refine Za rfl fun a _ _ _ B A => ?_;have e23 : a (.tmp 23) = _ := Zb A 7 rfl;refine Ze ?_ rfl;clear A B;go_simp;all_goals go_arith
      ·refine Za rfl fun a _ _ _ B A => ?_;have e24 : a (.tmp 24) = _ := Zb A 8 rfl;have h1 := (Below.cell B (Zn q4)).trans q4;refine Ze ?_ rfl;clear A B;go_simp;all_goals go_arith
      ·refine Za rfl fun a _ _ _ B A => ?_;have e20 : a (.tmp 20) = _ := Zb A 4 rfl;have e25 : a (.tmp 25) = _ := Zb A 9 rfl;refine Ze ?_ rfl;clear A B;go_simp;all_goals go_arith
      ·exact Za rfl fun a _ _ _ _ A => Zf rfl (Zb A 10 rfl)
      ·refine Zi 11 false rfl rfl rfl (fun _ => rfl)
      ·refine Zi 11 false rfl rfl rfl (fun _ => rfl)
      ·refine Zi 11 false rfl rfl rfl (fun _ => rfl)
      ·refine Zi 11 false rfl rfl rfl (fun _ => rfl)
      ·refine Zi 11 false rfl rfl rfl (fun _ => rfl)
      ·refine Zi 11 false rfl rfl rfl (fun _ => rfl)
      ·refine Zi 11 false rfl rfl rfl (fun _ => rfl)
      ·refine Zi 11 false rfl rfl rfl (fun _ => rfl)
      ·refine Zi 11 false rfl rfl rfl (fun _ => rfl)
      ·refine Zi 11 false rfl rfl rfl (fun _ => rfl)
      ·refine Zi 11 false rfl rfl rfl (fun _ => rfl)
      ·refine Zi 11 false rfl rfl rfl (fun _ => rfl)
      ·refine Za rfl fun a _ B _ _ A => ?_;have ec : a (.tmp 27) = _ := Zb A 11 rfl;exact Zp rfl ec (B _)
     ·intro vs w' hg ht;obtain ⟨(r16 : vs 0 = _), (r17 : vs 1 = _), (r18 : vs 2 = _), (r19 : vs 3 = _), (r20 : vs 4 = _), (r21 : vs 5 = _), (r22 : vs 6 = _), (r23 : vs 7 = _), (r24 : vs 8 = _), (r25 : vs 9 = _), (r26 : vs 10 = _), (r27 : vs 11 = _), (r28 : vs 12 = _), (r29 : vs 13 = _), (r30 : vs 14 = _), (r31 : vs 15 = _), (r32 : vs 16 = _), (r33 : vs 17 = _), (r34 : vs 18 = _), (r35 : vs 19 = _), (r36 : vs 20 = _), (r37 : vs 21 = _), (r38 : vs 22 = _), (r39 : vs 23 = _), (r40 : vs 24 = _), -⟩ := ht;simp only [Z3, Act.put, List.setIfInBounds_toArray, List.set_cons_zero, List.set_cons_succ, r16, r17, r18, r19, r20, r21, r22, r23, r24, r25, r26, r27, r28, r29, r30, r31, r32, r33, r34, r35, r36, r37, r38, r39, r40];clear r16 r17 r18 r19 r20 r21 r22 r23 r24 r25 r26 r27 r28 r29 r30 r31 r32 r33 r34 r35 r36 r37 r38 r39 r40;have gr2 := hgr.trans hg;clear hg p0 p1 p2 p3 p4 q0 q1 q2 q3 q4 hu hz;go_wp2_with fail;go_ret;exact ⟨rfl, gr2⟩
   ·have hk' : k = s.length := by omega
    have hRt : R = true := by
     rw [HR.out, V9];have h := HK.out;rw [hk', List.take_length, HL.out, List.take_length] at h;exact h
    subst hRt;clear hk';go_wp2_with fail;go_ret;exact ⟨rfl, hgr⟩
 ·have HR : Hid (Vr s t = false) := Zcl fun h => hl (by rw [h])
  rw [HR.out];have d0 : ((s.length : Int) != (t.length : Int)) = true := by simp; omega
  clear hl;go_enter Try.func58, Try.ntmps58;go_wp2_with fail;go_ret;exact ⟨rfl, Zm.refl _⟩
def Y3 (d : Dk) : Nat → List Ent
 | 0 => []
 | n + 1 => if (d.tell (n : Int)).kind = 1 then Y3 d n else Y5 ⟨d.tell (n : Int), (n : Int)⟩ (Y3 d n)
theorem Zc7 (e : Ent) (l : List Ent) : (Xl e l).1.length = l.length + (if (Xl e l).2 = true then 1 else 0) := by
 have key : ∀ (l : List Ent) (st : List Ent × Bool), (l.foldl (Yr e) st).1.length + (if st.2 = true then 1 else 0) = st.1.length + l.length + (if (l.foldl (Yr e) st).2 = true then 1 else 0) := by
  intro l
  induction l with
  | nil => rintro ⟨a, b⟩; cases b <;> simp
  | cons x l ih =>
   intro st;rw [List.foldl_cons, List.length_cons];have h1 := ih (Yr e st x);have h2 : (Yr e st x).1.length + (if st.2 = true then 1 else 0) = st.1.length + 1 + (if (Yr e st x).2 = true then 1 else 0) := by
    unfold Yr;by_cases hc : st.2 = false ∧ Ya e x = true
    ·rw [if_pos hc, hc.1]; simp
    ·rw [if_neg hc]; simp
   omega
 have := key l ([], false);unfold Xl;simpa using this
theorem Kl (e : Ent) (l : List Ent) : (Y5 e l).length = l.length + 1 := by
 have h := Zc7 e l;unfold Y5;by_cases hd : (Xl e l).2 = true
 ·rw [if_pos hd] at h ⊢; exact h
 ·rw [if_neg hd] at h ⊢; simp [h]
theorem Je (d : Dk) : ∀ n, (Y3 d n).length ≤ n
 | 0 => by simp [Y3]
 | n + 1 => by
  have ih := Je d n;unfold Y3;split
  ·omega
  ·rw [Kl]; omega
theorem Zfx (S : Nat → Prop) (d : Dk) (vb vl : Value) (w : World) (hb : Xb S w vb d.blocks) (hl : Qr S w vl d.late) (hlen : d.blocks.length ≤ 256) (hm : d.late.length ≤ 999990) :
  Calls Try.prog 60 #[.agg #[vb, vl]] w fun r w' => ∃ v', r = .returned v' ∧ Yl (Qg S w.heap.size) w' v' (Y3 d (d.blocks.length / 2)) ∧ Zm w w' := by
 obtain ⟨ab, cb, rfl⟩ := hb.p.form;obtain ⟨al, cl, rfl⟩ := hl.p.form;have g0 := Zh w (.cells #[.slice ab d.blocks.length cb, .slice al d.late.length cl] 46);have hD0 := Zu w #[.slice ab d.blocks.length cb, .slice al d.late.length cl] 46;have hq : (d.blocks.length : Int).tdiv 2 = ((d.blocks.length / 2 : Nat) : Int) := by rw [Int.tdiv_eq_ediv_of_nonneg (by omega)]; omega
 obtain ⟨N, hN⟩ : ∃ N, N = d.blocks.length / 2 := ⟨_, rfl⟩;rw [← hN] at hq ⊢;have hN2 : N ≤ 128 := by omega
 clear hN;go_enter Try.func60, Try.ntmps60;go_wp2_with fail;generalize World.alloc w _ = W at *;go_loopw [3, 11] (fun o i wr => ∃ k : Nat, k ≤ N ∧ i = .int .i64 k ∧ Yl (fun b => Qg S (w.heap.size + 1) b ∧ b < wr.heap.size) wr o (Y3 d k) ∧ Zm w wr ∧ wr.heap[w.heap.size]? = some (.cells #[.slice ab d.blocks.length cb, .slice al d.late.length cl] 46 (0, 0))) (fun _ i _ => N - (intOf i).toNat)
 case atStart => exact ⟨0, Nat.zero_le _, rfl, Z5.nil _ _ _, g0, hD0⟩
 case round =>
  clear g0 hD0;obtain ⟨k, hk, rfl, hO, hg, hD⟩ := hrel;by_cases hlt : k < N
  ·have hsc := Je d k;have HN : Hid (Y3 d (k + 1) = if (d.tell (k : Int)).kind = 1 then Y3 d k else Y5 ⟨d.tell (k : Int), (k : Int)⟩ (Y3 d k)) := rfl;obtain ⟨a0, c0, rfl⟩ := hO.form;obtain ⟨x0, x1⟩ := Zb6 hD rfl rfl;go_wp2_with fail;refine (Zic _ d (k : Int) _ _ _ (hb.grow hg) (hl.grow hg) hlen hm).mono ?_;rintro e w1 ⟨dv, rfl, ho, g1⟩;obtain ⟨a1, c1, rfl⟩ := Yg ho;generalize d.tell (k : Int) = r at *;generalize d.how (k : Int) = how at *;have g2 := Zh w1 (.cells #[.int .i64 r.kind, .int .i64 r.key, .int .i64 r.ver, .slice a1 r.data.length c1] 32);have hR2 := Zu w1 #[.int .i64 r.kind, .int .i64 r.key, .int .i64 r.ver, .slice a1 r.data.length c1] 32;have hD2 := ((g1.trans g2).block _ (Zg hD)).trans hD;have hwr : w.heap.size + 1 ≤ wr.heap.size := Zg hD;have hB2 : Z4 (fun b => Qg S (w.heap.size + 1) b ∧ b < w1.heap.size + 1) (w1.alloc (.cells #[.int .i64 r.kind, .int .i64 r.key, .int .i64 r.ver, .slice a1 r.data.length c1] 32)) (.slice a1 r.data.length c1) r.data := by
    have h := ((Zh1 S (Z8 ho hwr)).grow g2).caps;rw [World.size_alloc] at h;exact h
   have hO2 : Yl (fun b => Qg S (w.heap.size + 1) b ∧ b < w1.heap.size + 1) (w1.alloc (.cells #[.int .i64 r.kind, .int .i64 r.key, .int .i64 r.ver, .slice a1 r.data.length c1] 32)) (.slice a0 (Y3 d k).length c0) (Y3 d k) := (hO.grow (g1.trans g2)).mono fun b h => ⟨h.1, by have := g1.size; omega⟩
   have gw2 := hg.trans (g1.trans g2);obtain ⟨r0, r1, r2, r3⟩ := Xm hR2 rfl rfl rfl rfl;have HSZ : Hid (w.heap.size + 1 ≤ w1.heap.size) := Nat.le_trans hwr g1.size;clear x0 x1 hO hg hD g1 g2 ho hR2 hwr;by_cases hk1 : r.kind = 1
   ·have HN2 : Hid (Y3 d (k + 1) = Y3 d k) := by show _ = _; rw [HN.out, if_pos hk1]
    have d1 : (r.kind != 1) = false := by simp [hk1]
    clear hk1 HN;have hsz := World.size_alloc w1 (.cells #[.int .i64 r.kind, .int .i64 r.key, .int .i64 r.ver, .slice a1 r.data.length c1] 32);have hO3 := hO2.mono (S' := fun b => Qg S (w.heap.size + 1) b ∧ b < (w1.alloc (.cells #[.int .i64 r.kind, .int .i64 r.key, .int .i64 r.ver, .slice a1 r.data.length c1] 32)).heap.size) (fun b h => ⟨h.1, by rw [hsz]; exact h.2⟩);clear hO2 hB2 hsz;go_wp2_with fail;go_roundw
    case rel => exact ⟨k + 1, by omega, by go_num, by rw [HN2.out]; exact hO3, gw2, hD2⟩
    case measure => simp [intOf]; omega
   ·have HN2 : Hid (Y3 d (k + 1) = Y5 ⟨r, (k : Int)⟩ (Y3 d k)) := by show _ = _; rw [HN.out, if_neg hk1]
    have d1 : (r.kind != 1) = true := by simp [hk1]
    clear hk1 HN;go_wp2_with fail;refine (Jx _ (Y3 d k) ⟨r, (k : Int)⟩ _ a1 c1 _ (fun b h => by rw [World.size_alloc]; exact h.2) hO2 hB2 (by omega)).mono ?_;rintro e w3 ⟨v3, rfl, hO3, g3⟩;rw [← HN2.out] at hO3;have hO4 : Yl (fun b => Qg S (w.heap.size + 1) b ∧ b < w3.heap.size) w3 v3 (Y3 d (k + 1)) := (hO3.caps (by decide)).mono fun b h => ⟨h.1.elim (fun x => x.1) (fun x => .inr (by have := HSZ.out; rw [World.size_alloc] at x; omega)), h.2⟩
    have hD3 := (g3.block _ (Zg hD2)).trans hD2;have gw3 := gw2.trans g3;clear hO2 hO3 hB2 hD2 gw2 g3 r0 r1 r2 r3;go_wp2_with fail;go_roundw
    case rel => exact ⟨k + 1, by omega, by go_num, hO4, gw3, hD3⟩
    case measure => simp [intOf]; omega
  ·have hk' : k = N := by omega
   subst hk';have hfin := hO.mono (S' := Qg S w.heap.size) (fun b h => Zbp (B := w.heap.size) (by omega) b h.1);obtain ⟨a0, c0, rfl⟩ := hO.form;clear hO;go_wp2_with fail;go_ret;exact ⟨_, rfl, hfin, hg⟩
end Go.Proofs.Ytpdnapbchcdhlaa
