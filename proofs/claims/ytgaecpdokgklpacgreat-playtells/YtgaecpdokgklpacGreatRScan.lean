import Derived.Test.YtgaecpdokgklpacGreatArg4
import Derived.Test.YtgaecpdokgklpacGreatRMend
set_option maxHeartbeats 8000000
namespace Go.Proofs.YtgaecpdokgklpacGreat
set_option maxRecDepth 100000
open Go.RowKit
open Plain Reg
def Ky : List Ent → List Ent → Bool
 | [], [] => true
 | x :: a, y :: b => (decide (x.pair = y.pair) && Qt x.rc y.rc) && Ky a b
 | _, _ => false
theorem Zbl : ∀ (a b : List Ent), Ky a b = true ↔ a = b
 | [], [] => by simp [Ky]
 | [], _ :: _ => by simp [Ky]
 | _ :: _, [] => by simp [Ky]
 | ⟨r, p⟩ :: a, ⟨q, o⟩ :: b => by
  have ih := Zbl a b;simp only [Ky, Bool.and_eq_true, decide_eq_true_eq, Ju, ih, List.cons.injEq, Ent.mk.injEq];constructor
  ·rintro ⟨⟨h1, h2⟩, h3⟩; exact ⟨⟨h2, h1⟩, h3⟩
  ·rintro ⟨⟨h1, h2⟩, h3⟩; exact ⟨⟨h2, h1⟩, h3⟩
theorem Zjg {a b : List Ent} (h : a ≠ b) : Ky a b = false := by
 cases hs : Ky a b with
 | false => rfl
 | true => exact absurd ((Zbl a b).1 hs) h
theorem Zom {α : Type} {a b : List α} {k : Nat} (h : a.take k = b.take k) (h1 : k < a.length) (h2 : k < b.length) (he : a[k] = b[k]) : a.take (k + 1) = b.take (k + 1) := by
 rw [List.take_succ_eq_append_getElem h1, List.take_succ_eq_append_getElem h2, h, he]
theorem Zlr (s t : List Ent) (v u : Value) (S S' : Nat → Prop) (w : World) (hs : Yr S w v s) (ht : Yr S' w u t) (hm : s.length ≤ 140737488355328) :
  Calls Tryz.prog 23 #[v, u] w fun e w' => e = .returned (.bool (Ky s t)) ∧ Zo w w' := by
 obtain ⟨ao, ca, rfl⟩ := hs.form;obtain ⟨bo, cb, rfl⟩ := ht.form;by_cases hl : s.length = t.length
 ·obtain ⟨R, hR⟩ : ∃ R, R = Ky s t := ⟨_, rfl⟩;rw [← hR];have HR : Hid _ := hR;have HL : Hid (s.length = t.length) := hl;have d0 : ((s.length : Int) != (t.length : Int)) = false := by simp [hl]
  have hm2 : t.length ≤ 140737488355328 := by omega
  clear hR hl;go_enter Tryz.func23, Tryz.ntmps23;go_wp2_with fail;clear d0;go_loopw [13] (fun i wr => ∃ k : Nat, k ≤ s.length ∧ i = .int .i64 k ∧ s.take k = t.take k ∧ Zo w wr) (fun i _ => s.length - (intOf i).toNat)
  case atStart => exact ⟨0, Nat.zero_le _, rfl, rfl, Zo.refl _⟩
  case round =>
   obtain ⟨k, hk, rfl, htk, hgr⟩ := hrel;have HK : Hid (s.take k = t.take k) := htk;clear htk;by_cases hlt : k < s.length
   ·have hlt2 : k < t.length := by rw [← HL.out]; exact hlt
    have hsr := hs.grow hgr;have htr := ht.grow hgr;obtain ⟨b1, o1, a1, c1, e1, p0, p1, p2, p3, p4, hu⟩ := V2 hsr k hlt;obtain ⟨b2, o2, a2, c2, e2, q0, q1, q2, q3, q4, hz⟩ := V2 htr k hlt2;cases e1;cases e2;have HX : Hid (s[k] = t[k] → s.take (k + 1) = t.take (k + 1)) := fun h => Zom HK.out hlt hlt2 h
    have HY : Hid (s[k] ≠ t[k] → R = false) := fun h => by
     rw [HR.out]; exact Zjg fun h2 => h (by simp [h2])
    generalize s[k] = x at *;generalize t[k] = z at *;clear hsr htr;by_cases hp : x.pair = z.pair
    ·cases hsb : Qt x.rc z.rc with
     | true =>
      have HB : Hid (Qt x.rc z.rc = true) := hsb;have HZ : Hid (s.take (k + 1) = t.take (k + 1)) := HX.out (by
       obtain ⟨xr, xp⟩ := x;obtain ⟨zr, zp⟩ := z;have h1 := (Ju xr zr).1 hsb;simp only at hp;rw [h1, hp])
      clear hsb HX HY;go_wp2_with fail;refine Ya [ex (.slice (some ⟨b1, o1, none⟩) s.length ca), ex (.int .i64 k), ex (.pointer (some ⟨b1, o1 + k * 5, none⟩)), ex (.pointer (some ⟨b1, o1 + k * 5 + 4, none⟩)), ex (.int .i64 x.pair), ex (.slice (some ⟨b2, o2, none⟩) t.length cb), ex (.int .i64 k), ex (.pointer (some ⟨b2, o2 + k * 5, none⟩)), ex (.pointer (some ⟨b2, o2 + k * 5 + 4, none⟩)), ex (.int .i64 z.pair), ex (.bool false), ex (.bool false), ex (.slice (some ⟨b1, o1, none⟩) s.length ca), ex (.int .i64 k), ex (.pointer (some ⟨b1, o1 + k * 5, none⟩)), ex (.pointer (some ⟨b1, o1 + k * 5, none⟩)), ex (.agg #[.int .i64 x.rc.kind, .int .i64 x.rc.key, .int .i64 x.rc.ver, .slice a1 x.rc.data.length c1]), ex (.slice (some ⟨b2, o2, none⟩) t.length cb), ex (.int .i64 k), ex (.pointer (some ⟨b2, o2 + k * 5, none⟩)), ex (.pointer (some ⟨b2, o2 + k * 5, none⟩)), ex (.agg #[.int .i64 z.rc.kind, .int .i64 z.rc.key, .int .i64 z.rc.ver, .slice a2 z.rc.data.length c2]), ex (.bool true), ex (.bool false), ex (.bool false)] (by kernel_rfl) (by kernel_rfl) ⟨Zh _, Zh _, Zh _, Zh _, Zh _, Zh _, Zh _, Zh _, Zh _, Zh _, Zh _, Zh _, Zh _, Zh _, Zh _, Zh _, Zh _, Zh _, Zh _, Zh _, Zh _, Zh _, Zh _, Zh _, Zh _, trivial⟩ ?_ ?_
      ·refine ⟨?_, ?_, ?_, ?_, ?_, ?_, ?_, ?_, ?_, ?_, ?_, ?_, ?_, ?_, ?_, ?_, ?_, ?_, ?_, ?_, ?_, ?_, ?_, ?_, ?_, trivial⟩
       ·refine Zb rfl fun a w' ek ef hg hin => ?_;have e : a (.tmp 0) = .slice (some ⟨b1, o1, none⟩) s.length ca := Zx hin 0 rfl;exact Zt rfl e
       ·refine Zb rfl fun a w' ek ef hg hin => ?_;have e : a (.tmp 5) = .int .i64 k := Zx hin 5 rfl;exact Zt rfl e
       ·refine Zb rfl fun a w' ek ef hg hin => ?_;have e16 : a (.tmp 16) = _ := Zg hin 0 rfl;have e17 : a (.tmp 17) = _ := Zg hin 1 rfl;refine Zi ?_ rfl;clear hin hg;go_simp;all_goals go_arith
       ·refine Zb rfl fun a w' ek ef hg hin => ?_;have e18 : a (.tmp 18) = _ := Zg hin 2 rfl;refine Zi ?_ rfl;clear hin hg;go_simp;all_goals go_arith
       ·refine Zb rfl fun a w' ek ef hg hin => ?_;have e19 : a (.tmp 19) = _ := Zg hin 3 rfl;have h1 := (Below.cell hg (Zu p4)).trans p4;refine Zi ?_ rfl;clear hin hg;go_simp;all_goals go_arith
       ·refine Zb rfl fun a w' ek ef hg hin => ?_;have e : a (.tmp 1) = .slice (some ⟨b2, o2, none⟩) t.length cb := Zx hin 1 rfl;exact Zt rfl e
       ·refine Zb rfl fun a w' ek ef hg hin => ?_;have e : a (.tmp 5) = .int .i64 k := Zx hin 5 rfl;exact Zt rfl e
       ·refine Zb rfl fun a w' ek ef hg hin => ?_;have e21 : a (.tmp 21) = _ := Zg hin 5 rfl;have e22 : a (.tmp 22) = _ := Zg hin 6 rfl;refine Zi ?_ rfl;clear hin hg;go_simp;all_goals go_arith
       ·refine Zb rfl fun a w' ek ef hg hin => ?_;have e23 : a (.tmp 23) = _ := Zg hin 7 rfl;refine Zi ?_ rfl;clear hin hg;go_simp;all_goals go_arith
       ·refine Zb rfl fun a w' ek ef hg hin => ?_;have e24 : a (.tmp 24) = _ := Zg hin 8 rfl;have h1 := (Below.cell hg (Zu q4)).trans q4;refine Zi ?_ rfl;clear hin hg;go_simp;all_goals go_arith
       ·refine Zb rfl fun a w' ek ef hg hin => ?_;have e20 : a (.tmp 20) = _ := Zg hin 4 rfl;have e25 : a (.tmp 25) = _ := Zg hin 9 rfl;refine Zi ?_ rfl;clear hin hg;go_simp;all_goals go_arith
       ·refine Zb rfl fun a w' ek ef hg hin => ?_;have e : a (.tmp 26) = _ := Zg hin 10 rfl;exact Zt rfl e
       ·refine Zq 11 false rfl (fun a w' hin => Zp hin 11 (by kernel_rfl)) fun a w' ek ef hg hin => ?_;have e : a (.tmp 0) = .slice (some ⟨b1, o1, none⟩) s.length ca := Zx hin 0 rfl;exact Zt rfl e
       ·refine Zq 11 false rfl (fun a w' hin => Zp hin 11 (by kernel_rfl)) fun a w' ek ef hg hin => ?_;have e : a (.tmp 5) = .int .i64 k := Zx hin 5 rfl;exact Zt rfl e
       ·refine Zq 11 false rfl (fun a w' hin => Zp hin 11 (by kernel_rfl)) fun a w' ek ef hg hin => ?_;have e28 : a (.tmp 28) = _ := Zg hin 12 rfl;have e29 : a (.tmp 29) = _ := Zg hin 13 rfl;refine Zi ?_ rfl;clear hin hg;go_simp;all_goals go_arith
       ·refine Zq 11 false rfl (fun a w' hin => Zp hin 11 (by kernel_rfl)) fun a w' ek ef hg hin => ?_;have e30 : a (.tmp 30) = _ := Zg hin 14 rfl;refine Zi ?_ rfl;clear hin hg;go_simp;all_goals go_arith
       ·refine Zq 11 false rfl (fun a w' hin => Zp hin 11 (by kernel_rfl)) fun a w' ek ef hg hin => ?_;have e31 : a (.tmp 31) = _ := Zg hin 15 rfl;have h1 := (Below.cell hg (Zu p0)).trans p0;have h2 := (Below.cell hg (Zu p1)).trans p1;have h3 := (Below.cell hg (Zu p2)).trans p2;have h4 := (Below.cell hg (Zu p3)).trans p3;refine Zi ?_ rfl;clear hin hg;go_simp;all_goals go_arith
       ·refine Zq 11 false rfl (fun a w' hin => Zp hin 11 (by kernel_rfl)) fun a w' ek ef hg hin => ?_;have e : a (.tmp 1) = .slice (some ⟨b2, o2, none⟩) t.length cb := Zx hin 1 rfl;exact Zt rfl e
       ·refine Zq 11 false rfl (fun a w' hin => Zp hin 11 (by kernel_rfl)) fun a w' ek ef hg hin => ?_;have e : a (.tmp 5) = .int .i64 k := Zx hin 5 rfl;exact Zt rfl e
       ·refine Zq 11 false rfl (fun a w' hin => Zp hin 11 (by kernel_rfl)) fun a w' ek ef hg hin => ?_;have e33 : a (.tmp 33) = _ := Zg hin 17 rfl;have e34 : a (.tmp 34) = _ := Zg hin 18 rfl;refine Zi ?_ rfl;clear hin hg;go_simp;all_goals go_arith
       ·refine Zq 11 false rfl (fun a w' hin => Zp hin 11 (by kernel_rfl)) fun a w' ek ef hg hin => ?_;have e35 : a (.tmp 35) = _ := Zg hin 19 rfl;refine Zi ?_ rfl;clear hin hg;go_simp;all_goals go_arith
       ·refine Zq 11 false rfl (fun a w' hin => Zp hin 11 (by kernel_rfl)) fun a w' ek ef hg hin => ?_;have e36 : a (.tmp 36) = _ := Zg hin 20 rfl;have h1 := (Below.cell hg (Zu q0)).trans q0;have h2 := (Below.cell hg (Zu q1)).trans q1;have h3 := (Below.cell hg (Zu q2)).trans q2;have h4 := (Below.cell hg (Zu q3)).trans q3;refine Zi ?_ rfl;clear hin hg;go_simp;all_goals go_arith
       ·refine Zq 11 false rfl (fun a w' hin => Zp hin 11 (by kernel_rfl)) fun a w' ek ef hg hin => ?_;have e32 : a (.tmp 32) = _ := Zg hin 16 rfl;have e37 : a (.tmp 37) = _ := Zg hin 21 rfl;refine Y5 (f := 49) (args := #[.agg #[.int .i64 x.rc.kind, .int .i64 x.rc.key, .int .i64 x.rc.ver, .slice a1 x.rc.data.length c1], .agg #[.int .i64 z.rc.kind, .int .i64 z.rc.key, .int .i64 z.rc.ver, .slice a2 z.rc.data.length c2]]) ?_ ((Zdh _ _ _ _ _ _ x.rc.data z.rc.data _ _ w' (Z1 hu.p hg) (Z1 hz.p hg)).mono ?_)
        ·clear hin hg;go_simp;all_goals go_arith
        ·rintro e w2 ⟨rfl, g2⟩;exact ⟨_, rfl, g2, by rw [← HB.out]; rfl⟩
       ·refine Zq 11 false rfl (fun a w' hin => Zp hin 11 (by kernel_rfl)) fun a w' ek ef hg hin => ?_;have e38 : a (.tmp 38) = _ := Zg hin 22 rfl;refine Zi ?_ rfl;clear hin hg;go_simp;all_goals go_arith
       ·refine Zb rfl fun a w' ek ef hg hin => ?_;have ec : a (.tmp 27) = _ := Zg hin 11 rfl;have e : a (.tmp 39) = _ := Zg hin 23 rfl;exact Xc rfl ec e
      ·intro vs w' hg ht;obtain ⟨q16, q17, q18, q19, q20, q21, q22, q23, q24, q25, q26, q27, q28, q29, q30, q31, q32, q33, q34, q35, q36, q37, q38, q39, q40, -⟩ := ht;have r16 : vs 0 = .slice (some ⟨b1, o1, none⟩) s.length ca := q16;have r17 : vs 1 = .int .i64 k := q17;have r18 : vs 2 = .pointer (some ⟨b1, o1 + k * 5, none⟩) := q18;have r19 : vs 3 = .pointer (some ⟨b1, o1 + k * 5 + 4, none⟩) := q19;have r20 : vs 4 = .int .i64 x.pair := q20;have r21 : vs 5 = .slice (some ⟨b2, o2, none⟩) t.length cb := q21;have r22 : vs 6 = .int .i64 k := q22;have r23 : vs 7 = .pointer (some ⟨b2, o2 + k * 5, none⟩) := q23;have r24 : vs 8 = .pointer (some ⟨b2, o2 + k * 5 + 4, none⟩) := q24;have r25 : vs 9 = .int .i64 z.pair := q25;have r26 : vs 10 = .bool false := q26;have r27 : vs 11 = .bool false := q27;have r28 : vs 12 = .slice (some ⟨b1, o1, none⟩) s.length ca := q28;have r29 : vs 13 = .int .i64 k := q29;have r30 : vs 14 = .pointer (some ⟨b1, o1 + k * 5, none⟩) := q30;have r31 : vs 15 = .pointer (some ⟨b1, o1 + k * 5, none⟩) := q31;have r32 : vs 16 = .agg #[.int .i64 x.rc.kind, .int .i64 x.rc.key, .int .i64 x.rc.ver, .slice a1 x.rc.data.length c1] := q32;have r33 : vs 17 = .slice (some ⟨b2, o2, none⟩) t.length cb := q33;have r34 : vs 18 = .int .i64 k := q34;have r35 : vs 19 = .pointer (some ⟨b2, o2 + k * 5, none⟩) := q35;have r36 : vs 20 = .pointer (some ⟨b2, o2 + k * 5, none⟩) := q36
       have r37 : vs 21 = .agg #[.int .i64 z.rc.kind, .int .i64 z.rc.key, .int .i64 z.rc.ver, .slice a2 z.rc.data.length c2] := q37;have r38 : vs 22 = .bool true := q38;have r39 : vs 23 = .bool false := q39;have r40 : vs 24 = .bool false := q40;clear q16 q17 q18 q19 q20 q21 q22 q23 q24 q25 q26 q27 q28 q29 q30 q31 q32 q33 q34 q35 q36 q37 q38 q39 q40;simp only [Yf, Act.put, List.setIfInBounds_toArray, List.set_cons_zero, List.set_cons_succ, r16, r17, r18, r19, r20, r21, r22, r23, r24, r25, r26, r27, r28, r29, r30, r31, r32, r33, r34, r35, r36, r37, r38, r39, r40];clear r16 r17 r18 r19 r20 r21 r22 r23 r24 r25 r26 r27 r28 r29 r30 r31 r32 r33 r34 r35 r36 r37 r38 r39 r40;have gr2 := hgr.trans hg;clear hg p0 p1 p2 p3 p4 q0 q1 q2 q3 q4 hu hz;go_wp2_with fail;go_roundw
       case rel => exact ⟨k + 1, by omega, by go_num, HZ.out, gr2⟩
       case measure => simp [intOf]; omega
     | false =>
      have HB : Hid (Qt x.rc z.rc = false) := hsb;have hRf : R = false := HY.out (by
       intro h;rw [h] at hsb;rw [(Ju z.rc z.rc).2 rfl] at hsb;cases hsb)
      subst hRf;clear hsb HX HY;go_wp2_with fail;refine Ya [ex (.slice (some ⟨b1, o1, none⟩) s.length ca), ex (.int .i64 k), ex (.pointer (some ⟨b1, o1 + k * 5, none⟩)), ex (.pointer (some ⟨b1, o1 + k * 5 + 4, none⟩)), ex (.int .i64 x.pair), ex (.slice (some ⟨b2, o2, none⟩) t.length cb), ex (.int .i64 k), ex (.pointer (some ⟨b2, o2 + k * 5, none⟩)), ex (.pointer (some ⟨b2, o2 + k * 5 + 4, none⟩)), ex (.int .i64 z.pair), ex (.bool false), ex (.bool false), ex (.slice (some ⟨b1, o1, none⟩) s.length ca), ex (.int .i64 k), ex (.pointer (some ⟨b1, o1 + k * 5, none⟩)), ex (.pointer (some ⟨b1, o1 + k * 5, none⟩)), ex (.agg #[.int .i64 x.rc.kind, .int .i64 x.rc.key, .int .i64 x.rc.ver, .slice a1 x.rc.data.length c1]), ex (.slice (some ⟨b2, o2, none⟩) t.length cb), ex (.int .i64 k), ex (.pointer (some ⟨b2, o2 + k * 5, none⟩)), ex (.pointer (some ⟨b2, o2 + k * 5, none⟩)), ex (.agg #[.int .i64 z.rc.kind, .int .i64 z.rc.key, .int .i64 z.rc.ver, .slice a2 z.rc.data.length c2]), ex (.bool false), ex (.bool true), ex (.bool true)] (by kernel_rfl) (by kernel_rfl) ⟨Zh _, Zh _, Zh _, Zh _, Zh _, Zh _, Zh _, Zh _, Zh _, Zh _, Zh _, Zh _, Zh _, Zh _, Zh _, Zh _, Zh _, Zh _, Zh _, Zh _, Zh _, Zh _, Zh _, Zh _, Zh _, trivial⟩ ?_ ?_
      ·refine ⟨?_, ?_, ?_, ?_, ?_, ?_, ?_, ?_, ?_, ?_, ?_, ?_, ?_, ?_, ?_, ?_, ?_, ?_, ?_, ?_, ?_, ?_, ?_, ?_, ?_, trivial⟩
       ·refine Zb rfl fun a w' ek ef hg hin => ?_;have e : a (.tmp 0) = .slice (some ⟨b1, o1, none⟩) s.length ca := Zx hin 0 rfl;exact Zt rfl e
       ·refine Zb rfl fun a w' ek ef hg hin => ?_;have e : a (.tmp 5) = .int .i64 k := Zx hin 5 rfl;exact Zt rfl e
       ·refine Zb rfl fun a w' ek ef hg hin => ?_;have e16 : a (.tmp 16) = _ := Zg hin 0 rfl;have e17 : a (.tmp 17) = _ := Zg hin 1 rfl;refine Zi ?_ rfl;clear hin hg;go_simp;all_goals go_arith
       ·refine Zb rfl fun a w' ek ef hg hin => ?_;have e18 : a (.tmp 18) = _ := Zg hin 2 rfl;refine Zi ?_ rfl;clear hin hg;go_simp;all_goals go_arith
       ·refine Zb rfl fun a w' ek ef hg hin => ?_;have e19 : a (.tmp 19) = _ := Zg hin 3 rfl;have h1 := (Below.cell hg (Zu p4)).trans p4;refine Zi ?_ rfl;clear hin hg;go_simp;all_goals go_arith
       ·refine Zb rfl fun a w' ek ef hg hin => ?_;have e : a (.tmp 1) = .slice (some ⟨b2, o2, none⟩) t.length cb := Zx hin 1 rfl;exact Zt rfl e
       ·refine Zb rfl fun a w' ek ef hg hin => ?_;have e : a (.tmp 5) = .int .i64 k := Zx hin 5 rfl;exact Zt rfl e
       ·refine Zb rfl fun a w' ek ef hg hin => ?_;have e21 : a (.tmp 21) = _ := Zg hin 5 rfl;have e22 : a (.tmp 22) = _ := Zg hin 6 rfl;refine Zi ?_ rfl;clear hin hg;go_simp;all_goals go_arith
       ·refine Zb rfl fun a w' ek ef hg hin => ?_;have e23 : a (.tmp 23) = _ := Zg hin 7 rfl;refine Zi ?_ rfl;clear hin hg;go_simp;all_goals go_arith
       ·refine Zb rfl fun a w' ek ef hg hin => ?_;have e24 : a (.tmp 24) = _ := Zg hin 8 rfl;have h1 := (Below.cell hg (Zu q4)).trans q4;refine Zi ?_ rfl;clear hin hg;go_simp;all_goals go_arith
       ·refine Zb rfl fun a w' ek ef hg hin => ?_;have e20 : a (.tmp 20) = _ := Zg hin 4 rfl;have e25 : a (.tmp 25) = _ := Zg hin 9 rfl;refine Zi ?_ rfl;clear hin hg;go_simp;all_goals go_arith
       ·refine Zb rfl fun a w' ek ef hg hin => ?_;have e : a (.tmp 26) = _ := Zg hin 10 rfl;exact Zt rfl e
       ·refine Zq 11 false rfl (fun a w' hin => Zp hin 11 (by kernel_rfl)) fun a w' ek ef hg hin => ?_;have e : a (.tmp 0) = .slice (some ⟨b1, o1, none⟩) s.length ca := Zx hin 0 rfl;exact Zt rfl e
       ·refine Zq 11 false rfl (fun a w' hin => Zp hin 11 (by kernel_rfl)) fun a w' ek ef hg hin => ?_;have e : a (.tmp 5) = .int .i64 k := Zx hin 5 rfl;exact Zt rfl e
       ·refine Zq 11 false rfl (fun a w' hin => Zp hin 11 (by kernel_rfl)) fun a w' ek ef hg hin => ?_;have e28 : a (.tmp 28) = _ := Zg hin 12 rfl;have e29 : a (.tmp 29) = _ := Zg hin 13 rfl;refine Zi ?_ rfl;clear hin hg;go_simp;all_goals go_arith
       ·refine Zq 11 false rfl (fun a w' hin => Zp hin 11 (by kernel_rfl)) fun a w' ek ef hg hin => ?_;have e30 : a (.tmp 30) = _ := Zg hin 14 rfl;refine Zi ?_ rfl;clear hin hg;go_simp;all_goals go_arith
       ·refine Zq 11 false rfl (fun a w' hin => Zp hin 11 (by kernel_rfl)) fun a w' ek ef hg hin => ?_;have e31 : a (.tmp 31) = _ := Zg hin 15 rfl;have h1 := (Below.cell hg (Zu p0)).trans p0;have h2 := (Below.cell hg (Zu p1)).trans p1;have h3 := (Below.cell hg (Zu p2)).trans p2;have h4 := (Below.cell hg (Zu p3)).trans p3;refine Zi ?_ rfl;clear hin hg;go_simp;all_goals go_arith
       ·refine Zq 11 false rfl (fun a w' hin => Zp hin 11 (by kernel_rfl)) fun a w' ek ef hg hin => ?_;have e : a (.tmp 1) = .slice (some ⟨b2, o2, none⟩) t.length cb := Zx hin 1 rfl;exact Zt rfl e
       ·refine Zq 11 false rfl (fun a w' hin => Zp hin 11 (by kernel_rfl)) fun a w' ek ef hg hin => ?_;have e : a (.tmp 5) = .int .i64 k := Zx hin 5 rfl;exact Zt rfl e
       ·refine Zq 11 false rfl (fun a w' hin => Zp hin 11 (by kernel_rfl)) fun a w' ek ef hg hin => ?_;have e33 : a (.tmp 33) = _ := Zg hin 17 rfl;have e34 : a (.tmp 34) = _ := Zg hin 18 rfl;refine Zi ?_ rfl;clear hin hg;go_simp;all_goals go_arith
       ·refine Zq 11 false rfl (fun a w' hin => Zp hin 11 (by kernel_rfl)) fun a w' ek ef hg hin => ?_;have e35 : a (.tmp 35) = _ := Zg hin 19 rfl;refine Zi ?_ rfl;clear hin hg;go_simp;all_goals go_arith
       ·refine Zq 11 false rfl (fun a w' hin => Zp hin 11 (by kernel_rfl)) fun a w' ek ef hg hin => ?_;have e36 : a (.tmp 36) = _ := Zg hin 20 rfl;have h1 := (Below.cell hg (Zu q0)).trans q0;have h2 := (Below.cell hg (Zu q1)).trans q1;have h3 := (Below.cell hg (Zu q2)).trans q2;have h4 := (Below.cell hg (Zu q3)).trans q3;refine Zi ?_ rfl;clear hin hg;go_simp;all_goals go_arith
       ·refine Zq 11 false rfl (fun a w' hin => Zp hin 11 (by kernel_rfl)) fun a w' ek ef hg hin => ?_;have e32 : a (.tmp 32) = _ := Zg hin 16 rfl;have e37 : a (.tmp 37) = _ := Zg hin 21 rfl;refine Y5 (f := 49) (args := #[.agg #[.int .i64 x.rc.kind, .int .i64 x.rc.key, .int .i64 x.rc.ver, .slice a1 x.rc.data.length c1], .agg #[.int .i64 z.rc.kind, .int .i64 z.rc.key, .int .i64 z.rc.ver, .slice a2 z.rc.data.length c2]]) ?_ ((Zdh _ _ _ _ _ _ x.rc.data z.rc.data _ _ w' (Z1 hu.p hg) (Z1 hz.p hg)).mono ?_)
        ·clear hin hg;go_simp;all_goals go_arith
        ·rintro e w2 ⟨rfl, g2⟩;exact ⟨_, rfl, g2, by rw [← HB.out]; rfl⟩
       ·refine Zq 11 false rfl (fun a w' hin => Zp hin 11 (by kernel_rfl)) fun a w' ek ef hg hin => ?_;have e38 : a (.tmp 38) = _ := Zg hin 22 rfl;refine Zi ?_ rfl;clear hin hg;go_simp;all_goals go_arith
       ·refine Zb rfl fun a w' ek ef hg hin => ?_;have ec : a (.tmp 27) = _ := Zg hin 11 rfl;have e : a (.tmp 39) = _ := Zg hin 23 rfl;exact Xc rfl ec e
      ·intro vs w' hg ht;obtain ⟨q16, q17, q18, q19, q20, q21, q22, q23, q24, q25, q26, q27, q28, q29, q30, q31, q32, q33, q34, q35, q36, q37, q38, q39, q40, -⟩ := ht;have r16 : vs 0 = .slice (some ⟨b1, o1, none⟩) s.length ca := q16;have r17 : vs 1 = .int .i64 k := q17;have r18 : vs 2 = .pointer (some ⟨b1, o1 + k * 5, none⟩) := q18;have r19 : vs 3 = .pointer (some ⟨b1, o1 + k * 5 + 4, none⟩) := q19;have r20 : vs 4 = .int .i64 x.pair := q20;have r21 : vs 5 = .slice (some ⟨b2, o2, none⟩) t.length cb := q21;have r22 : vs 6 = .int .i64 k := q22;have r23 : vs 7 = .pointer (some ⟨b2, o2 + k * 5, none⟩) := q23;have r24 : vs 8 = .pointer (some ⟨b2, o2 + k * 5 + 4, none⟩) := q24;have r25 : vs 9 = .int .i64 z.pair := q25;have r26 : vs 10 = .bool false := q26;have r27 : vs 11 = .bool false := q27;have r28 : vs 12 = .slice (some ⟨b1, o1, none⟩) s.length ca := q28;have r29 : vs 13 = .int .i64 k := q29;have r30 : vs 14 = .pointer (some ⟨b1, o1 + k * 5, none⟩) := q30;have r31 : vs 15 = .pointer (some ⟨b1, o1 + k * 5, none⟩) := q31;have r32 : vs 16 = .agg #[.int .i64 x.rc.kind, .int .i64 x.rc.key, .int .i64 x.rc.ver, .slice a1 x.rc.data.length c1] := q32;have r33 : vs 17 = .slice (some ⟨b2, o2, none⟩) t.length cb := q33;have r34 : vs 18 = .int .i64 k := q34;have r35 : vs 19 = .pointer (some ⟨b2, o2 + k * 5, none⟩) := q35;have r36 : vs 20 = .pointer (some ⟨b2, o2 + k * 5, none⟩) := q36
       have r37 : vs 21 = .agg #[.int .i64 z.rc.kind, .int .i64 z.rc.key, .int .i64 z.rc.ver, .slice a2 z.rc.data.length c2] := q37;have r38 : vs 22 = .bool false := q38;have r39 : vs 23 = .bool true := q39;have r40 : vs 24 = .bool true := q40;clear q16 q17 q18 q19 q20 q21 q22 q23 q24 q25 q26 q27 q28 q29 q30 q31 q32 q33 q34 q35 q36 q37 q38 q39 q40;simp only [Yf, Act.put, List.setIfInBounds_toArray, List.set_cons_zero, List.set_cons_succ, r16, r17, r18, r19, r20, r21, r22, r23, r24, r25, r26, r27, r28, r29, r30, r31, r32, r33, r34, r35, r36, r37, r38, r39, r40];clear r16 r17 r18 r19 r20 r21 r22 r23 r24 r25 r26 r27 r28 r29 r30 r31 r32 r33 r34 r35 r36 r37 r38 r39 r40;have gr2 := hgr.trans hg;clear hg p0 p1 p2 p3 p4 q0 q1 q2 q3 q4 hu hz;go_wp2_with fail;go_ret;exact ⟨rfl, gr2⟩
    ·have hRf : R = false := HY.out (fun h => hp (by rw [h]));subst hRf;have d2 : (x.pair != z.pair) = true := by simp [hp]
     clear HX HY hp;go_wp2_with fail;refine Ya [ex (.slice (some ⟨b1, o1, none⟩) s.length ca), ex (.int .i64 k), ex (.pointer (some ⟨b1, o1 + k * 5, none⟩)), ex (.pointer (some ⟨b1, o1 + k * 5 + 4, none⟩)), ex (.int .i64 x.pair), ex (.slice (some ⟨b2, o2, none⟩) t.length cb), ex (.int .i64 k), ex (.pointer (some ⟨b2, o2 + k * 5, none⟩)), ex (.pointer (some ⟨b2, o2 + k * 5 + 4, none⟩)), ex (.int .i64 z.pair), ex (.bool true), ex (.bool true), ex (undef), ex (undef), ex (undef), ex (undef), ex (undef), ex (undef), ex (undef), ex (undef), ex (undef), ex (undef), ex (undef), ex (undef), ex (.bool true)] (by kernel_rfl) (by kernel_rfl) ⟨Zh _, Zh _, Zh _, Zh _, Zh _, Zh _, Zh _, Zh _, Zh _, Zh _, Zh _, Zh _, Zh _, Zh _, Zh _, Zh _, Zh _, Zh _, Zh _, Zh _, Zh _, Zh _, Zh _, Zh _, Zh _, trivial⟩ ?_ ?_
     ·refine ⟨?_, ?_, ?_, ?_, ?_, ?_, ?_, ?_, ?_, ?_, ?_, ?_, ?_, ?_, ?_, ?_, ?_, ?_, ?_, ?_, ?_, ?_, ?_, ?_, ?_, trivial⟩
      ·refine Zb rfl fun a w' ek ef hg hin => ?_;have e : a (.tmp 0) = .slice (some ⟨b1, o1, none⟩) s.length ca := Zx hin 0 rfl;exact Zt rfl e
      ·refine Zb rfl fun a w' ek ef hg hin => ?_;have e : a (.tmp 5) = .int .i64 k := Zx hin 5 rfl;exact Zt rfl e
      ·refine Zb rfl fun a w' ek ef hg hin => ?_;have e16 : a (.tmp 16) = _ := Zg hin 0 rfl;have e17 : a (.tmp 17) = _ := Zg hin 1 rfl;refine Zi ?_ rfl;clear hin hg;go_simp;all_goals go_arith
      ·refine Zb rfl fun a w' ek ef hg hin => ?_;have e18 : a (.tmp 18) = _ := Zg hin 2 rfl;refine Zi ?_ rfl;clear hin hg;go_simp;all_goals go_arith
      ·refine Zb rfl fun a w' ek ef hg hin => ?_;have e19 : a (.tmp 19) = _ := Zg hin 3 rfl;have h1 := (Below.cell hg (Zu p4)).trans p4;refine Zi ?_ rfl;clear hin hg;go_simp;all_goals go_arith
      ·refine Zb rfl fun a w' ek ef hg hin => ?_;have e : a (.tmp 1) = .slice (some ⟨b2, o2, none⟩) t.length cb := Zx hin 1 rfl;exact Zt rfl e
      ·refine Zb rfl fun a w' ek ef hg hin => ?_;have e : a (.tmp 5) = .int .i64 k := Zx hin 5 rfl;exact Zt rfl e
      ·refine Zb rfl fun a w' ek ef hg hin => ?_;have e21 : a (.tmp 21) = _ := Zg hin 5 rfl;have e22 : a (.tmp 22) = _ := Zg hin 6 rfl;refine Zi ?_ rfl;clear hin hg;go_simp;all_goals go_arith
      ·refine Zb rfl fun a w' ek ef hg hin => ?_;have e23 : a (.tmp 23) = _ := Zg hin 7 rfl;refine Zi ?_ rfl;clear hin hg;go_simp;all_goals go_arith
      ·refine Zb rfl fun a w' ek ef hg hin => ?_;have e24 : a (.tmp 24) = _ := Zg hin 8 rfl;have h1 := (Below.cell hg (Zu q4)).trans q4;refine Zi ?_ rfl;clear hin hg;go_simp;all_goals go_arith
      ·refine Zb rfl fun a w' ek ef hg hin => ?_;have e20 : a (.tmp 20) = _ := Zg hin 4 rfl;have e25 : a (.tmp 25) = _ := Zg hin 9 rfl;refine Zi ?_ rfl;clear hin hg;go_simp;all_goals go_arith
      ·refine Zb rfl fun a w' ek ef hg hin => ?_;have e : a (.tmp 26) = _ := Zg hin 10 rfl;exact Zt rfl e
      ·refine Zz 11 false true rfl (by decide) (fun a w' hin => Zp hin 11 (by kernel_rfl)) (fun _ => rfl)
      ·refine Zz 11 false true rfl (by decide) (fun a w' hin => Zp hin 11 (by kernel_rfl)) (fun _ => rfl)
      ·refine Zz 11 false true rfl (by decide) (fun a w' hin => Zp hin 11 (by kernel_rfl)) (fun _ => rfl)
      ·refine Zz 11 false true rfl (by decide) (fun a w' hin => Zp hin 11 (by kernel_rfl)) (fun _ => rfl)
      ·refine Zz 11 false true rfl (by decide) (fun a w' hin => Zp hin 11 (by kernel_rfl)) (fun _ => rfl)
      ·refine Zz 11 false true rfl (by decide) (fun a w' hin => Zp hin 11 (by kernel_rfl)) (fun _ => rfl)
      ·refine Zz 11 false true rfl (by decide) (fun a w' hin => Zp hin 11 (by kernel_rfl)) (fun _ => rfl)
      ·refine Zz 11 false true rfl (by decide) (fun a w' hin => Zp hin 11 (by kernel_rfl)) (fun _ => rfl)
      ·refine Zz 11 false true rfl (by decide) (fun a w' hin => Zp hin 11 (by kernel_rfl)) (fun _ => rfl)
      ·refine Zz 11 false true rfl (by decide) (fun a w' hin => Zp hin 11 (by kernel_rfl)) (fun _ => rfl)
      ·refine Zz 11 false true rfl (by decide) (fun a w' hin => Zp hin 11 (by kernel_rfl)) (fun _ => rfl)
      ·refine Zz 11 false true rfl (by decide) (fun a w' hin => Zp hin 11 (by kernel_rfl)) (fun _ => rfl)
      ·refine Zb rfl fun a w' ek ef hg hin => ?_;have ec : a (.tmp 27) = _ := Zg hin 11 rfl;exact Xc rfl ec (ek _)
     ·intro vs w' hg ht;obtain ⟨q16, q17, q18, q19, q20, q21, q22, q23, q24, q25, q26, q27, q28, q29, q30, q31, q32, q33, q34, q35, q36, q37, q38, q39, q40, -⟩ := ht;have r16 : vs 0 = .slice (some ⟨b1, o1, none⟩) s.length ca := q16;have r17 : vs 1 = .int .i64 k := q17;have r18 : vs 2 = .pointer (some ⟨b1, o1 + k * 5, none⟩) := q18;have r19 : vs 3 = .pointer (some ⟨b1, o1 + k * 5 + 4, none⟩) := q19;have r20 : vs 4 = .int .i64 x.pair := q20;have r21 : vs 5 = .slice (some ⟨b2, o2, none⟩) t.length cb := q21;have r22 : vs 6 = .int .i64 k := q22;have r23 : vs 7 = .pointer (some ⟨b2, o2 + k * 5, none⟩) := q23;have r24 : vs 8 = .pointer (some ⟨b2, o2 + k * 5 + 4, none⟩) := q24;have r25 : vs 9 = .int .i64 z.pair := q25;have r26 : vs 10 = .bool true := q26;have r27 : vs 11 = .bool true := q27;have r28 : vs 12 = undef := q28;have r29 : vs 13 = undef := q29;have r30 : vs 14 = undef := q30;have r31 : vs 15 = undef := q31;have r32 : vs 16 = undef := q32;have r33 : vs 17 = undef := q33;have r34 : vs 18 = undef := q34;have r35 : vs 19 = undef := q35;have r36 : vs 20 = undef := q36;have r37 : vs 21 = undef := q37;have r38 : vs 22 = undef := q38;have r39 : vs 23 = undef := q39;have r40 : vs 24 = .bool true := q40;clear q16 q17 q18 q19 q20 q21 q22 q23 q24 q25 q26 q27 q28 q29 q30 q31 q32 q33 q34 q35 q36 q37 q38 q39 q40
      simp only [Yf, Act.put, List.setIfInBounds_toArray, List.set_cons_zero, List.set_cons_succ, r16, r17, r18, r19, r20, r21, r22, r23, r24, r25, r26, r27, r28, r29, r30, r31, r32, r33, r34, r35, r36, r37, r38, r39, r40];clear r16 r17 r18 r19 r20 r21 r22 r23 r24 r25 r26 r27 r28 r29 r30 r31 r32 r33 r34 r35 r36 r37 r38 r39 r40;have gr2 := hgr.trans hg;clear hg p0 p1 p2 p3 p4 q0 q1 q2 q3 q4 hu hz;go_wp2_with fail;go_ret;exact ⟨rfl, gr2⟩
   ·have hk' : k = s.length := by omega
    have hRt : R = true := by
     rw [HR.out, Zbl];have h := HK.out;rw [hk', List.take_length, HL.out, List.take_length] at h;exact h
    subst hRt;clear hk';go_wp2_with fail;go_ret;exact ⟨rfl, hgr⟩
 ·have HR : Hid (Ky s t = false) := Zjg fun h => hl (by rw [h])
  rw [HR.out];have d0 : ((s.length : Int) != (t.length : Int)) = true := by simp; omega
  clear hl;go_enter Tryz.func23, Tryz.ntmps23;go_wp2_with fail;go_ret;exact ⟨rfl, Zo.refl _⟩
def Yd (d : Dk) : Nat → List Ent
 | 0 => []
 | n + 1 => if (d.tell (n : Int)).kind = 1 then Yd d n else Qi ⟨d.tell (n : Int), (n : Int)⟩ (Yd d n)
theorem Zkd (e : Ent) (l : List Ent) : (Q3 e l).1.length = l.length + (if (Q3 e l).2 = true then 1 else 0) := by
 have key : ∀ (l : List Ent) (st : List Ent × Bool), (l.foldl (Xv e) st).1.length + (if st.2 = true then 1 else 0) = st.1.length + l.length + (if (l.foldl (Xv e) st).2 = true then 1 else 0) := by
  intro l
  induction l with
  | nil => rintro ⟨a, b⟩; cases b <;> simp
  | cons x l ih =>
   intro st;rw [List.foldl_cons, List.length_cons];have h1 := ih (Xv e st x);have h2 : (Xv e st x).1.length + (if st.2 = true then 1 else 0) = st.1.length + 1 + (if (Xv e st x).2 = true then 1 else 0) := by
    unfold Xv;by_cases hc : st.2 = false ∧ Y8 e x = true
    ·rw [if_pos hc, hc.1]; simp
    ·rw [if_neg hc]; simp
   omega
 have := key l ([], false);unfold Q3;simpa using this
theorem Zgq (e : Ent) (l : List Ent) : (Qi e l).length = l.length + 1 := by
 have h := Zkd e l;unfold Qi;by_cases hd : (Q3 e l).2 = true
 ·rw [if_pos hd] at h ⊢; exact h
 ·rw [if_neg hd] at h ⊢; simp [h]
theorem Zg2 (d : Dk) : ∀ n, (Yd d n).length ≤ n
 | 0 => by simp [Yd]
 | n + 1 => by
  have ih := Zg2 d n;unfold Yd;split
  ·omega
  ·rw [Zgq]; omega
theorem Zg6 (S : Nat → Prop) (d : Dk) (vb vl : Value) (w : World) (hb : Y2 S w vb d.blocks) (hl : Xk S w vl d.late) (hlen : d.blocks.length ≤ 256) (hm : d.late.length ≤ 999990) :
  Calls Tryz.prog 24 #[.agg #[vb, vl]] w fun r w' => ∃ v', r = .returned v' ∧ Yr (Zw S w.heap.size) w' v' (Yd d (d.blocks.length / 2)) ∧ Zo w w' := by
 obtain ⟨ab, cb, rfl⟩ := hb.p.form;obtain ⟨al, cl, rfl⟩ := hl.p.form;have g0 := Zc w (.cells #[.slice ab d.blocks.length cb, .slice al d.late.length cl] 26);have hD0 := Zj w #[.slice ab d.blocks.length cb, .slice al d.late.length cl] 26;have hq : (d.blocks.length : Int).tdiv 2 = ((d.blocks.length / 2 : Nat) : Int) := by rw [Int.tdiv_eq_ediv_of_nonneg (by omega)]; omega
 obtain ⟨N, hN⟩ : ∃ N, N = d.blocks.length / 2 := ⟨_, rfl⟩;rw [← hN] at hq ⊢;have hN2 : N ≤ 128 := by omega
 clear hN;go_enter Tryz.func24, Tryz.ntmps24;go_wp2_with fail;generalize World.alloc w _ = W at *;go_loopw [3, 11] (fun o i wr => ∃ k : Nat, k ≤ N ∧ i = .int .i64 k ∧ Yr (fun b => Zw S (w.heap.size + 1) b ∧ b < wr.heap.size) wr o (Yd d k) ∧ Zo w wr ∧ wr.heap[w.heap.size]? = some (.cells #[.slice ab d.blocks.length cb, .slice al d.late.length cl] 26 (0, 0))) (fun _ i _ => N - (intOf i).toNat)
 case atStart => exact ⟨0, Nat.zero_le _, rfl, Z9.nil _ _ _, g0, hD0⟩
 case round =>
  clear g0 hD0;obtain ⟨k, hk, rfl, hO, hg, hD⟩ := hrel;by_cases hlt : k < N
  ·have hsc := Zg2 d k;have HN : Hid (Yd d (k + 1) = if (d.tell (k : Int)).kind = 1 then Yd d k else Qi ⟨d.tell (k : Int), (k : Int)⟩ (Yd d k)) := rfl;obtain ⟨a0, c0, rfl⟩ := hO.form;obtain ⟨x0, x1⟩ := Xb hD rfl rfl;go_wp2_with fail;refine (Zfq _ d (k : Int) _ _ _ (hb.grow hg) (hl.grow hg) hlen hm).mono ?_;rintro e w1 ⟨dv, rfl, ho, g1⟩;obtain ⟨a1, c1, rfl⟩ := Z6 ho;generalize d.tell (k : Int) = r at *;generalize d.how (k : Int) = how at *;have g2 := Zc w1 (.cells #[.int .i64 r.kind, .int .i64 r.key, .int .i64 r.ver, .slice a1 r.data.length c1] 61);have hR2 := Zj w1 #[.int .i64 r.kind, .int .i64 r.key, .int .i64 r.ver, .slice a1 r.data.length c1] 61;have hD2 := ((g1.trans g2).block _ (Za hD)).trans hD;have hwr : w.heap.size + 1 ≤ wr.heap.size := Za hD;have hB2 : Z3 (fun b => Zw S (w.heap.size + 1) b ∧ b < w1.heap.size + 1) (w1.alloc (.cells #[.int .i64 r.kind, .int .i64 r.key, .int .i64 r.ver, .slice a1 r.data.length c1] 61)) (.slice a1 r.data.length c1) r.data := by
    have h := ((Zby S (Yj ho hwr)).grow g2).caps;rw [World.size_alloc] at h;exact h
   have hO2 : Yr (fun b => Zw S (w.heap.size + 1) b ∧ b < w1.heap.size + 1) (w1.alloc (.cells #[.int .i64 r.kind, .int .i64 r.key, .int .i64 r.ver, .slice a1 r.data.length c1] 61)) (.slice a0 (Yd d k).length c0) (Yd d k) := (hO.grow (g1.trans g2)).mono fun b h => ⟨h.1, by have := g1.size; omega⟩
   have gw2 := hg.trans (g1.trans g2);obtain ⟨r0, r1, r2, r3⟩ := Z8 hR2 rfl rfl rfl rfl;have HSZ : Hid (w.heap.size + 1 ≤ w1.heap.size) := Nat.le_trans hwr g1.size;clear x0 x1 hO hg hD g1 g2 ho hR2 hwr;by_cases hk1 : r.kind = 1
   ·have HN2 : Hid (Yd d (k + 1) = Yd d k) := by show _ = _; rw [HN.out, if_pos hk1]
    have d1 : (r.kind != 1) = false := by simp [hk1]
    clear hk1 HN;have hsz := World.size_alloc w1 (.cells #[.int .i64 r.kind, .int .i64 r.key, .int .i64 r.ver, .slice a1 r.data.length c1] 61);have hO3 := hO2.mono (S' := fun b => Zw S (w.heap.size + 1) b ∧ b < (w1.alloc (.cells #[.int .i64 r.kind, .int .i64 r.key, .int .i64 r.ver, .slice a1 r.data.length c1] 61)).heap.size) (fun b h => ⟨h.1, by rw [hsz]; exact h.2⟩);clear hO2 hB2 hsz;go_wp2_with fail;go_roundw
    case rel => exact ⟨k + 1, by omega, by go_num, by rw [HN2.out]; exact hO3, gw2, hD2⟩
    case measure => simp [intOf]; omega
   ·have HN2 : Hid (Yd d (k + 1) = Qi ⟨r, (k : Int)⟩ (Yd d k)) := by show _ = _; rw [HN.out, if_neg hk1]
    have d1 : (r.kind != 1) = true := by simp [hk1]
    clear hk1 HN;go_wp2_with fail;refine (Zd5 _ (Yd d k) ⟨r, (k : Int)⟩ _ a1 c1 _ (fun b h => by rw [World.size_alloc]; exact h.2) hO2 hB2 (by omega)).mono ?_;rintro e w3 ⟨v3, rfl, hO3, g3⟩;rw [← HN2.out] at hO3;have hO4 : Yr (fun b => Zw S (w.heap.size + 1) b ∧ b < w3.heap.size) w3 v3 (Yd d (k + 1)) := (hO3.caps (by decide)).mono fun b h => ⟨h.1.elim (fun x => x.1) (fun x => .inr (by have := HSZ.out; rw [World.size_alloc] at x; omega)), h.2⟩
    have hD3 := (g3.block _ (Za hD2)).trans hD2;have gw3 := gw2.trans g3;clear hO2 hO3 hB2 hD2 gw2 g3 r0 r1 r2 r3;go_wp2_with fail;go_roundw
    case rel => exact ⟨k + 1, by omega, by go_num, hO4, gw3, hD3⟩
    case measure => simp [intOf]; omega
  ·have hk' : k = N := by omega
   subst hk';have hfin := hO.mono (S' := Zw S w.heap.size) (fun b h => Z0 (B := w.heap.size) (by omega) b h.1);obtain ⟨a0, c0, rfl⟩ := hO.form;clear hO;go_wp2_with fail;go_ret;exact ⟨_, rfl, hfin, hg⟩
end Go.Proofs.YtgaecpdokgklpacGreat
