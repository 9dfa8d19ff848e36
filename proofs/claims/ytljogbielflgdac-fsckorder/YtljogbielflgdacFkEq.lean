import Derived.Test.YtljogbielflgdacFskC
import Derived.Test.YtljogbielflgdacIdxH
set_option maxHeartbeats 8000000
namespace Go.Proofs.Ytljogbielflgdac
set_option maxRecDepth 100000
open Go.RowKit
open Plain Reg
theorem Zgk (args : Array Value) (w : World) : (callFunc 42 args).run Try.prog w = .ok (.enter 42 args) w := by
 simp [callFunc, Try.func42, Try.f42, mark]
theorem Zgj (args : Array Value) (w : World) : (callFunc 45 args).run Try.prog w = .ok (.enter 45 args) w := by
 simp [callFunc, Try.func45, Try.f45, mark]
theorem Zgx {α : Type} {s t : List α} {k : Nat} (hl : s.length = t.length) (hk : k = s.length) (h : s.take k = t.take k) : s = t := by
 subst hk;rw [List.take_length, hl, List.take_length] at h;exact h
theorem Zgg (s t : List (List UInt8)) (va vb : Value) (w : World) (ha : Yv w va s) (hb : Yv w vb t) (hm : s.length ≤ 1000000) :
  Calls Try.prog 41 #[va, vb, .func (.func 42) #[] #[]] w fun e w' => e = .returned (.bool (s == t)) ∧ Zt w w' := by
 obtain ⟨aa, ca, rfl⟩ := ha.form;obtain ⟨ab, cb, rfl⟩ := hb.form;have hK := Zgk;obtain ⟨R, hR⟩ : ∃ R, R = (s == t) := ⟨_, rfl⟩;rw [← hR];have HR : Hid _ := hR;clear hR;by_cases hlen : s.length = t.length
 ·have d1 : ((s.length : Int) != (t.length : Int)) = false := by simp [hlen]
  have HL : Hid (s.length = t.length) := hlen;clear hlen;go_enter Try.func41, Try.ntmps41;go_wp2_with fail;go_loopw [17] (fun i wr => ∃ k : Nat, k ≤ s.length ∧ i = .int .i64 k ∧ Zt w wr ∧ Hid (s.take k = t.take k)) (fun i _ => s.length - (intOf i).toNat)
  case atStart => exact ⟨0, Nat.zero_le _, rfl, Zt.refl _, rfl⟩
  case round =>
   obtain ⟨k, hk, rfl, gr, HT⟩ := hrel;by_cases hlt : k < s.length
   ·have hlb : k < t.length := by have := HL.out; omega
    obtain ⟨b1, o1, hv1, u1, hu1, hB1⟩ := (ha.grow gr).at k hlt;cases hv1;obtain ⟨b2, o2, hv2, u2, hu2, hB2⟩ := (hb.grow gr).at k hlb;cases hv2;obtain ⟨a1, c1, rfl, -, -⟩ := Z7 hB1;obtain ⟨a2, c2, rfl, -, -⟩ := Z7 hB2;have HX : Hid (s[k] = t[k] → s.take (k + 1) = t.take (k + 1)) := Je s t k hlt hlb HT.out;have HY : Hid (s[k] ≠ t[k] → R = false) := fun h => HR.out.trans (Xa (Zd2 s t k hlt hlb h))
    generalize s[k] = x at *;generalize t[k] = z at *;go_wp2_with fail;refine (Zfl x z _ _ wr hB1 hB2).mono ?_;rintro e w1 ⟨rfl, rfl⟩;clear hu1 hu2 hB1 hB2;by_cases hxz : x = z
    ·have d2 : (x == z) = true := by simp [hxz]
     have HT2 : Hid (s.take (k + 1) = t.take (k + 1)) := HX.out hxz;rw [d2];clear HX HY hxz;go_wp2_with fail;go_roundw
     case rel => exact ⟨k + 1, by omega, by go_num, gr, HT2⟩
     case measure => simp [intOf]; omega
    ·have d2 : (x == z) = false := Xa hxz;obtain rfl : R = false := HY.out hxz;rw [d2];clear HX HY hxz;go_wp2_with fail;go_ret;exact ⟨rfl, gr⟩
   ·obtain rfl : R = true := by rw [HR.out]; exact Zau (Zgx HL.out (by omega) HT.out)
    go_wp2_with fail;go_ret;exact ⟨rfl, gr⟩
 ·have d1 : ((s.length : Int) != (t.length : Int)) = true := by simp; omega
  obtain rfl : R = false := by rw [HR.out]; exact Xa fun h => hlen (by rw [h])
  clear hlen HR;go_enter Try.func41, Try.ntmps41;go_wp2_with fail;go_ret;exact ⟨rfl, Zt.refl _⟩
theorem Zl0 (x z : Ent) (a b : Option Addr) (c e : Nat) (w : World) (hx : Bytes w (.slice a x.rc.data.length c) x.rc.data) (hz : Bytes w (.slice b z.rc.data.length e) z.rc.data) :
  Calls Try.prog 45 #[.agg #[.int .i64 x.rc.kind, .int .i64 x.rc.key, .int .i64 x.rc.ver, .slice a x.rc.data.length c, .int .i64 x.pair], .agg #[.int .i64 z.rc.kind, .int .i64 z.rc.key, .int .i64 z.rc.ver, .slice b z.rc.data.length e, .int .i64 z.pair]] w fun r w' => r = .returned (.bool (decide (x.pair = z.pair) && Xt x.rc z.rc)) ∧ Zt w w' := by
 have g0 := Zv w (.cells #[.int .i64 x.rc.kind, .int .i64 x.rc.key, .int .i64 x.rc.ver, .slice a x.rc.data.length c, .int .i64 x.pair] 60) (.cells #[.int .i64 z.rc.kind, .int .i64 z.rc.key, .int .i64 z.rc.ver, .slice b z.rc.data.length e, .int .i64 z.pair] 60);have hp0 := Zq w #[.int .i64 x.rc.kind, .int .i64 x.rc.key, .int .i64 x.rc.ver, .slice a x.rc.data.length c, .int .i64 x.pair] 60;have hp := ((Zd (w.alloc (.cells #[.int .i64 x.rc.kind, .int .i64 x.rc.key, .int .i64 x.rc.ver, .slice a x.rc.data.length c, .int .i64 x.pair] 60)) (.cells #[.int .i64 z.rc.kind, .int .i64 z.rc.key, .int .i64 z.rc.ver, .slice b z.rc.data.length e, .int .i64 z.pair] 60)).block _ (Za hp0)).trans hp0;have hq := Zq (w.alloc (.cells #[.int .i64 x.rc.kind, .int .i64 x.rc.key, .int .i64 x.rc.ver, .slice a x.rc.data.length c, .int .i64 x.pair] 60)) #[.int .i64 z.rc.kind, .int .i64 z.rc.key, .int .i64 z.rc.ver, .slice b z.rc.data.length e, .int .i64 z.pair] 60;rw [World.size_alloc] at hq;obtain ⟨x0, x1, x2, x3, x4⟩ := Ka hp rfl rfl rfl rfl rfl;obtain ⟨z0, z1, z2, z3, z4⟩ := Ka hq rfl rfl rfl rfl rfl;have hxx := Zw hx g0;have hzz := Zw hz g0;clear hp0 hp hq hx hz;by_cases hpp : x.pair = z.pair
 ·have d0 : (x.pair == z.pair) = true := by simp [hpp]
  rw [decide_eq_true hpp, Bool.true_and];clear hpp;go_enter Try.func45, Try.ntmps45;go_wp2_with fail;refine (Zdq _ _ _ _ _ _ x.rc.data z.rc.data _ _ _ hxx hzz).mono ?_;rintro r w1 ⟨rfl, g1⟩;have gE := g0.trans g1;clear x0 x1 x2 x3 x4 z0 z1 z2 z3 z4 hxx hzz g0 g1;go_wp2_with fail;go_ret;exact ⟨rfl, gE⟩
 ·have d0 : (x.pair == z.pair) = false := by simp [hpp]
  rw [decide_eq_false hpp, Bool.false_and];clear hpp hxx hzz;go_enter Try.func45, Try.ntmps45;go_wp2_with fail;go_ret;exact ⟨rfl, g0⟩
theorem Zjz (s t : List Ent) (v u : Value) (S S' : Nat → Prop) (w : World) (hs : Qm S w v s) (ht : Qm S' w u t) (hm : s.length ≤ 140737488355328) :
  Calls Try.prog 43 #[v, u, .func (.func 45) #[] #[]] w fun e w' => e = .returned (.bool (Vd s t)) ∧ Zt w w' := by
 obtain ⟨ao, ca, rfl⟩ := hs.form;obtain ⟨bo, cb, rfl⟩ := ht.form;have hK := Zgj;obtain ⟨R, hR⟩ : ∃ R, R = Vd s t := ⟨_, rfl⟩;rw [← hR];have HR : Hid _ := hR;clear hR;by_cases hlen : s.length = t.length
 ·have d1 : ((s.length : Int) != (t.length : Int)) = false := by simp [hlen]
  have HL : Hid (s.length = t.length) := hlen;clear hlen;go_enter Try.func43, Try.ntmps43;go_wp2_with fail;go_loopw [17] (fun i wr => ∃ k : Nat, k ≤ s.length ∧ i = .int .i64 k ∧ Zt w wr ∧ Hid (s.take k = t.take k)) (fun i _ => s.length - (intOf i).toNat)
  case atStart => exact ⟨0, Nat.zero_le _, rfl, Zt.refl _, rfl⟩
  case round =>
   obtain ⟨k, hk, rfl, gr, HT⟩ := hrel;by_cases hlt : k < s.length
   ·have hlb : k < t.length := by have := HL.out; omega
    obtain ⟨b1, o1, a1, c1, e1, p0, p1, p2, p3, p4, hu⟩ := Zas (hs.grow gr) k hlt;obtain ⟨b2, o2, a2, c2, e2, q0, q1, q2, q3, q4, hz⟩ := Zas (ht.grow gr) k hlb;cases e1;cases e2;have HX : Hid (s[k] = t[k] → s.take (k + 1) = t.take (k + 1)) := fun h => Ze4 HT.out hlt hlb h
    have HY : Hid (s[k] ≠ t[k] → R = false) := fun h => by
     rw [HR.out]; exact Zbm fun h2 => h (by simp [h2])
    generalize s[k] = x at *;generalize t[k] = z at *;have G0 := (Zd wr (.cells #[.int .i64 x.rc.kind, .int .i64 x.rc.key, .int .i64 x.rc.ver, .slice a1 x.rc.data.length c1, .int .i64 x.pair] 60));have G1 := (Zd (wr.alloc (.cells #[.int .i64 x.rc.kind, .int .i64 x.rc.key, .int .i64 x.rc.ver, .slice a1 x.rc.data.length c1, .int .i64 x.pair] 60)) (.cells #[.int .i64 z.rc.kind, .int .i64 z.rc.key, .int .i64 z.rc.ver, .slice a2 z.rc.data.length c2, .int .i64 z.pair] 60));have r0 := (Below.cell G0 (Zo q0)).trans q0;have r1 := (Below.cell G0 (Zo q1)).trans q1;have r2 := (Below.cell G0 (Zo q2)).trans q2;have r3 := (Below.cell G0 (Zo q3)).trans q3;have r4 := (Below.cell G0 (Zo q4)).trans q4;have hu2 := Zw hu.p (G0.trans G1);have hz2 := Zw hz.p (G0.trans G1);have gr2 := gr.trans (G0.trans G1);have hp0 := Zq wr #[.int .i64 x.rc.kind, .int .i64 x.rc.key, .int .i64 x.rc.ver, .slice a1 x.rc.data.length c1, .int .i64 x.pair] 60;have hp := (G1.block _ (Za hp0)).trans hp0;have hq := Zq (wr.alloc (.cells #[.int .i64 x.rc.kind, .int .i64 x.rc.key, .int .i64 x.rc.ver, .slice a1 x.rc.data.length c1, .int .i64 x.pair] 60)) #[.int .i64 z.rc.kind, .int .i64 z.rc.key, .int .i64 z.rc.ver, .slice a2 z.rc.data.length c2, .int .i64 z.pair] 60;rw [World.size_alloc] at hq;obtain ⟨x0, x1, x2, x3, x4⟩ := Ka hp rfl rfl rfl rfl rfl;obtain ⟨z0, z1, z2, z3, z4⟩ := Ka hq rfl rfl rfl rfl rfl;clear G0 G1 hp0 hp hq hu hz gr q0 q1 q2 q3 q4;go_wp2_with fail;generalize World.alloc (World.alloc wr _) _ = W2 at *
    refine (Zl0 x z a1 a2 c1 c2 W2 hu2 hz2).mono ?_;have HXE : Hid (x = z ↔ (decide (x.pair = z.pair) && Xt x.rc z.rc) = true) := by
     obtain ⟨xr, xp⟩ := x;obtain ⟨zr, zp⟩ := z;show _ ↔ _;rw [Bool.and_eq_true, decide_eq_true_eq, Vh, Ent.mk.injEq];exact ⟨fun h => ⟨h.2, h.1⟩, fun h => ⟨h.2, h.1⟩⟩
    generalize (decide (x.pair = z.pair) && Xt x.rc z.rc) = B at *;rintro e w3 ⟨rfl, g3⟩;have gr3 := gr2.trans g3;clear gr2 g3 p0 p1 p2 p3 p4 r0 r1 r2 r3 r4 x0 x1 x2 x3 x4 z0 z1 z2 z3 z4 hu2 hz2;cases B with
    | true =>
     have HT2 : Hid (s.take (k + 1) = t.take (k + 1)) := HX.out (HXE.out.2 rfl);clear HX HY HXE;go_wp2_with fail;go_roundw
     case rel => exact ⟨k + 1, by omega, by go_num, gr3, HT2⟩
     case measure => simp [intOf]; omega
    | false =>
     obtain rfl : R = false := HY.out fun h => by cases HXE.out.1 h
     clear HX HY HXE;go_wp2_with fail;go_ret;exact ⟨rfl, gr3⟩
   ·obtain rfl : R = true := by rw [HR.out]; exact (Zai s t).2 (Zgx HL.out (by omega) HT.out)
    go_wp2_with fail;go_ret;exact ⟨rfl, gr⟩
 ·have d1 : ((s.length : Int) != (t.length : Int)) = true := by simp; omega
  obtain rfl : R = false := by rw [HR.out]; exact Zbm fun h => hlen (by rw [h])
  clear hlen HR;go_enter Try.func43, Try.ntmps43;go_wp2_with fail;go_ret;exact ⟨rfl, Zt.refl _⟩
theorem Zjx : Zgs := by
 intro S l d u v w hl hd hF hm;obtain ⟨ao, ca, rfl⟩ := hl.form;obtain ⟨vb, vl, rfl, hb, hll⟩ := hd;obtain ⟨ab, cb, rfl⟩ := hb.form;obtain ⟨al, cl, rfl⟩ := hll.form;have g0 := Zd w (.cells #[.slice ab d.blocks.length cb, .slice al d.late.length cl] 27);have hd0 := Zq w #[.slice ab d.blocks.length cb, .slice al d.late.length cl] 27;obtain ⟨y0, y1⟩ := Yl hd0 rfl rfl;have HF : Hid (d.Fine 1000) := hF.mono (by omega);obtain ⟨t, ht⟩ : ∃ t, t = Yz d 6 := ⟨_, rfl⟩;rw [← ht];have HTE : Hid (Yz d 6 = t) := ht.symm;clear hF hd0 ht;go_enter Try.func21, Try.ntmps21;go_wp2_with fail;generalize World.alloc w _ = W at *;refine (Zli d _ W HF.out ⟨_, _, rfl, hb.grow g0, hll.grow g0⟩).mono ?_;rw [HTE.out];rintro r w1 ⟨v1, rfl, hE, g1⟩;have hl1 := Zy.grow hl (g0.trans g1);have gw1 := g0.trans g1;clear y0 y1 g0 g1 hb hll hl;obtain ⟨bo, c9, rfl⟩ := Zy.form hE;go_wp2_with fail;refine (Zjz l t _ _ _ _ w1 hl1 hE hm).mono ?_;rintro r w2 ⟨rfl, g2⟩;have gE := gw1.trans g2;clear hl1 hE gw1 g2;go_wp2_with fail;go_ret;exact ⟨rfl, gE⟩
end Go.Proofs.Ytljogbielflgdac
