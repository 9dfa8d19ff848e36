import Derived.Test.YtpdnapbchcdhladGreatDoorPyIn
set_option maxHeartbeats 8000000
namespace Go.Proofs.YtpdnapbchcdhladGreatDoor
set_option maxRecDepth 100000
open Plain
end Go.Proofs.YtpdnapbchcdhladGreatDoor
namespace Go.Proofs.YtpdnapbchcdhladGreatDoor
set_option maxRecDepth 100000
open Go.RowKit
open Plain Reg
end Go.Proofs.YtpdnapbchcdhladGreatDoor
namespace Go.Proofs.YtpdnapbchcdhladGreatDoor
set_option maxRecDepth 100000
open Go.RowKit Go.Maps
open Plain Reg
end Go.Proofs.YtpdnapbchcdhladGreatDoor
namespace Go.Proofs.YtpdnapbchcdhladGreatDoor
set_option maxRecDepth 100000
open Plain
end Go.Proofs.YtpdnapbchcdhladGreatDoor
namespace Go.Proofs.YtpdnapbchcdhladGreatDoor
set_option maxRecDepth 100000
open Go.RowKit
open Plain Reg
variable {S : Nat → Prop} {ad : Option Addr} {c : Nat} {v : Value} {w : World} {x : Sp}
theorem Zuw {s : St} (h : Zep S s x v ad c w) (k1 : x.kind = 1) : Zbk 10 S s x v ad c w := by
 obtain ⟨ab, cb, al, cl, ai, ci, rfl, hb, hl, -, hnz, g0, hs1, hd1, hz1, HWs⟩ := h.pre;obtain ⟨hS, hs, hd, hA, hdl⟩ := h;unfold Zbk;obtain ⟨R, hR⟩ : ∃ R, R = s.step x := ⟨_, rfl⟩;rw [← hR];have HR : Hid (R = s.step x) := hR;have HAT : Hid (s.At) := hA;clear hR hA;go_enter Tryz.func10, Tryz.ntmps10;obtain ⟨d0, d1, d2, d3, d4⟩ := Vv hd1 rfl rfl rfl rfl rfl;have d5 := Ze hd1 5 _ rfl;have d6 := Ze hd1 6 _ rfl;obtain ⟨s0, s1, s2, s3⟩ := Z4 hs1 rfl rfl rfl rfl;have q1 : (x.kind == 1) = true := by simp [k1]
 obtain rfl : R = s.doS x.deed := by rw [HR.out]; unfold St.step; rw [if_pos k1]
 clear HR k1;go_wp2_with fail;generalize World.alloc (World.alloc (World.alloc w _) _) _ = W at *;have hWs := HWs.out;clear HWs;refine (Zva S 0 s x.deed _ ad c W (fun b h => by have := hS b h; omega) (hs.grow g0) (hd.grow g0) HAT.out.ok (by omega) hdl).mono ?_;rw [hWs];obtain ⟨B, hB⟩ : ∃ B, B = s.doS x.deed := ⟨_, rfl⟩;rw [← hB];have HB : Hid _ := hB;clear hB q1;rintro r w1 ⟨v1, rfl, hS9, g1⟩;have hz9 := (g1.block _ (Za hz1)).trans hz1;have gw9 := g0.trans g1;obtain ⟨b9, e9, l9, m9, i9, j9, hv9, -, -, -⟩ := hS9.form;subst hv9;obtain ⟨s9, hs9⟩ : ∃ s9, s9 = B.st := ⟨_, rfl⟩;rw [← hs9] at hS9 ⊢;have HS9 : Hid _ := hs9;clear hs1 hd1 hz1 d0 d1 d2 d3 d4 d5 d6 s0 s1 s2 s3 g0 g1 hs9 hs hb hl;obtain ⟨hq1, hq2⟩ := Yc hz9 (.slice b9 s9.dk.blocks.length e9) (.slice l9 s9.dk.late.length m9) (.slice i9 s9.idx.length j9) (.int .i64 s9.next);obtain ⟨z0, z1, z2, z3⟩ := Z4 hz9 rfl rfl rfl rfl;obtain ⟨o0, o1, o2, o3⟩ := Yp hz9;obtain ⟨x0, x1, x2, x3⟩ := Z4 hq1 rfl rfl rfl rfl;have cs := Zu;have gE := hq2.grow gw9 (by omega);have hE := (hS9.but hq2 hnz).mono (Z9 (B := w.heap.size) (by omega));clear hq1 hq2 hz9 gw9 hS9;go_wp2_with fail;exact bodyPost_ret (v := .tuple #[.agg #[.slice b9 s9.dk.blocks.length e9, .slice l9 s9.dk.late.length m9, .slice i9 s9.idx.length j9, .int .i64 s9.next], .int .i64 B.n, .int .i64 B.e]) (by simp [results, Tryz.results10, go_sem, x0, x1, x2, x3]) rfl ⟨_, by rw [← HB.out], by rw [← HB.out, ← HS9.out]; exact hE, gE⟩
theorem Zzq {s : St} (h : Zep S s x v ad c w) (k1 : ¬ x.kind = 1) (k2 : x.kind = 2) : Zbk 10 S s x v ad c w := by
 obtain ⟨ab, cb, al, cl, ai, ci, rfl, hb, hl, -, hnz, g0, hs1, hd1, hz1, HWs⟩ := h.pre;obtain ⟨hS, hs, hd, hA, hdl⟩ := h;unfold Zbk;obtain ⟨R, hR⟩ : ∃ R, R = s.step x := ⟨_, rfl⟩;rw [← hR];have HR : Hid (R = s.step x) := hR;have HAT : Hid (s.At) := hA;clear hR hA;go_enter Tryz.func10, Tryz.ntmps10;obtain ⟨d0, d1, d2, d3, d4⟩ := Vv hd1 rfl rfl rfl rfl rfl;have d5 := Ze hd1 5 _ rfl;have d6 := Ze hd1 6 _ rfl;obtain ⟨s0, s1, s2, s3⟩ := Z4 hs1 rfl rfl rfl rfl;have q1 : (x.kind == 1) = false := by simp [k1]
 have q2 : (x.kind == 2) = true := by simp [k2]
 obtain rfl : R = s.fallD x.deed x.n := by rw [HR.out]; unfold St.step; rw [if_neg k1, if_pos k2]; rfl
 clear HR k1 k2;go_wp2_with fail;generalize World.alloc (World.alloc (World.alloc w _) _) _ = W at *;have hWs := HWs.out;clear HWs;refine (Zrk S s x.deed x.n _ ad c W (fun b h => by have := hS b h; omega) (hs.grow g0) (hd.grow g0) HAT.out hdl).mono ?_;rw [hWs];obtain ⟨B, hB⟩ : ∃ B, B = s.fallD x.deed x.n := ⟨_, rfl⟩;rw [← hB];have HB : Hid _ := hB;clear hB q1 q2;rintro r w1 ⟨v1, rfl, hS9, g1⟩;have hz9 := (g1.block _ (Za hz1)).trans hz1;have gw9 := g0.trans g1;obtain ⟨b9, e9, l9, m9, i9, j9, hv9, -, -, -⟩ := hS9.form;subst hv9;obtain ⟨s9, hs9⟩ : ∃ s9, s9 = B.st := ⟨_, rfl⟩;rw [← hs9] at hS9 ⊢;have HS9 : Hid _ := hs9;clear hs1 hd1 hz1 d0 d1 d2 d3 d4 d5 d6 s0 s1 s2 s3 g0 g1 hs9 hs hb hl;obtain ⟨hq1, hq2⟩ := Yc hz9 (.slice b9 s9.dk.blocks.length e9) (.slice l9 s9.dk.late.length m9) (.slice i9 s9.idx.length j9) (.int .i64 s9.next);obtain ⟨z0, z1, z2, z3⟩ := Z4 hz9 rfl rfl rfl rfl;obtain ⟨o0, o1, o2, o3⟩ := Yp hz9;obtain ⟨x0, x1, x2, x3⟩ := Z4 hq1 rfl rfl rfl rfl;have cs := Zu;have gE := hq2.grow gw9 (by omega);have hE := (hS9.but hq2 hnz).mono (Z9 (B := w.heap.size) (by omega));clear hq1 hq2 hz9 gw9 hS9;go_wp2_with fail;exact bodyPost_ret (v := .tuple #[.agg #[.slice b9 s9.dk.blocks.length e9, .slice l9 s9.dk.late.length m9, .slice i9 s9.idx.length j9, .int .i64 s9.next], .int .i64 B.n, .int .i64 B.e]) (by simp [results, Tryz.results10, go_sem, x0, x1, x2, x3]) rfl ⟨_, by rw [← HB.out], by rw [← HB.out, ← HS9.out]; exact hE, gE⟩
theorem Zzp {s : St} (h : Zep S s x v ad c w) (k1 : ¬ x.kind = 1) (k2 : ¬ x.kind = 2) (k3 : x.kind = 3) : Zbk 10 S s x v ad c w := by
 obtain ⟨ab, cb, al, cl, ai, ci, rfl, hb, hl, -, hnz, g0, hs1, hd1, hz1, HWs⟩ := h.pre;obtain ⟨hS, hs, hd, hA, hdl⟩ := h;unfold Zbk;obtain ⟨R, hR⟩ : ∃ R, R = s.step x := ⟨_, rfl⟩;rw [← hR];have HR : Hid (R = s.step x) := hR;have HAT : Hid (s.At) := hA;clear hR hA;go_enter Tryz.func10, Tryz.ntmps10;obtain ⟨d0, d1, d2, d3, d4⟩ := Vv hd1 rfl rfl rfl rfl rfl;have d5 := Ze hd1 5 _ rfl;have d6 := Ze hd1 6 _ rfl;obtain ⟨s0, s1, s2, s3⟩ := Z4 hs1 rfl rfl rfl rfl;have q1 : (x.kind == 1) = false := by simp [k1]
 have q2 : (x.kind == 2) = false := by simp [k2]
 have q3 : (x.kind == 3) = true := by simp [k3]
 obtain rfl : R = s.rot x.n x.m := by rw [HR.out]; unfold St.step; rw [if_neg k1, if_neg k2, if_pos k3]; rfl
 clear HR k1 k2 k3;go_wp2_with fail;generalize World.alloc (World.alloc (World.alloc w _) _) _ = W at *;have hWs := HWs.out;clear HWs;refine (Zuy S s x.n x.m _ W (fun b h => by have := hS b h; omega) (hs.grow g0) HAT.out).mono ?_;rw [hWs];obtain ⟨B, hB⟩ : ∃ B, B = s.rot x.n x.m := ⟨_, rfl⟩;rw [← hB];have HB : Hid _ := hB;clear hB q1 q2 q3;rintro r w1 ⟨v1, rfl, hS9, g1⟩;have hz9 := (g1.block _ (Za hz1)).trans hz1;have gw9 := g0.trans g1;obtain ⟨b9, e9, l9, m9, i9, j9, hv9, -, -, -⟩ := hS9.form;subst hv9;obtain ⟨s9, hs9⟩ : ∃ s9, s9 = B.st := ⟨_, rfl⟩;rw [← hs9] at hS9 ⊢;have HS9 : Hid _ := hs9;clear hs1 hd1 hz1 d0 d1 d2 d3 d4 d5 d6 s0 s1 s2 s3 g0 g1 hs9 hs hb hl;obtain ⟨hq1, hq2⟩ := Yc hz9 (.slice b9 s9.dk.blocks.length e9) (.slice l9 s9.dk.late.length m9) (.slice i9 s9.idx.length j9) (.int .i64 s9.next);obtain ⟨z0, z1, z2, z3⟩ := Z4 hz9 rfl rfl rfl rfl;obtain ⟨o0, o1, o2, o3⟩ := Yp hz9;obtain ⟨x0, x1, x2, x3⟩ := Z4 hq1 rfl rfl rfl rfl;have cs := Zu;have gE := hq2.grow gw9 (by omega);have hE := (hS9.but hq2 hnz).mono (Z9 (B := w.heap.size) (by omega));clear hq1 hq2 hz9 gw9 hS9;go_wp2_with fail;exact bodyPost_ret (v := .tuple #[.agg #[.slice b9 s9.dk.blocks.length e9, .slice l9 s9.dk.late.length m9, .slice i9 s9.idx.length j9, .int .i64 s9.next], .int .i64 B.n, .int .i64 B.e]) (by simp [results, Tryz.results10, go_sem, x0, x1, x2, x3]) rfl ⟨_, by rw [← HB.out], by rw [← HB.out, ← HS9.out]; exact hE, gE⟩
theorem Zuv {s : St} (h : Zep S s x v ad c w) (k1 : ¬ x.kind = 1) (k2 : ¬ x.kind = 2) (k3 : ¬ x.kind = 3) (k4 : ¬ x.kind = 4) (k5 : ¬ x.kind = 5) (k6 : x.kind = 6) : Zbk 10 S s x v ad c w := by
 obtain ⟨ab, cb, al, cl, ai, ci, rfl, hb, hl, -, hnz, g0, hs1, hd1, hz1, HWs⟩ := h.pre;obtain ⟨hS, hs, hd, hA, hdl⟩ := h;unfold Zbk;obtain ⟨R, hR⟩ : ∃ R, R = s.step x := ⟨_, rfl⟩;rw [← hR];have HR : Hid (R = s.step x) := hR;have HAT : Hid (s.At) := hA;clear hR hA;go_enter Tryz.func10, Tryz.ntmps10;obtain ⟨d0, d1, d2, d3, d4⟩ := Vv hd1 rfl rfl rfl rfl rfl;have d5 := Ze hd1 5 _ rfl;have d6 := Ze hd1 6 _ rfl;obtain ⟨s0, s1, s2, s3⟩ := Z4 hs1 rfl rfl rfl rfl;have q1 : (x.kind == 1) = false := by simp [k1]
 have q2 : (x.kind == 2) = false := by simp [k2]
 have q3 : (x.kind == 3) = false := by simp [k3]
 have q4 : (x.kind == 4) = false := by simp [k4]
 have q5 : (x.kind == 5) = false := by simp [k5]
 have q6 : (x.kind == 6) = true := by simp [k6]
 obtain ⟨s9, hs9⟩ : ∃ s9, s9 = Xs s.dk := ⟨_, rfl⟩;obtain rfl : R = ⟨s9, 0, 0⟩ := by rw [HR.out, hs9]; unfold St.step; rw [if_neg k1, if_neg k2, if_neg k3, if_neg k4, if_neg k5, if_pos k6]
 have HS9 : Hid _ := hs9;clear HR k1 k2 k3 k4 k5 k6 hs9;go_wp2_with fail;generalize World.alloc (World.alloc (World.alloc w _) _) _ = W at *;have hWs := HWs.out;clear HWs;refine (Zcn S 0 s.dk _ W (fun b h => by have := hS b h; omega) ⟨_, _, rfl, hb.p.grow g0, hl.p.grow g0⟩ HAT.out.ok.disk (by omega)).mono ?_;rw [hWs, ← HS9.out];rintro r w4 ⟨v4, rfl, hS9, g4⟩;have hz3 := hz1;have gw3 := g0;clear d0 d1 d2 d3 d4 d5 d6 s0 s1 s2 s3 hs1 hd1 hz1 g0 hs hb hl;have hz9 := (g4.block _ (Za hz3)).trans hz3;have gw9 := gw3.trans g4;clear hz3 gw3 g4;obtain ⟨b9, e9, l9, m9, i9, j9, hv9, -, -, -⟩ := hS9.form;subst hv9;obtain ⟨hq1, hq2⟩ := Yc hz9 (.slice b9 s9.dk.blocks.length e9) (.slice l9 s9.dk.late.length m9) (.slice i9 s9.idx.length j9) (.int .i64 s9.next);obtain ⟨z0, z1, z2, z3⟩ := Z4 hz9 rfl rfl rfl rfl;obtain ⟨o0, o1, o2, o3⟩ := Yp hz9;obtain ⟨x0, x1, x2, x3⟩ := Z4 hq1 rfl rfl rfl rfl;have cs := Zu;have gE := hq2.grow gw9 (by omega);have hE := (hS9.but hq2 hnz).mono (Z9 (B := w.heap.size) (by omega));clear hq1 hq2 hz9 gw9 hS9;go_wp2_with fail;exact bodyPost_ret (v := .tuple #[.agg #[.slice b9 s9.dk.blocks.length e9, .slice l9 s9.dk.late.length m9, .slice i9 s9.idx.length j9, .int .i64 s9.next], .int .i64 0, .int .i64 0]) (by simp [results, Tryz.results10, go_sem, x0, x1, x2, x3]) rfl ⟨_, rfl, hE, gE⟩
end Go.Proofs.YtpdnapbchcdhladGreatDoor
namespace Go.Proofs.YtpdnapbchcdhladGreatDoor
set_option maxRecDepth 100000
theorem Zy2 : Ze8 [1] := fun S s x v ad c w hk hS hs hd hA hdl => Zuw ⟨hS, hs, hd, hA, hdl⟩ (by simpa using hk)
theorem Zux : Ze8 [1, 2] := fun S s x v ad c w hk hS hs hd hA hdl => by
 by_cases k1 : x.kind = 1
 ·exact Zuw ⟨hS, hs, hd, hA, hdl⟩ k1
 ·exact Zzq ⟨hS, hs, hd, hA, hdl⟩ k1 (by simpa [k1] using hk)
theorem Zzs : Ze8 [3, 6] := fun S s x v ad c w hk hS hs hd hA hdl => by
 by_cases k3 : x.kind = 3
 ·exact Zzp ⟨hS, hs, hd, hA, hdl⟩ (by omega) (by omega) k3
 ·have k6 : x.kind = 6 := by simpa [k3] using hk
  exact Zuv ⟨hS, hs, hd, hA, hdl⟩ (by omega) (by omega) k3 (by omega) (by omega) k6
theorem Zjk : Zbj Vb := Znn Vb K2 Zzn Zy2 tRT
theorem Zc8 : K1 Vb := Zkr Vb K2 Zjk Zxu Zy1
end Go.Proofs.YtpdnapbchcdhladGreatDoor
namespace Go.Proofs.YtpdnapbchcdhladGreatDoor
set_option maxRecDepth 100000
open Go.RowKit
open Plain Reg
variable {B cap : Nat} {S : Nat → Prop} {w : World}
theorem Zgc {off : Nat} {u : Value} {l : List Rec} (hB : S B) (hc : 1 ≤ cap) (h : w.cell? ⟨B, off, none⟩ = some u) (hl : Yz S w u l) : Zer S w (.slice (some ⟨B, off, none⟩) 1 cap) [l] := by
 refine .inr ⟨B, off, cap, hB, rfl, hc, fun i hi => ?_⟩;have h0 : i < 1 := hi
 match i, h0 with
 | 0, _ =>
  refine ⟨[u], ⟨u, rfl, hl⟩, fun j x hj => ?_⟩
  match j, hj with
  | 0, hj => exact h.trans hj
  | j + 1, hj => simp at hj
theorem Zqq {u0 u1 : Value} {l0 l1 : List Rec} (hB : S B) (hc : 2 ≤ cap) (h0 : w.cell? ⟨B, 0, none⟩ = some u0) (h1 : w.cell? ⟨B, 1, none⟩ = some u1) (hl0 : Yz S w u0 l0) (hl1 : Yz S w u1 l1) : Zer S w (.slice (some ⟨B, 0, none⟩) 2 cap) [l0, l1] := by
 refine .inr ⟨B, 0, cap, hB, rfl, hc, fun i hi => ?_⟩;have h2 : i < 2 := hi
 match i, h2 with
 | 0, _ =>
  refine ⟨[u0], ⟨u0, rfl, hl0⟩, fun j x hj => ?_⟩
  match j, hj with
  | 0, hj => exact h0.trans hj
  | j + 1, hj => simp at hj
 | 1, _ =>
  refine ⟨[u1], ⟨u1, rfl, hl1⟩, fun j x hj => ?_⟩
  match j, hj with
  | 0, hj => exact h1.trans hj
  | j + 1, hj => simp at hj
variable {d : Dd} {l : List Rec} {x : Sp}
def Zhi (l : List Rec) (d : Dd) : List Rec := if Z1 d = 0 then (doR l d).l else l
def Zhh (l : List Rec) (d : Dd) : Int := if Z1 d = 0 then (doR l d).e else Z1 d
theorem Zym (h : (doR l d).e ≠ 0) : (doR l d).l = l := by
 unfold doR at h ⊢;by_cases hk : d.kind = 3
 ·rw [if_pos hk] at h ⊢;cases hf : l.findIdx? (Qi d) with
  | none => rfl
  | some i => rw [hf] at h; exact absurd rfl h
 ·rw [if_neg hk] at h ⊢;by_cases h5 : 5 < l.length
  ·rw [if_pos h5]
  ·rw [if_neg h5] at h ⊢;by_cases hn : 60000 < Yw l
   ·rw [if_pos hn]
   ·rw [if_neg hn] at h; exact absurd rfl h
theorem Zik : Zhh l d = 0 ↔ Z1 d = 0 ∧ (doR l d).e = 0 := by
 unfold Zhh;by_cases h : Z1 d = 0
 ·rw [if_pos h]; exact ⟨fun h2 => ⟨h, h2⟩, fun h2 => h2.2⟩
 ·rw [if_neg h]; exact ⟨fun h2 => absurd h2 h, fun h2 => absurd h2.1 h⟩
theorem Zil (h : x.goes l) : Zhi l x.deed = (doR l x.deed).l := by unfold Zhi; rw [if_pos h.2.1]
theorem Zr7 (hk : x.kind = 1) : Xw l x = [Zhi l x.deed] := by
 by_cases h : x.goes l
 ·rw [Zcs h hk, Zil h]
 ·rw [Zdj h];unfold Zhi;split
  ·rename_i hw;rw [Zym fun he => h ⟨.inl hk, hw, he⟩]
  ·rfl
theorem Zr6 (hk : x.kind = 2) (he : Zhh l x.deed = 0) : Xw l x = [l, Zhi l x.deed] := by
 have h : x.goes l := ⟨.inr hk, Zik.1 he⟩;rw [Zcr h (by omega), Zil h]
theorem Ze2 (h : x.kind = 2 → Zhh l x.deed ≠ 0) (h1 : x.kind ≠ 1) : Xw l x = [l] :=
 Zdj fun hg => h (hg.1.resolve_left h1) (Zik.2 hg.2)
theorem Zlu (S : Nat → Prop) (l : List Rec) (d : Dd) (v : Value) (a : Option Addr) (c : Nat) (w : World) (hS : ∀ b, S b → b < w.heap.size) (hr : Q7 l = true) (hl : Yz S w v l) (hd : Z0 S w (.slice a d.data.length c) d.data) (hdl : d.data.length ≤ 140737488355328) :
  Calls Tryz.prog 60 #[v, .agg #[.int .i64 d.kind, .int .i64 d.key, .int .i64 d.num, .slice a d.data.length c]] w fun r w' => ∃ v' n, r = .returned (.tuple #[v', .int .i64 n, .int .i64 (Zhh l d)]) ∧ Yz (Z7 S w.heap.size) w' v' (Zhi l d) ∧ Zj w w' := by
 unfold Zhh Zhi;by_cases h : Z1 d = 0
 ·rw [if_pos h, if_pos h];exact (Z0u S l d v a c w hS hr h hl hd).mono fun r w' ⟨v', h1, h2, h3⟩ => ⟨v', _, h1, h2, h3⟩
 ·rw [if_neg h, if_neg h];exact (Zij S l d v a c w hr h hdl hl hd.p).mono fun r w' ⟨v', h1, h2, h3⟩ => ⟨v', _, h1, h2, h3⟩
theorem Zzw : Zwx := by
 intro S l x v ad c w hS hr hl hd hdl;obtain ⟨ao, cp, rfl⟩ := Zv.form hl;have gw := Zd w (.cells #[.int .i64 x.kind, .int .i64 x.n, .int .i64 x.m, .int .i64 x.deed.kind, .int .i64 x.deed.key, .int .i64 x.deed.num, .slice ad x.deed.data.length c] 42);have hX := Zk w #[.int .i64 x.kind, .int .i64 x.n, .int .i64 x.m, .int .i64 x.deed.kind, .int .i64 x.deed.key, .int .i64 x.deed.num, .slice ad x.deed.data.length c] 42;have hlw := Zv.grow hl gw;have hdw := hd.grow gw;have HLN : Hid _ := Qm hr;have HRT : Hid (Q7 l = true) := hr;obtain ⟨R, hR⟩ : ∃ R, R = Xw l x := ⟨_, rfl⟩;rw [← hR];have HR : Hid _ := hR;clear hR hr hl hd;go_enter Tryz.func78, Tryz.ntmps78;go_upto_region 1 with fail
 generalize World.alloc w _ = W at *;have p0 := Ze hX 0 _ rfl;have p3 := Ze hX 3 _ rfl;have p4 := Ze hX 4 _ rfl;have p5 := Ze hX 5 _ rfl;have p6 := Ze hX 6 _ rfl;by_cases k1 : x.kind = 1
 ·have d1 : (x.kind == 1) = true := by simp [k1]
  have HL : Hid _ := Zr7 (l := l) k1;clear k1;go_wp2_with fail;refine (Zlu S l x.deed _ ad c W (fun b h => Nat.lt_of_lt_of_le (hS b h) gw.size) HRT.out hlw hdw hdl).mono ?_;generalize Zhh l x.deed = E at *;generalize Zhi l x.deed = D at *;obtain rfl : R = [D] := HR.out.trans HL.out;rintro r w1 ⟨v1, n1, rfl, h1, g1⟩;obtain ⟨a1, c1, rfl⟩ := Zv.form h1;have g2 := Zd w1 (.cells #[.slice a1 D.length c1] 33);have hM := Zk w1 #[.slice a1 D.length c1] 33;have hE := Zgc (S := Z7 S w.heap.size) (.inr (Nat.le_trans gw.size g1.size)) (Nat.le_refl _) (Ze hM 0 _ rfl) ((Zv.grow h1 g2).mono (Z9 (B := w.heap.size) gw.size));have gE := gw.trans (g1.trans g2);clear hM h1 g2 g1 gw hlw hX hdw HR HL p0 p3 p4 p5 p6;go_wp2_with fail;go_ret;exact ⟨_, rfl, hE, gE⟩
 ·have d1 : (x.kind == 1) = false := by simp [k1]
  by_cases k2 : x.kind = 2
  ·have d2 : (x.kind == 2) = true := by simp [k2]
   have HL : Hid (Zhh l x.deed = 0 → Xw l x = [l, Zhi l x.deed]) := Zr6 k2;have HA : Hid (Zhh l x.deed ≠ 0 → Xw l x = [l]) := fun h => Ze2 (fun _ => h) k1
   clear k1 k2;go_wp2_with fail;refine (Zlu S l x.deed _ ad c W (fun b h => Nat.lt_of_lt_of_le (hS b h) gw.size) HRT.out hlw hdw hdl).mono ?_;generalize Zhh l x.deed = E at *;generalize Zhi l x.deed = D at *;rintro r w1 ⟨v1, n1, rfl, h1, g1⟩;obtain ⟨a1, c1, rfl⟩ := Zv.form h1;replace hlw := Zv.grow hlw g1;have gW := gw;replace gw := gw.trans g1;clear hX hdw p0 p3 p4 p5 p6;by_cases he : E = 0
   ·have d3 : (E == 0) = true := by simp [he]
    obtain rfl : R = [l, D] := HR.out.trans (HL.out he);clear he HR HL HA;go_wp2_with fail;refine (Vs S l _ _ hlw (by have := HLN.out.1; omega) (fun x hx => (HLN.out.2 x hx).2.2)).mono ?_;rintro r w3 ⟨v3, css, rfl, ho, g3⟩;have hn3 := ho.recs S;obtain ⟨a3, c3, rfl⟩ := Zv.form hn3;have g4 := Zd w3 (.cells #[.slice a3 l.length c3, .slice a1 D.length c1] 33);have hM := Zk w3 #[.slice a3 l.length c3, .slice a1 D.length c1] 33;have hE := Zqq (S := Z7 S w.heap.size) (.inr (Nat.le_trans gw.size g3.size)) (Nat.le_refl _) (Ze hM 0 _ rfl) (Ze hM 1 _ rfl) ((Zv.grow hn3 g4).mono (Z9 (B := w.heap.size) gw.size)) ((Zv.grow h1 (g3.trans g4)).mono (Z9 (B := w.heap.size) gW.size));have gE := gw.trans (g3.trans g4);clear hM hn3 h1 g4 g3 gw hlw ho gW g1;go_wp2_with fail;go_ret;exact ⟨_, rfl, hE, gE⟩
   ·have d3 : (E == 0) = false := by simp [he]
    obtain rfl : R = [l] := HR.out.trans (HA.out he);have hX := trivial;have hdw := trivial;clear he HR HL HA h1 g1 gW;go_wp2_with fail;refine (Vs S l _ _ hlw (by have := HLN.out.1; omega) (fun x hx => (HLN.out.2 x hx).2.2)).mono ?_;rintro r w3 ⟨v3, css, rfl, ho, g3⟩;have hn3 := ho.recs S;obtain ⟨a3, c3, rfl⟩ := Zv.form hn3;have g4 := Zd w3 (.cells #[.slice a3 l.length c3] 33);have hM := Zk w3 #[.slice a3 l.length c3] 33;have hE := Zgc (S := Z7 S w.heap.size) (.inr (Nat.le_trans gw.size g3.size)) (Nat.le_refl _) (Ze hM 0 _ rfl) ((Zv.grow hn3 g4).mono (Z9 (B := w.heap.size) gw.size));have gE := gw.trans (g3.trans g4);clear hM hn3 g4 g3 gw hlw hX ho hdw;go_wp2_with fail;go_ret;exact ⟨_, rfl, hE, gE⟩
  ·have d2 : (x.kind == 2) = false := by simp [k2]
   obtain rfl : R = [l] := HR.out.trans (Ze2 (fun h => absurd h k2) k1);clear k1 k2 HR p3 p4 p5 p6;go_wp2_with fail;refine (Vs S l _ _ hlw (by have := HLN.out.1; omega) (fun x hx => (HLN.out.2 x hx).2.2)).mono ?_;rintro r w3 ⟨v3, css, rfl, ho, g3⟩;have hn3 := ho.recs S;obtain ⟨a3, c3, rfl⟩ := Zv.form hn3;have g4 := Zd w3 (.cells #[.slice a3 l.length c3] 33);have hM := Zk w3 #[.slice a3 l.length c3] 33;have hE := Zgc (S := Z7 S w.heap.size) (.inr (Nat.le_trans gw.size g3.size)) (Nat.le_refl _) (Ze hM 0 _ rfl) ((Zv.grow hn3 g4).mono (Z9 (B := w.heap.size) gw.size));have gE := gw.trans (g3.trans g4);clear hM hn3 g4 g3 gw hlw hX ho hdw;go_wp2_with fail;go_ret;exact ⟨_, rfl, hE, gE⟩
theorem Zx2 : Ztm := by
 intro S s x v ad c w hS hs hd hA hdl;obtain ⟨ab, cb, al, cl, ai, ci, rfl, hb, hl, -⟩ := hs.form;have g0 := Zx w (.cells #[.slice ab s.dk.blocks.length cb, .slice al s.dk.late.length cl, .slice ai s.idx.length ci, .int .i64 s.next] 30) (.cells #[.int .i64 x.kind, .int .i64 x.n, .int .i64 x.m, .int .i64 x.deed.kind, .int .i64 x.deed.key, .int .i64 x.deed.num, .slice ad x.deed.data.length c] 42);have hs0 := Zk w #[.slice ab s.dk.blocks.length cb, .slice al s.dk.late.length cl, .slice ai s.idx.length ci, .int .i64 s.next] 30;have hx := Zk (w.alloc (.cells #[.slice ab s.dk.blocks.length cb, .slice al s.dk.late.length cl, .slice ai s.idx.length ci, .int .i64 s.next] 30)) #[.int .i64 x.kind, .int .i64 x.n, .int .i64 x.m, .int .i64 x.deed.kind, .int .i64 x.deed.key, .int .i64 x.deed.num, .slice ad x.deed.data.length c] 42;have hss := ((Zd (w.alloc (.cells #[.slice ab s.dk.blocks.length cb, .slice al s.dk.late.length cl, .slice ai s.idx.length ci, .int .i64 s.next] 30)) (.cells #[.int .i64 x.kind, .int .i64 x.n, .int .i64 x.m, .int .i64 x.deed.kind, .int .i64 x.deed.key, .int .i64 x.deed.num, .slice ad x.deed.data.length c] 42)).block _ (Za hs0)).trans hs0;rw [World.size_alloc] at hx;have HF : Hid (s.dk.Fine 900) := hA.ok.disk.mono (by omega);clear hs0 hs hS hd hA hdl;obtain ⟨R, hR⟩ : ∃ R, R = Xe s x := ⟨_, rfl⟩;rw [← hR];have HR : Hid _ := hR;clear hR;obtain ⟨x0, x1⟩ := Q8 hx rfl rfl;obtain ⟨s0, s1⟩ := Q8 hss rfl rfl;by_cases h3 : x.kind = 3
 ·have d3 : (x.kind != 3) = false := by simp [h3]
  by_cases h0 : x.n < 0
  ·obtain rfl : R = true := by rw [HR.out]; unfold Xe; rw [if_pos (.inr (.inl h0))]
   clear HR h3;go_enter Tryz.func51, Tryz.ntmps51;go_wp2_with fail;go_ret;exact ⟨rfl, g0⟩
  ·by_cases h1 : 192 ≤ x.n
   ·obtain rfl : R = true := by rw [HR.out]; unfold Xe; rw [if_pos (.inr (.inr h1))]
    clear HR h3;go_enter Tryz.func51, Tryz.ntmps51;go_wp2_with fail;go_ret;exact ⟨rfl, g0⟩
   ·have hq : x.n.tdiv 32 = x.n / 32 := Int.tdiv_eq_ediv_of_nonneg (by omega);have HG : Hid (R = decide (s.dk.how (x.n / 32) < 2)) := by show _ = _; rw [HR.out]; unfold Xe; rw [if_neg (by omega)]
    have HH : Hid (0 ≤ s.dk.how (x.n / 32)) := (Zl3 s.dk (x.n / 32)).1;clear HR h3;go_enter Tryz.func51, Tryz.ntmps51;go_wp2_with fail;generalize World.alloc (World.alloc w _) _ = W at *;refine (Z0w s.dk (x.n / 32) _ W HF.out ⟨_, _, rfl, hb.p.grow g0, hl.p.grow g0⟩).mono ?_;rintro r w1 ⟨dv, rfl, ho, g1⟩;obtain ⟨a1, c1, rfl⟩ := Ye ho;have gE := (g0.trans g1).trans (Zd w1 (.cells #[.int .i64 (s.dk.tell (x.n / 32)).kind, .int .i64 (s.dk.tell (x.n / 32)).key, .int .i64 (s.dk.tell (x.n / 32)).ver, .slice a1 (s.dk.tell (x.n / 32)).data.length c1] 49));generalize s.dk.how (x.n / 32) = H at *;clear ho g1 g0 hx hss x0 x1 s0 s1 hb hl hq h0 h1;by_cases e0 : H = 0
    ·have q0 : (H == 0) = true := by simp [e0]
     obtain rfl : R = true := by rw [HG.out, e0]; rfl
     clear HG HH e0;go_wp2_with fail;go_ret;exact ⟨rfl, gE⟩
    ·have q0 : (H == 0) = false := by simp [e0]
     by_cases e1 : H = 1
     ·have q1 : (H == 1) = true := by simp [e1]
      obtain rfl : R = true := by rw [HG.out, e1]; rfl
      clear HG HH e0 e1;go_wp2_with fail;go_ret;exact ⟨rfl, gE⟩
     ·have q1 : (H == 1) = false := by simp [e1]
      obtain rfl : R = false := by rw [HG.out]; exact decide_eq_false (by have := HH.out; omega)
      clear HG HH e0 e1;go_wp2_with fail;go_ret;exact ⟨rfl, gE⟩
 ·have d3 : (x.kind != 3) = true := by simp [h3]
  obtain rfl : R = true := by rw [HR.out]; unfold Xe; rw [if_pos (.inl h3)]
  clear HR h3;go_enter Tryz.func51, Tryz.ntmps51;go_wp2_with fail;go_ret;exact ⟨rfl, g0⟩
end Go.Proofs.YtpdnapbchcdhladGreatDoor
