import Derived.Test.YtpdnapbchcdhlacGreatInv
import Derived.Deep.DeepCutAuto
import Derived.Deep.AppendLies
set_option maxHeartbeats 8000000
namespace Go.Proofs.YtpdnapbchcdhlacGreat
set_option maxRecDepth 100000
open Go.RowKit
open Plain Reg
variable {S : Nat → Prop} {ad : Option Addr} {c : Nat} {v : Value} {w : World} {x : Sp}
theorem Zvj {s : St} (h : Vk S s x v ad c w) (k1 : x.kind = 1) : X9 21 S s x v ad c w := by
 obtain ⟨ab, cb, al, cl, ai, ci, rfl, hb, hl, hi, hnz, g0, hs1, hd1, hz1, HWs⟩ := h.pre;obtain ⟨hS, hs, hd, hA, hdl⟩ := h;unfold X9;have hns : ¬ Zs S (w.heap.size + 3) w.heap.size := Ym hS (by omega);obtain ⟨R, hR⟩ : ∃ R, R = s.step x := ⟨_, rfl⟩;rw [← hR];have HR : Hid (R = s.step x) := hR;have HAT : Hid (s.At) := hA;clear hR hA;go_enter Tryz.func21, Tryz.ntmps21;obtain ⟨d0, d1, d2, d3, d4⟩ := Qh hd1 rfl rfl rfl rfl rfl;have d5 := Zc hd1 5 _ rfl;have d6 := Zc hd1 6 _ rfl;obtain ⟨s0, s1, s2, s3⟩ := Z4 hs1 rfl rfl rfl rfl;have q1 : (x.kind == 1) = true := by simp [k1]
 obtain rfl : R = s.doS x.deed := by rw [HR.out]; unfold St.step; rw [if_pos k1]
 clear HR k1;go_wp2_with fail;obtain ⟨W, hW⟩ : ∃ W, W = ((w.alloc (.cells #[.slice ab s.dk.blocks.length cb, .slice al s.dk.late.length cl, .slice ai s.idx.length ci, .int .i64 s.next] 29)).alloc (.cells #[.int .i64 x.kind, .int .i64 x.n, .int .i64 x.m, .int .i64 x.deed.kind, .int .i64 x.deed.key, .int .i64 x.deed.num, .slice ad x.deed.data.length c] 49)).alloc Y6 := ⟨_, rfl⟩;have hWs : W.heap.size = w.heap.size + 3 := by rw [hW]; simp
 rw [← hW] at g0 hs1 hd1 hz1 d0 d1 d2 d3 d4 d5 d6 s0 s1 s2 s3 ⊢;clear hW;refine (Zsr S 0 s x.deed _ ad c W (fun b h => by have := hS b h; omega) (hs.grow g0) (hd.grow g0) HAT.out.ok (by omega) hdl).mono ?_;rw [hWs];obtain ⟨B, hB⟩ : ∃ B, B = s.doS x.deed := ⟨_, rfl⟩;rw [← hB];have HB : Hid _ := hB;clear hB;rintro r w1 ⟨v1, rfl, hS8, g1⟩;have hz9 := (g1.block _ (Za hz1)).trans hz1;have gw9 := g0.trans g1;obtain ⟨b9, e9, l9, m9, i9, j9, hv9, -, -, -⟩ := hS8.form;subst hv9;obtain ⟨s9, hs9⟩ : ∃ s9, s9 = B.st := ⟨_, rfl⟩;rw [← hs9] at hS8 ⊢;have HS9 : Hid _ := hs9;have hS9 := hS8;clear hS8 hs1 hd1 hz1 d0 d1 d2 d3 d4 d5 d6 s0 s1 s2 s3 g0 g1 hs9 hs hb hl hi q1;obtain ⟨hq1, hq2⟩ := Yd hz9 (.slice b9 s9.dk.blocks.length e9) (.slice l9 s9.dk.late.length m9) (.slice i9 s9.idx.length j9) (.int .i64 s9.next);obtain ⟨z0, z1, z2, z3⟩ := Z4 hz9 rfl rfl rfl rfl;obtain ⟨o0, o1, o2, o3⟩ := Yr hz9;obtain ⟨x0, x1, x2, x3⟩ := Z4 hq1 rfl rfl rfl rfl;have cs := Zr;have gE := hq2.grow gw9 (by omega);have hE := (hS9.but hq2 hnz).mono (Zw (B := w.heap.size) (by omega));clear hq1 hq2 hz9 gw9 hS9;go_wp2_with fail;exact bodyPost_ret (v := .tuple #[.agg #[.slice b9 s9.dk.blocks.length e9, .slice l9 s9.dk.late.length m9, .slice i9 s9.idx.length j9, .int .i64 s9.next], .int .i64 B.n, .int .i64 B.e]) (by simp [results, Tryz.results21, go_sem, x0, x1, x2, x3]) rfl ⟨_, by rw [← HB.out], by rw [← HB.out, ← HS9.out]; exact hE, gE⟩
theorem Zvi {s : St} (h : Vk S s x v ad c w) (k1 : ¬ x.kind = 1) (k2 : x.kind = 2) : X9 21 S s x v ad c w := by
 obtain ⟨ab, cb, al, cl, ai, ci, rfl, hb, hl, hi, hnz, g0, hs1, hd1, hz1, HWs⟩ := h.pre;obtain ⟨hS, hs, hd, hA, hdl⟩ := h;unfold X9;have hns : ¬ Zs S (w.heap.size + 3) w.heap.size := Ym hS (by omega);obtain ⟨R, hR⟩ : ∃ R, R = s.step x := ⟨_, rfl⟩;rw [← hR];have HR : Hid (R = s.step x) := hR;have HAT : Hid (s.At) := hA;clear hR hA;go_enter Tryz.func21, Tryz.ntmps21;obtain ⟨d0, d1, d2, d3, d4⟩ := Qh hd1 rfl rfl rfl rfl rfl;have d5 := Zc hd1 5 _ rfl;have d6 := Zc hd1 6 _ rfl;obtain ⟨s0, s1, s2, s3⟩ := Z4 hs1 rfl rfl rfl rfl;have q1 : (x.kind == 1) = false := by simp [k1]
 have q2 : (x.kind == 2) = true := by simp [k2]
 obtain ⟨B, hB⟩ : ∃ B, B = s.begin x.deed := ⟨_, rfl⟩;have HRB : Hid (R = if B.e ≠ 0 then ⟨s, 0, B.e⟩ else ⟨X5 (B.st.dk.keep x.n), B.n, 0⟩) := by show R = _; rw [HR.out, hB]; unfold St.step; rw [if_neg k1, if_pos k2]
 have HOB : Hid (B.st.Ok 2) := by rw [hB]; exact Zau HAT.out.ok
 have HB : Hid _ := hB;clear HR k1 k2 hB;go_wp2_with fail;generalize World.alloc (World.alloc (World.alloc w _) _) _ = W at *;have hWs := HWs.out;clear HWs;refine (Zfw S 0 s x.deed _ ad c W (fun b h => by have := hS b h; omega) (hs.grow g0) (hd.grow g0) HAT.out.ok (by omega) hdl).mono ?_;rw [hWs, ← HB.out];rintro r w1 ⟨v1, rfl, hS1, g1⟩;obtain ⟨b1, e1, l1, m1, i1, j1, hv1, u1, u2, -⟩ := hS1.form;subst hv1;have g2 := Zb w1 (.cells #[.slice b1 B.st.dk.blocks.length e1, .slice l1 B.st.dk.late.length m1, .slice i1 B.st.idx.length j1, .int .i64 B.st.next] 29);have hY := Zg w1 #[.slice b1 B.st.dk.blocks.length e1, .slice l1 B.st.dk.late.length m1, .slice i1 B.st.idx.length j1, .int .i64 B.st.next] 29;have gg := g1.trans g2;have hs2 := (gg.block _ (Za hs1)).trans hs1;have hd2 := (gg.block _ (Za hd1)).trans hd1;have hz2 := (gg.block _ (Za hz1)).trans hz1;have gw2 := g0.trans gg;have p1 := u1.capd.grow g2;have p2 := u2.capd.grow g2;have HW1 : Hid (w.heap.size + 3 ≤ w1.heap.size) := by rw [← hWs]; exact g1.size
 clear d0 d1 d2 d3 d4 d5 d6 s0 s1 s2 s3 hs1 hd1 hz1 g0 g1 g2 gg hS1 u1 u2;obtain ⟨y0, y1⟩ := Y9 hY rfl rfl;have d1 := Zc hd2 1 _ rfl;obtain ⟨s0, s1, s2, s3⟩ := Z4 hs2 rfl rfl rfl rfl;by_cases he : B.e = 0
 ·have qe : (B.e != 0) = false := by simp [he]
  obtain ⟨KD, hKD⟩ : ∃ KD, KD = B.st.dk.keep x.n := ⟨_, rfl⟩;obtain rfl : R = ⟨X5 KD, B.n, 0⟩ := by rw [HRB.out, if_neg (by simpa using he), hKD]
  have HKD : Hid _ := hKD;clear HRB he hKD;go_wp2_with fail;obtain ⟨N1, hN1⟩ : ∃ N1, N1 = w1.heap.size := ⟨_, rfl⟩;rw [← hN1] at p1 p2 HW1;obtain ⟨W2, hW2⟩ : ∃ W2, W2 = w1.alloc (.cells #[.slice b1 B.st.dk.blocks.length e1, .slice l1 B.st.dk.late.length m1, .slice i1 B.st.idx.length j1, .int .i64 B.st.next] 29) := ⟨_, rfl⟩;have hs2z : W2.heap.size = N1 + 1 := by rw [hW2, hN1]; simp
  rw [← hW2] at hY hs2 hd2 hz2 gw2 p1 p2 y0 y1 d1 s0 s1 s2 s3 ⊢;clear hW2 hN1;refine (Zir (fun b => Zs S (w.heap.size + 3) b ∧ b < N1) 2 B.st.dk x.n _ W2 (fun b h => by have := h.2; omega) ⟨_, _, rfl, p1, p2⟩ HOB.out.disk (by omega)).mono ?_;rw [← HKD.out, hs2z];rintro r w3 ⟨v3, rfl, h3, g3⟩;obtain ⟨b3, e3, l3, m3, rfl, h3b, h3l⟩ := h3.form;have hz3 := (g3.block _ (Za hz2)).trans hz2;have gw3 := gw2.trans g3;clear y0 y1 d1 s0 s1 s2 s3 hY hs2 hd2 hz2 gw2 p1 p2 h3 g3 hs2z;go_wp2_with fail;have hmx : ∀ b, Zs (fun b => Zs S (w.heap.size + 3) b ∧ b < N1) (N1 + 1) b → Zs S (w.heap.size + 3) b := fun b h => h.elim (fun x => x.1) (fun x => .inr (by have := HW1.out; omega))
  refine (Za1 (fun b => Zs S (w.heap.size + 3) b ∧ b < w3.heap.size) 0 KD _ w3 (fun b h => h.2) ⟨_, _, rfl, (h3b.mono hmx).capd, (h3l.mono hmx).capd⟩ (by rw [HKD.out]; exact HOB.out.disk.kept x.n) (by omega)).mono ?_;have HW3 : Hid (w.heap.size + 3 ≤ w3.heap.size) := Za hz3;rintro r w4 ⟨v4, rfl, h4, g4⟩;have hS8 : Z8 (Zs S (w.heap.size + 3)) (X5 KD) v4 w4 := h4.mono fun b h => h.elim (fun x => x.1) (fun x => .inr (Nat.le_trans HW3.out x))
  have hz9 := (g4.block _ (Za hz3)).trans hz3;have gw9 := gw3.trans g4;obtain ⟨b9, e9, l9, m9, i9, j9, hv9, -, -, -⟩ := hS8.form;subst hv9;obtain ⟨s9, hs9⟩ : ∃ s9, s9 = X5 KD := ⟨_, rfl⟩;rw [← hs9] at hS8 ⊢;have HS9 : Hid _ := hs9;have hS9 := hS8;clear hS8 h4 hz3 gw3 g4 h3b h3l hmx hs9;obtain ⟨hq1, hq2⟩ := Yd hz9 (.slice b9 s9.dk.blocks.length e9) (.slice l9 s9.dk.late.length m9) (.slice i9 s9.idx.length j9) (.int .i64 s9.next);obtain ⟨z0, z1, z2, z3⟩ := Z4 hz9 rfl rfl rfl rfl;obtain ⟨o0, o1, o2, o3⟩ := Yr hz9;obtain ⟨x0, x1, x2, x3⟩ := Z4 hq1 rfl rfl rfl rfl;have cs := Zr;have gE := hq2.grow gw9 (by omega);have hE := (hS9.but hq2 hnz).mono (Zw (B := w.heap.size) (by omega));clear hq1 hq2 hz9 gw9 hS9;go_wp2_with fail;exact bodyPost_ret (v := .tuple #[.agg #[.slice b9 s9.dk.blocks.length e9, .slice l9 s9.dk.late.length m9, .slice i9 s9.idx.length j9, .int .i64 s9.next], .int .i64 B.n, .int .i64 0]) (by simp [results, Tryz.results21, go_sem, x0, x1, x2, x3]) rfl ⟨_, rfl, by rw [← HS9.out]; exact hE, gE⟩
 ·have qe : (B.e != 0) = true := by simp [he]
  obtain rfl : R = ⟨s, 0, B.e⟩ := by rw [HRB.out, if_pos he]
  have hzX := hz2;have gwX := gw2;clear HRB he hY hd2 gw2 p1 p2 y0 y1 d1 hz2;obtain ⟨z0, z1, z2, z3⟩ := Z4 hzX rfl rfl rfl rfl;obtain ⟨f0, f1, f2, f3⟩ := Yr hzX;have cs := Zr;obtain ⟨hq1, hq2⟩ := Yd hzX (.slice ab s.dk.blocks.length cb) (.slice al s.dk.late.length cl) (.slice ai s.idx.length ci) (.int .i64 s.next);obtain ⟨x0, x1, x2, x3⟩ := Z4 hq1 rfl rfl rfl rfl;have gE := hq2.grow gwX (by omega);have hE := (hs.grow gE).mono (S' := Zs S w.heap.size) V2;clear hq1 hq2 hzX gwX;go_wp2_with fail;exact bodyPost_ret (v := .tuple #[.agg #[.slice ab s.dk.blocks.length cb, .slice al s.dk.late.length cl, .slice ai s.idx.length ci, .int .i64 s.next], .int .i64 0, .int .i64 B.e]) (by simp [results, Tryz.results21, go_sem, x0, x1, x2, x3]) rfl ⟨_, rfl, hE, gE⟩
variable {S : Nat → Prop} {ad : Option Addr} {c : Nat} {v : Value} {w : World} {x : Sp}
theorem Zvh {s : St} (h : Vk S s x v ad c w) (k1 : ¬ x.kind = 1) (k2 : ¬ x.kind = 2) (k3 : x.kind = 3) : X9 21 S s x v ad c w := by
 obtain ⟨ab, cb, al, cl, ai, ci, rfl, hb, hl, hi, hnz, g0, hs1, hd1, hz1, HWs⟩ := h.pre;obtain ⟨hS, hs, hd, hA, hdl⟩ := h;unfold X9;have hns : ¬ Zs S (w.heap.size + 3) w.heap.size := Ym hS (by omega);obtain ⟨R, hR⟩ : ∃ R, R = s.step x := ⟨_, rfl⟩;rw [← hR];have HR : Hid (R = s.step x) := hR;have HAT : Hid (s.At) := hA;clear hR hA;go_enter Tryz.func21, Tryz.ntmps21;obtain ⟨d0, d1, d2, d3, d4⟩ := Qh hd1 rfl rfl rfl rfl rfl;have d5 := Zc hd1 5 _ rfl;have d6 := Zc hd1 6 _ rfl;obtain ⟨s0, s1, s2, s3⟩ := Z4 hs1 rfl rfl rfl rfl;have q1 : (x.kind == 1) = false := by simp [k1]
 have q2 : (x.kind == 2) = false := by simp [k2]
 have q3 : (x.kind == 3) = true := by simp [k3]
 have HRB : Hid (R = if x.n < 0 ∨ 192 ≤ x.n then ⟨s, 0, 3⟩ else ⟨⟨s.dk.spoil (x.n / 16) (x.n % 16) x.m, s.idx, s.next⟩, 0, 0⟩) := by show R = _; rw [HR.out]; unfold St.step; rw [if_neg k1, if_neg k2, if_pos k3]
 clear HR k1 k2 k3;by_cases h0 : x.n < 0
 ·obtain rfl : R = ⟨s, 0, 3⟩ := by rw [HRB.out, if_pos (.inl h0)]
  clear HRB;go_upto_region 1 with fail
  generalize World.alloc (World.alloc (World.alloc w _) _) _ = W at *;have hWs := HWs.out;clear HWs;have hzX := hz1;have gwX := g0;obtain ⟨z0, z1, z2, z3⟩ := Z4 hzX rfl rfl rfl rfl;obtain ⟨f0, f1, f2, f3⟩ := Yr hzX;have cs := Zr;obtain ⟨hq1, hq2⟩ := Yd hzX (.slice ab s.dk.blocks.length cb) (.slice al s.dk.late.length cl) (.slice ai s.idx.length ci) (.int .i64 s.next);obtain ⟨x0, x1, x2, x3⟩ := Z4 hq1 rfl rfl rfl rfl;have gE := hq2.grow gwX (by omega);have hE := (hs.grow gE).mono (S' := Zs S w.heap.size) V2;clear hq1 hq2 hzX gwX;go_wp2_with fail;exact bodyPost_ret (v := .tuple #[.agg #[.slice ab s.dk.blocks.length cb, .slice al s.dk.late.length cl, .slice ai s.idx.length ci, .int .i64 s.next], .int .i64 0, .int .i64 3]) (by simp [results, Tryz.results21, go_sem, x0, x1, x2, x3]) rfl ⟨_, rfl, hE, gE⟩
 ·by_cases h1 : 192 ≤ x.n
  ·obtain rfl : R = ⟨s, 0, 3⟩ := by rw [HRB.out, if_pos (.inr h1)]
   clear HRB;go_upto_region 1 with fail
   generalize World.alloc (World.alloc (World.alloc w _) _) _ = W at *;have hWs := HWs.out;clear HWs;have hzX := hz1;have gwX := g0;obtain ⟨z0, z1, z2, z3⟩ := Z4 hzX rfl rfl rfl rfl;obtain ⟨f0, f1, f2, f3⟩ := Yr hzX;have cs := Zr;obtain ⟨hq1, hq2⟩ := Yd hzX (.slice ab s.dk.blocks.length cb) (.slice al s.dk.late.length cl) (.slice ai s.idx.length ci) (.int .i64 s.next);obtain ⟨x0, x1, x2, x3⟩ := Z4 hq1 rfl rfl rfl rfl;have gE := hq2.grow gwX (by omega);have hE := (hs.grow gE).mono (S' := Zs S w.heap.size) V2;clear hq1 hq2 hzX gwX;go_wp2_with fail;exact bodyPost_ret (v := .tuple #[.agg #[.slice ab s.dk.blocks.length cb, .slice al s.dk.late.length cl, .slice ai s.idx.length ci, .int .i64 s.next], .int .i64 0, .int .i64 3]) (by simp [results, Tryz.results21, go_sem, x0, x1, x2, x3]) rfl ⟨_, rfl, hE, gE⟩
  ·obtain ⟨SD, hSD⟩ : ∃ SD, SD = s.dk.spoil (x.n / 16) (x.n % 16) x.m := ⟨_, rfl⟩;obtain rfl : R = ⟨⟨SD, s.idx, s.next⟩, 0, 0⟩ := by rw [HRB.out, if_neg (by omega), hSD]
   have HSD : Hid _ := hSD;have e16 : x.n.tdiv 16 = x.n / 16 := Int.tdiv_eq_ediv_of_nonneg (by omega);have m16 : x.n.tmod 16 = x.n % 16 := Int.tmod_eq_emod_of_nonneg (by omega);clear HRB hSD;go_wp2_with fail;generalize World.alloc (World.alloc (World.alloc w _) _) _ = W at *;have hWs := HWs.out;clear HWs;refine (Zsj S 0 s.dk (x.n / 16) (x.n % 16) x.m _ W (fun b h => by have := hS b h; omega) ⟨_, _, rfl, hb.grow g0, hl.grow g0⟩ HAT.out.ok.disk).mono ?_;rw [hWs, ← HSD.out];rintro r w1 ⟨v1, rfl, h1', g1⟩;obtain ⟨b9, e9, l9, m9, rfl, p1, p2⟩ := h1'.form;have hs8 := (g1.block _ (Za hs1)).trans hs1;have hz8 := (g1.block _ (Za hz1)).trans hz1;have gw8 := g0.trans g1;have hI8 := (hi.grow gw8).mono (S' := Zs S (w.heap.size + 3)) V2;clear d0 d1 d2 d3 d4 d5 d6 s0 s1 s2 s3 hs1 hd1 hz1 g0 g1 h1' hs hb hl hi;obtain ⟨ht1, ht2⟩ := Zas hs8 (.slice b9 SD.blocks.length e9) (.slice l9 SD.late.length m9);obtain ⟨y0, y1, y2, y3⟩ := Z4 hs8 rfl rfl rfl rfl;have f0 := Zi hs8 0;have f1 := Zi hs8 1;obtain ⟨t0, t1, t2, t3⟩ := Z4 ht1 rfl rfl rfl rfl;have hz9 := (ht2.block _ (Za hz8) (by omega)).trans hz8;have gw9 := ht2.grow gw8 (Nat.le_refl _);obtain ⟨i9, j9, hij⟩ : ∃ i9 j9, i9 = ai ∧ j9 = ci := ⟨_, _, rfl, rfl⟩;obtain ⟨rfl, rfl⟩ := hij;obtain ⟨s9, hs9⟩ : ∃ s9 : St, s9 = ⟨SD, s.idx, s.next⟩ := ⟨_, rfl⟩
   have hS9 : Z8 (Zs S (w.heap.size + 3)) ⟨SD, s.idx, s.next⟩ (.agg #[.slice b9 SD.blocks.length e9, .slice l9 SD.late.length m9, .slice i9 s.idx.length j9, .int .i64 s.next]) _ := ⟨_, _, _, rfl, p1.but ht2 hns, p2.but ht2 hns, hI8.but ht2 hns⟩;clear ht1 ht2 hs8 hz8 gw8 p1 p2 hI8 hs9;clear s9;obtain ⟨hq1, hq2⟩ := Yd hz9 (.slice b9 SD.blocks.length e9) (.slice l9 SD.late.length m9) (.slice i9 s.idx.length j9) (.int .i64 s.next);obtain ⟨z0, z1, z2, z3⟩ := Z4 hz9 rfl rfl rfl rfl;obtain ⟨o0, o1, o2, o3⟩ := Yr hz9;obtain ⟨x0, x1, x2, x3⟩ := Z4 hq1 rfl rfl rfl rfl;have cs := Zr;have gE := hq2.grow gw9 (by omega);have hE := (hS9.but hq2 hnz).mono (Zw (B := w.heap.size) (by omega));clear hq1 hq2 hz9 gw9 hS9;go_wp2_with fail;exact bodyPost_ret (v := .tuple #[.agg #[.slice b9 SD.blocks.length e9, .slice l9 SD.late.length m9, .slice i9 s.idx.length j9, .int .i64 s.next], .int .i64 0, .int .i64 0]) (by simp [results, Tryz.results21, go_sem, x0, x1, x2, x3]) rfl ⟨_, rfl, hE, gE⟩
theorem Zvg {s : St} (h : Vk S s x v ad c w) (k1 : ¬ x.kind = 1) (k2 : ¬ x.kind = 2) (k3 : ¬ x.kind = 3) (k4 : x.kind = 4) : X9 21 S s x v ad c w := by
 obtain ⟨ab, cb, al, cl, ai, ci, rfl, hb, hl, hi, hnz, g0, hs1, hd1, hz1, HWs⟩ := h.pre;obtain ⟨hS, hs, hd, hA, hdl⟩ := h;unfold X9;have hns : ¬ Zs S (w.heap.size + 3) w.heap.size := Ym hS (by omega);obtain ⟨R, hR⟩ : ∃ R, R = s.step x := ⟨_, rfl⟩;rw [← hR];have HR : Hid (R = s.step x) := hR;have HAT : Hid (s.At) := hA;clear hR hA;go_enter Tryz.func21, Tryz.ntmps21;obtain ⟨d0, d1, d2, d3, d4⟩ := Qh hd1 rfl rfl rfl rfl rfl;have d5 := Zc hd1 5 _ rfl;have d6 := Zc hd1 6 _ rfl;obtain ⟨s0, s1, s2, s3⟩ := Z4 hs1 rfl rfl rfl rfl;have q1 : (x.kind == 1) = false := by simp [k1]
 have q2 : (x.kind == 2) = false := by simp [k2]
 have q3 : (x.kind == 3) = false := by simp [k3]
 have q4 : (x.kind == 4) = true := by simp [k4]
 obtain ⟨s9, hs9⟩ : ∃ s9, s9 = s.scrub := ⟨_, rfl⟩;obtain rfl : R = ⟨s9, 0, 0⟩ := by rw [HR.out, hs9]; unfold St.step; rw [if_neg k1, if_neg k2, if_neg k3, if_pos k4]
 have HS9 : Hid _ := hs9;clear HR k1 k2 k3 k4 hs9;go_wp2_with fail;generalize World.alloc (World.alloc (World.alloc w _) _) _ = W at *;have hWs := HWs.out;clear HWs;refine (Zmm S 0 s _ W (fun b h => by have := hS b h; omega) (hs.grow g0) HAT.out.ok.disk (by omega) HAT.out.low (by have := HAT.out.high; omega)).mono ?_;rw [hWs, ← HS9.out];rintro r w1 ⟨v1, rfl, hS8, g1⟩;have hs8 := (g1.block _ (Za hs1)).trans hs1;have hz8 := (g1.block _ (Za hz1)).trans hz1;have gw8 := g0.trans g1;obtain ⟨b9, e9, l9, m9, i9, j9, hv9, -, -, -⟩ := hS8.form;subst hv9;clear d0 d1 d2 d3 d4 d5 d6 s0 s1 s2 s3 hs1 hd1 hz1 g0 g1 hs hb hl hi;obtain ⟨ht1, ht2⟩ := Yd hs8 (.slice b9 s9.dk.blocks.length e9) (.slice l9 s9.dk.late.length m9) (.slice i9 s9.idx.length j9) (.int .i64 s9.next);obtain ⟨y0, y1, y2, y3⟩ := Z4 hs8 rfl rfl rfl rfl;obtain ⟨f0, f1, f2, f3⟩ := Yr hs8;obtain ⟨t0, t1, t2, t3⟩ := Z4 ht1 rfl rfl rfl rfl;have hz9 := (ht2.block _ (Za hz8) (by omega)).trans hz8;have gw9 := ht2.grow gw8 (Nat.le_refl _);have hS9 := hS8.but ht2 hns;clear ht1 ht2 hs8 hz8 gw8 hS8;obtain ⟨hq1, hq2⟩ := Yd hz9 (.slice b9 s9.dk.blocks.length e9) (.slice l9 s9.dk.late.length m9) (.slice i9 s9.idx.length j9) (.int .i64 s9.next);obtain ⟨z0, z1, z2, z3⟩ := Z4 hz9 rfl rfl rfl rfl;obtain ⟨o0, o1, o2, o3⟩ := Yr hz9;obtain ⟨x0, x1, x2, x3⟩ := Z4 hq1 rfl rfl rfl rfl;have cs := Zr;have gE := hq2.grow gw9 (by omega);have hE := (hS9.but hq2 hnz).mono (Zw (B := w.heap.size) (by omega));clear hq1 hq2 hz9 gw9 hS9;go_wp2_with fail
 exact bodyPost_ret (v := .tuple #[.agg #[.slice b9 s9.dk.blocks.length e9, .slice l9 s9.dk.late.length m9, .slice i9 s9.idx.length j9, .int .i64 s9.next], .int .i64 0, .int .i64 0]) (by simp [results, Tryz.results21, go_sem, x0, x1, x2, x3]) rfl ⟨_, rfl, hE, gE⟩
variable {S : Nat → Prop} {ad : Option Addr} {c : Nat} {v : Value} {w : World} {x : Sp}
theorem Zvf {s : St} (h : Vk S s x v ad c w) (k1 : ¬ x.kind = 1) (k2 : ¬ x.kind = 2) (k3 : ¬ x.kind = 3) (k4 : ¬ x.kind = 4) (k5 : x.kind = 5) : X9 21 S s x v ad c w := by
 obtain ⟨ab, cb, al, cl, ai, ci, rfl, hb, hl, hi, hnz, g0, hs1, hd1, hz1, HWs⟩ := h.pre;obtain ⟨hS, hs, hd, hA, hdl⟩ := h;unfold X9;have hns : ¬ Zs S (w.heap.size + 3) w.heap.size := Ym hS (by omega);obtain ⟨R, hR⟩ : ∃ R, R = s.step x := ⟨_, rfl⟩;rw [← hR];have HR : Hid (R = s.step x) := hR;have HAT : Hid (s.At) := hA;clear hR hA;go_enter Tryz.func21, Tryz.ntmps21;obtain ⟨d0, d1, d2, d3, d4⟩ := Qh hd1 rfl rfl rfl rfl rfl;have d5 := Zc hd1 5 _ rfl;have d6 := Zc hd1 6 _ rfl;obtain ⟨s0, s1, s2, s3⟩ := Z4 hs1 rfl rfl rfl rfl;have q1 : (x.kind == 1) = false := by simp [k1]
 have q2 : (x.kind == 2) = false := by simp [k2]
 have q3 : (x.kind == 3) = false := by simp [k3]
 have q4 : (x.kind == 4) = false := by simp [k4]
 have q5 : (x.kind == 5) = true := by simp [k5]
 obtain ⟨CD, hCD⟩ : ∃ CD, CD = s.dk.clean := ⟨_, rfl⟩;obtain ⟨s9, hs9⟩ : ∃ s9, s9 = X5 CD := ⟨_, rfl⟩;obtain rfl : R = ⟨s9, 0, 0⟩ := by rw [HR.out, hs9, hCD]; unfold St.step; rw [if_neg k1, if_neg k2, if_neg k3, if_neg k4, if_pos k5]
 have HS9 : Hid _ := hs9;have HCD : Hid _ := hCD;have HCF : Hid (CD.Fine 0) := by rw [hCD]; exact Zdv HAT.out.ok.disk
 clear HR k1 k2 k3 k4 k5 hs9 hCD;go_wp2_with fail;generalize World.alloc (World.alloc (World.alloc w _) _) _ = W at *;have hWs := HWs.out;clear HWs;refine (Zmv S 0 s.dk _ W (fun b h => by have := hS b h; omega) ⟨_, _, rfl, hb.grow g0, hl.grow g0⟩ HAT.out.ok.disk (by omega)).mono ?_;rw [hWs, ← HCD.out];generalize cnt (s.dk.keep 0) 6 = CN at *;generalize Yl (s.dk.keep 0) 6 = tw at *;rintro r w1 ⟨v1, vt, rfl, h1, hvt, g1⟩;obtain ⟨b1, e1, l1, m1, rfl, h1b, h1l⟩ := h1.form;obtain ⟨at1, ct1, rfl⟩ := hvt.form;have g2 := Zp w1 (.cells #[.slice b1 CD.blocks.length e1, .slice l1 CD.late.length m1] 26) (.cells (Vh CN) 39);have hV0 := Zg w1 #[.slice b1 CD.blocks.length e1, .slice l1 CD.late.length m1] 26;have hV := ((Zb (w1.alloc (.cells #[.slice b1 CD.blocks.length e1, .slice l1 CD.late.length m1] 26)) (.cells (Vh CN) 39)).block _ (Za hV0)).trans hV0;have gg := g1.trans g2;have hs2 := (gg.block _ (Za hs1)).trans hs1;have hz2 := (gg.block _ (Za hz1)).trans hz1;have gw2 := g0.trans gg;have p1 := h1b.grow g2;have p2 := h1l.grow g2;clear d0 d1 d2 d3 d4 d5 d6 s0 s1 s2 s3 hs1 hd1 hz1 g0 g1 g2 gg hs hb hl hi hV0 h1 h1b h1l hvt;obtain ⟨v0, v1⟩ := Y9 hV rfl rfl;go_wp2_with fail;clear v0 v1 hV;generalize World.alloc (World.alloc w1 _) _ = W2 at *;refine (Za1 (fun b => Zs S (w.heap.size + 3) b ∧ b < W2.heap.size) 0 CD _ W2 (fun b h => h.2) ⟨_, _, rfl, p1.capd, p2.capd⟩ HCF.out (by omega)).mono ?_;have HW2 : Hid (w.heap.size + 3 ≤ W2.heap.size) := Za hz2;rw [← HS9.out];rintro r w3 ⟨v3, rfl, h3, g3⟩
 have hS8 : Z8 (Zs S (w.heap.size + 3)) s9 v3 w3 := h3.mono fun b h => h.elim (fun x => x.1) (fun x => .inr (Nat.le_trans HW2.out x))
 have hs8 := (g3.block _ (Za hs2)).trans hs2;have hz8 := (g3.block _ (Za hz2)).trans hz2;have gw8 := gw2.trans g3;obtain ⟨b9, e9, l9, m9, i9, j9, hv9, -, -, -⟩ := hS8.form;subst hv9;clear hs2 hz2 gw2 p1 p2 h3 g3;obtain ⟨ht1, ht2⟩ := Yd hs8 (.slice b9 s9.dk.blocks.length e9) (.slice l9 s9.dk.late.length m9) (.slice i9 s9.idx.length j9) (.int .i64 s9.next);obtain ⟨y0, y1, y2, y3⟩ := Z4 hs8 rfl rfl rfl rfl;obtain ⟨f0, f1, f2, f3⟩ := Yr hs8;obtain ⟨t0, t1, t2, t3⟩ := Z4 ht1 rfl rfl rfl rfl;have hz9 := (ht2.block _ (Za hz8) (by omega)).trans hz8;have gw9 := ht2.grow gw8 (Nat.le_refl _);have hS9 := hS8.but ht2 hns;clear ht1 ht2 hs8 hz8 gw8 hS8;obtain ⟨hq1, hq2⟩ := Yd hz9 (.slice b9 s9.dk.blocks.length e9) (.slice l9 s9.dk.late.length m9) (.slice i9 s9.idx.length j9) (.int .i64 s9.next);obtain ⟨z0, z1, z2, z3⟩ := Z4 hz9 rfl rfl rfl rfl;obtain ⟨o0, o1, o2, o3⟩ := Yr hz9;obtain ⟨x0, x1, x2, x3⟩ := Z4 hq1 rfl rfl rfl rfl;have cs := Zr;have gE := hq2.grow gw9 (by omega);have hE := (hS9.but hq2 hnz).mono (Zw (B := w.heap.size) (by omega));clear hq1 hq2 hz9 gw9 hS9;go_wp2_with fail;exact bodyPost_ret (v := .tuple #[.agg #[.slice b9 s9.dk.blocks.length e9, .slice l9 s9.dk.late.length m9, .slice i9 s9.idx.length j9, .int .i64 s9.next], .int .i64 0, .int .i64 0]) (by simp [results, Tryz.results21, go_sem, x0, x1, x2, x3]) rfl ⟨_, rfl, hE, gE⟩
theorem Zve {s : St} (h : Vk S s x v ad c w) (k1 : ¬ x.kind = 1) (k2 : ¬ x.kind = 2) (k3 : ¬ x.kind = 3) (k4 : ¬ x.kind = 4) (k5 : ¬ x.kind = 5) (k6 : x.kind = 6) : X9 21 S s x v ad c w := by
 obtain ⟨ab, cb, al, cl, ai, ci, rfl, hb, hl, hi, hnz, g0, hs1, hd1, hz1, HWs⟩ := h.pre;obtain ⟨hS, hs, hd, hA, hdl⟩ := h;unfold X9;have hns : ¬ Zs S (w.heap.size + 3) w.heap.size := Ym hS (by omega);obtain ⟨R, hR⟩ : ∃ R, R = s.step x := ⟨_, rfl⟩;rw [← hR];have HR : Hid (R = s.step x) := hR;have HAT : Hid (s.At) := hA;clear hR hA;go_enter Tryz.func21, Tryz.ntmps21;obtain ⟨d0, d1, d2, d3, d4⟩ := Qh hd1 rfl rfl rfl rfl rfl;have d5 := Zc hd1 5 _ rfl;have d6 := Zc hd1 6 _ rfl;obtain ⟨s0, s1, s2, s3⟩ := Z4 hs1 rfl rfl rfl rfl;have q1 : (x.kind == 1) = false := by simp [k1]
 have q2 : (x.kind == 2) = false := by simp [k2]
 have q3 : (x.kind == 3) = false := by simp [k3]
 have q4 : (x.kind == 4) = false := by simp [k4]
 have q5 : (x.kind == 5) = false := by simp [k5]
 have q6 : (x.kind == 6) = true := by simp [k6]
 obtain ⟨s9, hs9⟩ : ∃ s9, s9 = X5 s.dk := ⟨_, rfl⟩;obtain rfl : R = ⟨s9, 0, 0⟩ := by rw [HR.out, hs9]; unfold St.step; rw [if_neg k1, if_neg k2, if_neg k3, if_neg k4, if_neg k5, if_pos k6]
 have HS9 : Hid _ := hs9;clear HR k1 k2 k3 k4 k5 k6 hs9;go_wp2_with fail;generalize World.alloc (World.alloc (World.alloc w _) _) _ = W at *;have hWs := HWs.out;clear HWs;refine (Za1 S 0 s.dk _ W (fun b h => by have := hS b h; omega) ⟨_, _, rfl, hb.grow g0, hl.grow g0⟩ HAT.out.ok.disk (by omega)).mono ?_;rw [hWs, ← HS9.out];rintro r w1 ⟨v1, rfl, hS8, g1⟩;have hs8 := (g1.block _ (Za hs1)).trans hs1;have hz8 := (g1.block _ (Za hz1)).trans hz1;have gw8 := g0.trans g1;obtain ⟨b9, e9, l9, m9, i9, j9, hv9, -, -, -⟩ := hS8.form;subst hv9;clear d0 d1 d2 d3 d4 d5 d6 s0 s1 s2 s3 hs1 hd1 hz1 g0 g1 hs hb hl hi;obtain ⟨ht1, ht2⟩ := Yd hs8 (.slice b9 s9.dk.blocks.length e9) (.slice l9 s9.dk.late.length m9) (.slice i9 s9.idx.length j9) (.int .i64 s9.next);obtain ⟨y0, y1, y2, y3⟩ := Z4 hs8 rfl rfl rfl rfl;obtain ⟨f0, f1, f2, f3⟩ := Yr hs8;obtain ⟨t0, t1, t2, t3⟩ := Z4 ht1 rfl rfl rfl rfl;have hz9 := (ht2.block _ (Za hz8) (by omega)).trans hz8;have gw9 := ht2.grow gw8 (Nat.le_refl _);have hS9 := hS8.but ht2 hns;clear ht1 ht2 hs8 hz8 gw8 hS8;obtain ⟨hq1, hq2⟩ := Yd hz9 (.slice b9 s9.dk.blocks.length e9) (.slice l9 s9.dk.late.length m9) (.slice i9 s9.idx.length j9) (.int .i64 s9.next);obtain ⟨z0, z1, z2, z3⟩ := Z4 hz9 rfl rfl rfl rfl;obtain ⟨o0, o1, o2, o3⟩ := Yr hz9;obtain ⟨x0, x1, x2, x3⟩ := Z4 hq1 rfl rfl rfl rfl;have cs := Zr;have gE := hq2.grow gw9 (by omega);have hE := (hS9.but hq2 hnz).mono (Zw (B := w.heap.size) (by omega));clear hq1 hq2 hz9 gw9 hS9;go_wp2_with fail
 exact bodyPost_ret (v := .tuple #[.agg #[.slice b9 s9.dk.blocks.length e9, .slice l9 s9.dk.late.length m9, .slice i9 s9.idx.length j9, .int .i64 s9.next], .int .i64 0, .int .i64 0]) (by simp [results, Tryz.results21, go_sem, x0, x1, x2, x3]) rfl ⟨_, rfl, hE, gE⟩
theorem Zsi {s : St} (h : Vk S s x v ad c w) (k1 : ¬ x.kind = 1) (k2 : ¬ x.kind = 2) (k3 : ¬ x.kind = 3) (k4 : ¬ x.kind = 4) (k5 : ¬ x.kind = 5) (k6 : ¬ x.kind = 6) : X9 21 S s x v ad c w := by
 obtain ⟨ab, cb, al, cl, ai, ci, rfl, hb, hl, hi, hnz, g0, hs1, hd1, hz1, HWs⟩ := h.pre;obtain ⟨hS, hs, hd, hA, hdl⟩ := h;unfold X9;have hns : ¬ Zs S (w.heap.size + 3) w.heap.size := Ym hS (by omega);obtain ⟨R, hR⟩ : ∃ R, R = s.step x := ⟨_, rfl⟩;rw [← hR];have HR : Hid (R = s.step x) := hR;have HAT : Hid (s.At) := hA;clear hR hA;go_enter Tryz.func21, Tryz.ntmps21;obtain ⟨d0, d1, d2, d3, d4⟩ := Qh hd1 rfl rfl rfl rfl rfl;have d5 := Zc hd1 5 _ rfl;have d6 := Zc hd1 6 _ rfl;obtain ⟨s0, s1, s2, s3⟩ := Z4 hs1 rfl rfl rfl rfl;have q1 : (x.kind == 1) = false := by simp [k1]
 have q2 : (x.kind == 2) = false := by simp [k2]
 have q3 : (x.kind == 3) = false := by simp [k3]
 have q4 : (x.kind == 4) = false := by simp [k4]
 have q5 : (x.kind == 5) = false := by simp [k5]
 have q6 : (x.kind == 6) = false := by simp [k6]
 obtain rfl : R = ⟨s, 0, 1⟩ := by rw [HR.out]; unfold St.step; rw [if_neg k1, if_neg k2, if_neg k3, if_neg k4, if_neg k5, if_neg k6]
 clear HR k1 k2 k3 k4 k5 k6;go_upto_region 1 with fail
 generalize World.alloc (World.alloc (World.alloc w _) _) _ = W at *;have hWs := HWs.out;clear HWs;have hzX := hz1;have gwX := g0;obtain ⟨z0, z1, z2, z3⟩ := Z4 hzX rfl rfl rfl rfl;obtain ⟨f0, f1, f2, f3⟩ := Yr hzX;have cs := Zr;obtain ⟨hq1, hq2⟩ := Yd hzX (.slice ab s.dk.blocks.length cb) (.slice al s.dk.late.length cl) (.slice ai s.idx.length ci) (.int .i64 s.next);obtain ⟨x0, x1, x2, x3⟩ := Z4 hq1 rfl rfl rfl rfl;have gE := hq2.grow gwX (by omega);have hE := (hs.grow gE).mono (S' := Zs S w.heap.size) V2;clear hq1 hq2 hzX gwX;go_wp2_with fail;exact bodyPost_ret (v := .tuple #[.agg #[.slice ab s.dk.blocks.length cb, .slice al s.dk.late.length cl, .slice ai s.idx.length ci, .int .i64 s.next], .int .i64 0, .int .i64 1]) (by simp [results, Tryz.results21, go_sem, x0, x1, x2, x3]) rfl ⟨_, rfl, hE, gE⟩
theorem Zpq (S : Nat → Prop) (s : St) (x : Sp) (v : Value) (ad : Option Addr) (c : Nat) (w : World) (hS : ∀ b, S b → b < w.heap.size) (hs : Z8 S s v w) (hd : Z0 S w (.slice ad x.deed.data.length c) x.deed.data) (hA : s.At) (hdl : x.deed.data.length ≤ 140737488355328) :
  Calls Tryz.prog 21 #[v, .agg #[.int .i64 x.kind, .int .i64 x.n, .int .i64 x.m, .int .i64 x.deed.kind, .int .i64 x.deed.key, .int .i64 x.deed.num, .slice ad x.deed.data.length c]] w fun r w' => ∃ v', r = .returned (.tuple #[v', .int .i64 (s.step x).n, .int .i64 (s.step x).e]) ∧ Z8 (Zs S w.heap.size) (s.step x).st v' w' ∧ Zn w w' := by
 have h : Vk S s x v ad c w := ⟨hS, hs, hd, hA, hdl⟩;by_cases k1 : x.kind = 1
 ·exact Zvj h k1
 ·by_cases k2 : x.kind = 2
  ·exact Zvi h k1 k2
  ·by_cases k3 : x.kind = 3
   ·exact Zvh h k1 k2 k3
   ·by_cases k4 : x.kind = 4
    ·exact Zvg h k1 k2 k3 k4
    ·by_cases k5 : x.kind = 5
     ·exact Zvf h k1 k2 k3 k4 k5
     ·by_cases k6 : x.kind = 6
      ·exact Zve h k1 k2 k3 k4 k5 k6
      ·exact Zsi h k1 k2 k3 k4 k5 k6
def Zoq : Qr Sp where
 T := 49
 size := 7
 enc S w x cs := ∃ u, cs = [.int .i64 x.kind, .int .i64 x.n, .int .i64 x.m, .int .i64 x.deed.kind, .int .i64 x.deed.key, .int .i64 x.deed.num, u] ∧ Z0 S w u x.deed.data
 len := by rintro S w x cs ⟨u, rfl, _⟩; rfl
 keep := by rintro S w w' x cs ⟨u, rfl, h⟩ hk; exact ⟨u, rfl, h.keeps hk⟩
 mono := by rintro S S' w x cs ⟨u, rfl, h⟩ hS; exact ⟨u, rfl, h.mono hS⟩
 cap := by rintro S w x cs ⟨u, rfl, h⟩; exact ⟨u, rfl, h.caps⟩
 one := by
  rintro S w x cs ⟨u, rfl, h⟩ c hc;simp only [List.mem_cons, List.not_mem_nil, or_false] at hc;rcases hc with rfl | rfl | rfl | rfl | rfl | rfl | rfl
  ·rfl
  ·rfl
  ·rfl
  ·rfl
  ·rfl
  ·rfl
  ·exact h.one
abbrev Zbf (S : Nat → Prop) (w : World) (v : Value) (l : List Sp) : Prop := Z7 Zoq S w v l
theorem Zfi {S : Nat → Prop} {w : World} {ao : Option Addr} {n cap : Nat} {l : List Sp} (h : Zbf S w (.slice ao n cap) l) (i : Nat) (hi : i < l.length) :
  ∃ b off a c, ao = some ⟨b, off, none⟩ ∧ w.cell? ⟨b, off + i * 7, none⟩ = some (.int .i64 l[i].kind) ∧ w.cell? ⟨b, off + i * 7 + 1, none⟩ = some (.int .i64 l[i].n) ∧ w.cell? ⟨b, off + i * 7 + 2, none⟩ = some (.int .i64 l[i].m) ∧ w.cell? ⟨b, off + i * 7 + 3, none⟩ = some (.int .i64 l[i].deed.kind) ∧ w.cell? ⟨b, off + i * 7 + 4, none⟩ = some (.int .i64 l[i].deed.key) ∧ w.cell? ⟨b, off + i * 7 + 5, none⟩ = some (.int .i64 l[i].deed.num) ∧
   w.cell? ⟨b, off + i * 7 + 6, none⟩ = some (.slice a l[i].deed.data.length c) ∧ Z0 S w (.slice a l[i].deed.data.length c) l[i].deed.data := by
 obtain ⟨b, off, rfl, _, cs, ⟨u, rfl, hu⟩, hc⟩ := h.at i hi;obtain ⟨a, c, rfl⟩ := hu.form;exact ⟨b, off, a, c, rfl, hc 0 _ rfl, hc 1 _ rfl, hc 2 _ rfl, hc 3 _ rfl, hc 4 _ rfl, hc 5 _ rfl, hc 6 _ rfl, hu⟩
def K1 : Nat → St → List Sp → St
 | 0, s, _ => s
 | _ + 1, s, [] => s
 | n + 1, s, x :: l => if Vf s x = true then K1 n (s.step x).st l else s
theorem Znr (n : Nat) (s : St) : K1 n s [] = s := by cases n <;> rfl
theorem Ziz : Xg.At := Zbo Zak
theorem Zj9 (S : Nat → Prop) (l : List Sp) (v : Value) (w : World) (hS : ∀ b, S b → b < w.heap.size) (hl : Zbf S w v l) (hm : l.length ≤ 140737488355328) (hdl : ∀ x ∈ l, x.deed.data.length ≤ 140737488355328) :
  Calls Tryz.prog 23 #[v] w fun r w' => ∃ v', r = .returned v' ∧ Z8 (Zs S w.heap.size) (K1 100 Xg l) v' w' ∧ Zn w w' := by
 obtain ⟨ao, cp, rfl⟩ := hl.form;have g0 := Zb w Y6;have hz0 := Zg w #[.slice none 0 0, .slice none 0 0, .slice none 0 0, .int .i64 0] 29;obtain ⟨R, hR⟩ : ∃ R, R = K1 100 Xg l := ⟨_, rfl⟩;rw [← hR];have HR : Hid _ := hR;clear hR;go_enter Tryz.func23, Tryz.ntmps23;go_wp2_with fail;refine (Zpu S (w.alloc Y6) (fun b h => by have := hS b h; simp; omega)).mono ?_;rintro r w1 ⟨v1, rfl, hS1, g1⟩;obtain ⟨b1, e1, l1, m1, i1, j1, hv1, -, -, -⟩ := hS1.form;subst hv1;rw [World.size_alloc] at hS1;obtain ⟨G, hG⟩ : ∃ G, G = w1.heap.size := ⟨_, rfl⟩;have hz1 := (g1.block _ (Za hz0)).trans hz0;have hGz : w.heap.size < G := by rw [hG]; exact Za hz1
 have g2 := Zb w1 (.cells #[.slice b1 Xg.dk.blocks.length e1, .slice l1 Xg.dk.late.length m1, .slice i1 Xg.idx.length j1, .int .i64 Xg.next] 29);have hY := Zg w1 #[.slice b1 Xg.dk.blocks.length e1, .slice l1 Xg.dk.late.length m1, .slice i1 Xg.idx.length j1, .int .i64 Xg.next] 29;have hz2 := (g2.block _ (Za hz1)).trans hz1;have gw2 := g0.trans (g1.trans g2);rw [← hG] at hY;obtain ⟨U, hU⟩ : ∃ U : Nat → Prop, U = fun b => S b ∨ (w.heap.size < b ∧ b ≠ G) := ⟨_, rfl⟩
 have hUz : ¬ U w.heap.size := by rw [hU]; rintro (h | h); exact absurd (hS _ h) (Nat.lt_irrefl _); omega
 have hUg : ¬ U G := by rw [hU]; rintro (h | h); have := hS _ h; omega; exact h.2 rfl
 have hUp : ∀ b, U b → Zs S w.heap.size b := by rw [hU]; rintro b (h | h); exact .inl h; exact .inr (by omega)
 have hUs : ∀ b, S b → U b := by rw [hU]; exact fun b h => .inl h
 have hUn : ∀ b, G < b → U b := by rw [hU]; exact fun b h => .inr (by omega)
 have hS2 : Z8 U Xg (.agg #[.slice b1 Xg.dk.blocks.length e1, .slice l1 Xg.dk.late.length m1, .slice i1 Xg.idx.length j1, .int .i64 Xg.next]) (w1.alloc (.cells #[.slice b1 Xg.dk.blocks.length e1, .slice l1 Xg.dk.late.length m1, .slice i1 Xg.idx.length j1, .int .i64 Xg.next] 29)) := (hS1.capd.grow g2).mono (by
  rw [hU, ← hG];rintro b ⟨h | h, hb⟩
  ·exact .inl h
  ·exact .inr ⟨by omega, by omega⟩)
 have HG : Hid _ := hG;have HU : Hid _ := hU;have HST : Hid (Xg.At) := Ziz;clear g0 g1 g2 hz0 hz1 hS1 hG hU;go_wp2_with fail;rw [← HG.out];have HGE : Hid (K1 (100 - 0) Xg (l.drop 0) = R) := HR.out.symm;generalize Xg = s0 at *;go_loopw [9] (fun i wr => ∃ (k : Nat) (s : St) (b1 : Option Addr) (e1 : Nat) (l1 : Option Addr) (m1 : Nat) (i1 : Option Addr) (j1 : Nat), k ≤ 100 ∧ k ≤ l.length ∧ i = .int .i64 (k : Int) ∧ Hid (K1 (100 - k) s (l.drop k) = R) ∧ Hid s.At ∧ wr.heap[w.heap.size]? = some (.cells #[.slice none 0 0, .slice none 0 0, .slice none 0 0, .int .i64 0] 29 (0, 0)) ∧ wr.heap[G]? = some (.cells #[.slice b1 s.dk.blocks.length e1, .slice l1 s.dk.late.length m1, .slice i1 s.idx.length j1, .int .i64 s.next] 29 (0, 0)) ∧ Z8 U s (.agg #[.slice b1 s.dk.blocks.length e1, .slice l1 s.dk.late.length m1, .slice i1 s.idx.length j1, .int .i64 s.next]) wr ∧ Zn w wr) (fun i _ => l.length - (intOf i).toNat)
 case atStart => exact ⟨0, s0, b1, e1, l1, m1, i1, j1, by omega, by omega, rfl, HGE, HST, hz2, hY, hS2, gw2⟩
 case round =>
  clear hz2 hY hS2 gw2 HGE HST HR;obtain ⟨k, s, b1, e1, l1, m1, i1, j1, hk1, hkl, rfl, HGE, HST, hz9, hY, hS9, gw9⟩ := hrel;obtain ⟨y0, y1, y2, y3⟩ := Z4 hY rfl rfl rfl rfl;by_cases hlt : k < l.length
  ·obtain ⟨b, off, ad, c, hao, q0, q1, q2, q3, q4, q5, q6, hbd⟩ := Zfi (hl.grow gw9) k hlt;cases hao;have HDR : Hid (l.drop k = l[k] :: l.drop (k + 1)) := List.drop_eq_getElem_cons hlt;have HDL : Hid (l[k].deed.data.length ≤ 140737488355328) := hdl _ (List.getElem_mem hlt);generalize l[k] = x at *;have g3 := Zb wr (.cells #[.int .i64 x.kind, .int .i64 x.n, .int .i64 x.m, .int .i64 x.deed.kind, .int .i64 x.deed.key, .int .i64 x.deed.num, .slice ad x.deed.data.length c] 49);have hX := Zg wr #[.int .i64 x.kind, .int .i64 x.n, .int .i64 x.m, .int .i64 x.deed.kind, .int .i64 x.deed.key, .int .i64 x.deed.num, .slice ad x.deed.data.length c] 49;have hz3 := (g3.block _ (Za hz9)).trans hz9;have hY3 := (g3.block _ (Za hY)).trans hY;have hS3 := hS9.grow g3;have hb3 := hbd.grow g3;have gw3 := gw9.trans g3;have hGr : G < wr.heap.size := Za hY;clear y0 y1 y2 y3 hz9 hS9 gw9 hY hbd;by_cases h100 : k = 100
   ·have d1 : ((k : Int) == 100) = true := by simp [h100]
    obtain rfl : s = R := by rw [← HGE.out, h100]; rfl
    have hz9 := hz3;have hS9 := hS3;have gw9 := gw3;obtain ⟨y0, y1, y2, y3⟩ := Z4 hY3 rfl rfl rfl rfl;clear HGE HST hX hz3 hS3 gw3 hY3 hb3 g3 h100;obtain ⟨z0, z1, z2, z3⟩ := Z4 hz9 rfl rfl rfl rfl;obtain ⟨o0, o1, o2, o3⟩ := Yr hz9;obtain ⟨hq1, hq2⟩ := Yd hz9 (.slice b1 s.dk.blocks.length e1) (.slice l1 s.dk.late.length m1) (.slice i1 s.idx.length j1) (.int .i64 s.next);obtain ⟨x0, x1, x2, x3⟩ := Z4 hq1 rfl rfl rfl rfl;have cs := Zr;have gE := hq2.grow gw9 (Nat.le_refl _);have hE := (hS9.but hq2 hUz).mono hUp;clear hq1 hq2 hz9 gw9 hS9;go_wp2_with fail;exact bodyPost_ret (v := .agg #[.slice b1 s.dk.blocks.length e1, .slice l1 s.dk.late.length m1, .slice i1 s.idx.length j1, .int .i64 s.next]) (by simp [results, Tryz.results23, go_sem, x0, x1, x2, x3]) rfl ⟨_, rfl, hE, gE⟩
   ·have d1 : ((k : Int) == 100) = false := by simp; omega
    obtain ⟨y0, y1, y2, y3⟩ := Z4 hY3 rfl rfl rfl rfl;obtain ⟨p0, p1, p2, p3, p4⟩ := Qh hX rfl rfl rfl rfl rfl;have p5 := Zc hX 5 _ rfl;have p6 := Zc hX 6 _ rfl;have HG1 : Hid (R = if Vf s x = true then K1 (100 - (k + 1)) (s.step x).st (l.drop (k + 1)) else s) := by
     show R = _;rw [← HGE.out, HDR.out, show 100 - k = (100 - (k + 1)) + 1 by omega];rfl
    have HK1 : Hid (k + 1 ≤ 100) := by show _ ≤ _; omega
    clear HGE g3 h100;go_wp2_with fail;refine (Zeq U 0 s x _ ad c _ hS3 HST.out.ok.disk (by omega)).mono ?_;cases hgt : Vf s x with
    | false =>
     obtain rfl : s = R := by rw [HG1.out, hgt]; rfl
     rintro r w4 ⟨rfl, g4⟩;have hz9 := (g4.block _ (Za hz3)).trans hz3;have hY4 := (g4.block _ (Za hY3)).trans hY3;have hS9 := hS3.grow g4;have gw9 := gw3.trans g4;clear y0 y1 y2 y3 p0 p1 p2 p3 p4 p5 p6 HG1 HST hX hz3 hS3 gw3 hY3 hb3 g4 hgt q0 q1 q2 q3 q4 q5 q6;obtain ⟨y0, y1, y2, y3⟩ := Z4 hY4 rfl rfl rfl rfl;clear hY4;obtain ⟨z0, z1, z2, z3⟩ := Z4 hz9 rfl rfl rfl rfl;obtain ⟨o0, o1, o2, o3⟩ := Yr hz9;obtain ⟨hq1, hq2⟩ := Yd hz9 (.slice b1 s.dk.blocks.length e1) (.slice l1 s.dk.late.length m1) (.slice i1 s.idx.length j1) (.int .i64 s.next);obtain ⟨x0, x1, x2, x3⟩ := Z4 hq1 rfl rfl rfl rfl;have cs := Zr;have gE := hq2.grow gw9 (Nat.le_refl _);have hE := (hS9.but hq2 hUz).mono hUp;clear hq1 hq2 hz9 gw9 hS9;go_wp2_with fail;exact bodyPost_ret (v := .agg #[.slice b1 s.dk.blocks.length e1, .slice l1 s.dk.late.length m1, .slice i1 s.idx.length j1, .int .i64 s.next]) (by simp [results, Tryz.results23, go_sem, x0, x1, x2, x3]) rfl ⟨_, rfl, hE, gE⟩
    | true =>
     have HG2 : Hid (K1 (100 - (k + 1)) (s.step x).st (l.drop (k + 1)) = R) := by show _ = _; rw [HG1.out, hgt, if_pos rfl]
     rintro r w4 ⟨rfl, g4⟩;have hz4 := (g4.block _ (Za hz3)).trans hz3;have hY4 := (g4.block _ (Za hY3)).trans hY3;have hX4 := (g4.block _ (Za hX)).trans hX;have hS4 := (hS3.grow g4).capd;have hb4 := ((hb3.mono hUs).grow g4).caps;have gw4 := gw3.trans g4;have hG4 : G < w4.heap.size := Za hY4;clear y0 y1 y2 y3 p0 p1 p2 p3 p4 p5 p6 HG1 hX hz3 hS3 gw3 hY3 hb3 g4 hgt q0 q1 q2 q3 q4 q5 q6;obtain ⟨y0, y1, y2, y3⟩ := Z4 hY4 rfl rfl rfl rfl;obtain ⟨p0, p1, p2, p3, p4⟩ := Qh hX4 rfl rfl rfl rfl rfl;have p5 := Zc hX4 5 _ rfl;have p6 := Zc hX4 6 _ rfl;go_wp2_with fail;refine (Zpq (fun b => U b ∧ b < w4.heap.size) s x _ ad c w4 (fun b h => h.2) hS4 hb4 HST.out HDL.out).mono ?_;have HAT : Hid ((s.step x).st.At) := Zc6 HST.out;generalize s.step x = B at *;rintro r w5 ⟨v5, rfl, hS5, g5⟩;obtain ⟨b5, e5, l5, m5, i5, j5, hv5, -, -, -⟩ := hS5.form;subst hv5;have hz5 := (g5.block _ (Za hz4)).trans hz4;have hY5 := (g5.block _ (Za hY4)).trans hY4;have gw5 := gw4.trans g5;have hS6 : Z8 U B.st (.agg #[.slice b5 B.st.dk.blocks.length e5, .slice l5 B.st.dk.late.length m5, .slice i5 B.st.idx.length j5, .int .i64 B.st.next]) w5 := hS5.mono fun b h => h.elim (fun x => x.1) (fun x => hUn b (by omega))
     clear y0 y1 y2 y3 p0 p1 p2 p3 p4 p5 p6 hX4 hz4 hY4 hS4 hb4 gw4 hS5 g5 HST;obtain ⟨hp1, hp2⟩ := Yd hY5 (.slice b5 B.st.dk.blocks.length e5) (.slice l5 B.st.dk.late.length m5) (.slice i5 B.st.idx.length j5) (.int .i64 B.st.next);obtain ⟨y0, y1, y2, y3⟩ := Z4 hY5 rfl rfl rfl rfl;obtain ⟨f0, f1, f2, f3⟩ := Yr hY5;have cs := Zr;have hz6 := (hp2.block _ (Za hz5) (by intro e; omega)).trans hz5;have hS7 := hS6.but hp2 hUg;have gw6 := hp2.grow gw5 (by omega);clear hp2 hz5 hY5 gw5 hS6;go_wp2_with fail;go_roundw
     case rel => exact ⟨k + 1, B.st, b5, e5, l5, m5, i5, j5, HK1.out, by omega, by go_num, HG2, HAT, hz6, hp1, hS7, gw6⟩
     case measure => simp [intOf]; omega
  ·obtain rfl : s = R := by
    have e : l.drop k = [] := List.drop_eq_nil_of_le (by omega);rw [← HGE.out, e, Znr]
   clear HGE HST hY;obtain ⟨z0, z1, z2, z3⟩ := Z4 hz9 rfl rfl rfl rfl;obtain ⟨o0, o1, o2, o3⟩ := Yr hz9;obtain ⟨hq1, hq2⟩ := Yd hz9 (.slice b1 s.dk.blocks.length e1) (.slice l1 s.dk.late.length m1) (.slice i1 s.idx.length j1) (.int .i64 s.next);obtain ⟨x0, x1, x2, x3⟩ := Z4 hq1 rfl rfl rfl rfl;have cs := Zr;have gE := hq2.grow gw9 (Nat.le_refl _);have hE := (hS9.but hq2 hUz).mono hUp;clear hq1 hq2 hz9 gw9 hS9;go_wp2_with fail;exact bodyPost_ret (v := .agg #[.slice b1 s.dk.blocks.length e1, .slice l1 s.dk.late.length m1, .slice i1 s.idx.length j1, .int .i64 s.next]) (by simp [results, Tryz.results23, go_sem, x0, x1, x2, x3]) rfl ⟨_, rfl, hE, gE⟩
def K8 (a : St × List Int × List Int) (x : Sp) : St × List Int × List Int := ((a.1.step x).st, a.2.1 ++ [(a.1.step x).e], a.2.2 ++ [(a.1.step x).n])
def Qn (l : List Sp) : St × List Int × List Int := l.foldl K8 (Xg, [], [])
theorem Zki (l : List Sp) (k : Nat) (h : k < l.length) : Qn (l.take (k + 1)) = K8 (Qn (l.take k)) l[k] := by
 unfold Qn;rw [List.take_succ_eq_append_getElem h, List.foldl_append]; rfl
theorem Zm1 (l : List Sp) : ∀ a : St × List Int × List Int, (l.foldl K8 a).2.1.length = a.2.1.length + l.length ∧ (l.foldl K8 a).2.2.length = a.2.2.length + l.length := by
 induction l with
 | nil => intro a; simp
 | cons x l ih =>
  intro a;obtain ⟨h1, h2⟩ := ih (K8 a x);simp only [List.foldl_cons, List.length_cons];rw [h1, h2];simp [K8];omega
theorem Zvr (l : List Sp) : ∀ a : St × List Int × List Int, a.1.At → (l.foldl K8 a).1.At := by
 induction l with
 | nil => intro a h; exact h
 | cons x l ih => intro a h; exact ih _ (Zc6 h)
def iv (x : Int) : Value := .int .i64 x
theorem Znl : (Tryz.prog.info? 50).map (fun i => (i.zero, i.size, i.bytes)) = some (some (.int .i64 0), 1, 8) := by kernel_rfl
variable {v : Value} {w : World}
theorem Zgq : ∀ (n : Nat) (s : St) (l : List Sp), s.Inv → (K1 n s l).Inv
 | 0, s, _, h => h
 | n + 1, s, [], h => h
 | n + 1, s, x :: l, h => by
  unfold K1;split
  ·rename_i hg; exact Zgq n _ l (Zfj h hg)
  ·exact h
theorem Zt6 {s : St} (h : s.At) : s.idx.length ≤ 6 := by
 obtain ⟨h1, h2⟩ := (Xp _).1 h.ok.right;have hn : (s.idx.map fun x => x.pair.toNat).Nodup := by
  rw [List.nodup_iff_pairwise_ne, List.pairwise_map];refine List.Pairwise.imp_of_mem ?_ h1;intro a b ha hb hu e;have ha0 := (h2 a ha).2.2.1;have hb0 := (h2 b hb).2.2.1;exact hu.2 (by omega)
 have := Ze3 _ (List.range 6) hn (fun x hx => by
  obtain ⟨e, he, rfl⟩ := List.mem_map.1 hx;have := h.ok.six e he;rw [List.mem_range];have := (h2 e he).2.2.1;omega)
 simpa using this
theorem Zwm {s : St} (h : s.At) : s.recs.length ≤ 6 := by unfold St.recs; rw [List.length_map]; exact Zt6 h
theorem Z8.any {S : Nat → Prop} {s : St} (h : Z8 S s v w) : Z8 (fun _ => True) s v w := h.mono fun _ _ => trivial
theorem Z8.now {s : St} (h : Z8 (fun _ => True) s v w) : Z8 (fun b => b < w.heap.size) s v w := h.capd.mono fun _ h => h.2
theorem Zkn {base n : Nat} {e : TypeId} {xs : List Value} (h : w.ownsRow base e 1 v n xs) (hn : 0 < n) : ∃ g c, v = .slice (some ⟨g, 0, none⟩) n c ∧ base ≤ g ∧ g < w.heap.size := by
 rcases h.2 with ⟨_, h0⟩ | ⟨g, c, cur, h1, h2, h3, _⟩
 ·omega
 ·exact ⟨g, c, h1, h2, Za h3⟩
def Zuh : Prop := ∀ (S : Nat → Prop) (s : St) (x : Sp) (v : Value) (ad : Option Addr) (c : Nat) (w : World), (∀ b, S b → b < w.heap.size) → Z8 S s v w → Z0 S w (.slice ad x.deed.data.length c) x.deed.data → s.At → x.deed.data.length ≤ 140737488355328 →
 Calls Tryz.prog 20 #[v, .agg #[.int .i64 x.kind, .int .i64 x.n, .int .i64 x.m, .int .i64 x.deed.kind, .int .i64 x.deed.key, .int .i64 x.deed.num, .slice ad x.deed.data.length c]] w fun r w' => ∃ v', r = .returned (.tuple #[v', .int .i64 (s.step x).n, .int .i64 (s.step x).e]) ∧ Z8 (Zs S w.heap.size) (s.step x).st v' w' ∧ Zn w w'
def Zo9 : Prop := ∀ (S : Nat → Prop) (l : List Sp) (v : Value) (w : World), (∀ b, S b → b < w.heap.size) → Zbf S w v l → l.length ≤ 100 → (∀ x ∈ l, x.deed.data.length ≤ 140737488355328) →
 Calls Tryz.prog 19 #[v] w fun r w' => ∃ v' ev nv, r = .returned (.tuple #[v', ev, nv, .int .i64 0]) ∧ Z8 (Zs S w.heap.size) (Qn l).1 v' w' ∧ w'.ownsRow w.heap.size 50 1 ev (Qn l).2.1.length ((Qn l).2.1.map iv) ∧ w'.ownsRow w.heap.size 3 1 nv (Qn l).2.2.length ((Qn l).2.2.map iv) ∧ Zn w w'
def Zg6 : Prop := ∀ w : World, Calls Tryz.prog 22 #[] w fun r w' => r = .returned (.bool true) ∧ Zn w w'
end Go.Proofs.YtpdnapbchcdhlacGreat
namespace Go.Proofs.YtpdnapbchcdhlacGreat
set_option maxRecDepth 100000
open Plain
variable {d : Dd} {r : Rec} {x : Sp}
theorem Zlo {s : St} (h : s.At) (he : (s.begin d).e = 0) (hr : r ∈ s.recs) (hn : ¬ (d.kind = 3 ∧ d.key = r.key ∧ d.num = r.ver)) : r ∈ (s.begin d).st.recs := by
 obtain ⟨hw, hd⟩ := Zg4 he;have hb : s.begin d = if d.kind = 3 then ⟨⟨s.dk.pairD (Kb d s.idx) Rec.free, Q2 s.idx (Kb d s.idx), s.next⟩, (doR s.recs d).n, 0⟩ else ⟨⟨s.dk.pairD (Xu s.idx) (Y1 d (doR s.recs d).n), Xw ⟨Y1 d (doR s.recs d).n, (Xu s.idx : Nat)⟩ s.idx, s.next⟩, (doR s.recs d).n, 0⟩ := by
  unfold St.begin;rw [if_neg (by simpa using hw), if_neg (by simpa using hd)]
 obtain ⟨x, hx, rfl⟩ := List.mem_map.1 hr;rw [hb];by_cases hk : d.kind = 3
 ·rw [if_pos hk];obtain ⟨y, hf, ha⟩ := Zfx hk hd;rw [ha];refine List.mem_map.2 ⟨x, List.mem_filter.2 ⟨hx, decide_eq_true fun hp => ?_⟩, rfl⟩;have hy := List.mem_of_find?_eq_some hf;have hq : y.rc.key = d.key ∧ y.rc.ver = d.num := by
   have := List.find?_some (show s.idx.find? (fun x => decide (x.rc.key = d.key ∧ x.rc.ver = d.num)) = some y from hf);exact of_decide_eq_true this
  have hup := ((Xp s.idx).1 h.ok.right).1;have hxy : x = y := by
   obtain ⟨i, hi, rfl⟩ := List.mem_iff_getElem.1 hx;obtain ⟨j, hj, rfl⟩ := List.mem_iff_getElem.1 hy;rcases Nat.lt_trichotomy i j with hl | hl | hl
   ·exact absurd hp (List.pairwise_iff_getElem.1 hup i j hi hj hl).2
   ·subst hl; rfl
   ·exact absurd hp.symm (List.pairwise_iff_getElem.1 hup j i hj hi hl).2
  subst hxy;exact hn ⟨hk, hq.1.symm, hq.2.symm⟩
 ·rw [if_neg hk];exact List.mem_map.2 ⟨x, (V6 _ _ _).2 (.inr hx), rfl⟩
theorem Zpj {s : St} (h : s.Inv) (hx : Vf s x = true) : (s.step x).st.recs = s.recs ∨ (x.kind = 1 ∨ x.kind = 2) ∧ (s.begin x.deed).e = 0 ∧ (s.step x).st.recs = (s.begin x.deed).st.recs := by
 have hg := h.good;have hi := Zfj h hx;have same : (∀ q : Nat, q < 6 → (s.step x).st.dk.tell (q : Int) = s.dk.tell (q : Int)) → (s.step x).st.recs = s.recs := fun ht => by
  unfold St.recs;rw [hi.idx, h.idx, Zad 6 ht]
 by_cases k1 : x.kind = 1
 ·have hs : s.step x = s.doS x.deed := by unfold St.step; rw [if_pos k1]
  rw [hs];by_cases he : (s.begin x.deed).e = 0
  ·exact .inr ⟨.inl k1, he, by unfold St.doS; rw [if_pos he]; rfl⟩
  ·left; unfold St.doS; rw [if_neg he, (Zeh he).1]
 ·by_cases k2 : x.kind = 2
  ·by_cases he : (s.begin x.deed).e = 0
   ·have hs : (s.step x).st = X5 ((s.begin x.deed).st.dk.keep x.n) := by unfold St.step; rw [if_neg k1, if_pos k2, if_neg (by simpa using he)]
    obtain ⟨p, r, H⟩ := Zc2 h he;have hk : (s.begin x.deed).st.dk.keep x.n = s.dk.half p r (Qb x.n 0) (Qb x.n 1) := by rw [H.disk, Zhz h.good.fine H.p6 H.right]
    have hg2 := H.good (Qb x.n 0) (Qb x.n 1);rw [hs, hk];unfold St.recs;rw [hg2.mounted];rcases H.same (Qb x.n 0) (Qb x.n 1) with e | e
    ·left;show (Z3 _ 6).map Ent.rc = _;rw [Zad 6 e, h.idx]
    ·right;refine ⟨.inr k2, he, ?_⟩;show (Z3 _ 6).map Ent.rc = _;rw [e]
   ·left;have hs : (s.step x).st = s := by unfold St.step; rw [if_neg k1, if_pos k2, if_pos he]
    rw [hs]
  ·left;by_cases k3 : x.kind = 3
   ·have hs : (s.step x).st.idx = s.idx := by
     unfold St.step;rw [if_neg k1, if_neg k2, if_pos k3];split <;> rfl
    unfold St.recs;rw [hs]
   ·by_cases k4 : x.kind = 4
    ·refine same fun q hq => ?_;have hs : (s.step x).st = s.scrub := by unfold St.step; rw [if_neg k1, if_neg k2, if_neg k3, if_pos k4]
     rw [hs];have c1 : ((s.next.toNat : Nat) : Int) = s.next := by have := h.at'.low; omega
     have := (hg.mend (p := s.next.toNat) (by have := h.at'.high; omega)).2 q hq;rw [c1] at this;exact this
    ·by_cases k5 : x.kind = 5
     ·refine same fun q hq => ?_;have hs : (s.step x).st = X5 s.dk.clean := by unfold St.step; rw [if_neg k1, if_neg k2, if_neg k3, if_neg k4, if_pos k5]
      obtain ⟨h1, h2⟩ := hg.cleaned;rw [hs, h1.mounted];exact h2 q hq
     ·by_cases k6 : x.kind = 6
      ·refine same fun q _ => ?_;have hs : (s.step x).st = X5 s.dk := by unfold St.step; rw [if_neg k1, if_neg k2, if_neg k3, if_neg k4, if_neg k5, if_pos k6]
       rw [hs, hg.mounted]
      ·have hs : (s.step x).st = s := by unfold St.step; rw [if_neg k1, if_neg k2, if_neg k3, if_neg k4, if_neg k5, if_neg k6]
       rw [hs]
theorem Zl6 {s : St} (h : s.Inv) (hx : Vf s x = true) (hr : r ∈ s.recs) (hn : ¬ ((x.kind = 1 ∨ x.kind = 2) ∧ x.deed.kind = 3 ∧ x.deed.key = r.key ∧ x.deed.num = r.ver)) : r ∈ (s.step x).st.recs := by
 rcases Zpj h hx with e | ⟨hk, he, e⟩
 ·rw [e]; exact hr
 ·rw [e]; exact Zlo h.at' he hr fun hd => hn ⟨hk, hd⟩
theorem Zwe {s : St} (hk : d.kind ≠ 3) (he : (s.doS d).e = 0) : Y1 d (s.doS d).n ∈ (s.doS d).st.recs := by
 have he0 : (s.begin d).e = 0 := by
  unfold St.doS at he;by_cases hb : (s.begin d).e = 0
  ·exact hb
  ·rw [if_neg hb] at he; exact absurd he hb
 obtain ⟨hw, hd⟩ := Zg4 he0;have hb : s.begin d = ⟨⟨s.dk.pairD (Xu s.idx) (Y1 d (doR s.recs d).n), Xw ⟨Y1 d (doR s.recs d).n, (Xu s.idx : Nat)⟩ s.idx, s.next⟩, (doR s.recs d).n, 0⟩ := by
  unfold St.begin;rw [if_neg (by simpa using hw), if_neg (by simpa using hd), if_neg hk]
 unfold St.doS;rw [if_pos he0, hb];exact List.mem_map.2 ⟨_, (V6 _ _ _).2 (.inl rfl), rfl⟩
end Go.Proofs.YtpdnapbchcdhlacGreat
