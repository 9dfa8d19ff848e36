import Derived.Test.YtpdnapbchcdhlacGreatPSpoil
import Derived.Test.YtpdnapbchcdhlacGreatFkMd
set_option maxHeartbeats 8000000
namespace Go.Proofs.YtpdnapbchcdhlacGreat
set_option maxRecDepth 100000
open Go.RowKit
open Plain Reg
variable {S : Nat → Prop} {ad : Option Addr} {c : Nat} {v : Value} {w : World} {x : Sp}
theorem Zy6 {s : St} (h : Vo S s x v ad c w) (k1 : x.kind = 1) : Qe 20 S s x v ad c w := by
 obtain ⟨ab, cb, al, cl, ai, ci, rfl, hb, hl, -, hnz, g0, hs1, hd1, hz1, HWs⟩ := h.pre;obtain ⟨hS, hs, hd, hA, hdl⟩ := h;unfold Qe;obtain ⟨R, hR⟩ : ∃ R, R = s.step x := ⟨_, rfl⟩;rw [← hR];have HR : Hid (R = s.step x) := hR;have HAT : Hid (s.At) := hA;clear hR hA;go_enter Tryz.func20, Tryz.ntmps20;obtain ⟨d0, d1, d2, d3, d4⟩ := Qb hd1 rfl rfl rfl rfl rfl;have d5 := Zc hd1 5 _ rfl;have d6 := Zc hd1 6 _ rfl;obtain ⟨s0, s1, s2, s3⟩ := Z7 hs1 rfl rfl rfl rfl;have q1 : (x.kind == 1) = true := by simp [k1]
 obtain rfl : R = s.doS x.deed := by rw [HR.out]; unfold St.step; rw [if_pos k1]
 clear HR k1;go_wp2_with fail;generalize World.alloc (World.alloc (World.alloc w _) _) _ = W at *;have hWs := HWs.out;clear HWs;refine (Zum S 0 s x.deed _ ad c W (fun b h => by have := hS b h; omega) (hs.grow g0) (hd.grow g0) HAT.out.ok (by omega) hdl).mono ?_;rw [hWs];obtain ⟨B, hB⟩ : ∃ B, B = s.doS x.deed := ⟨_, rfl⟩;rw [← hB];have HB : Hid _ := hB;clear hB q1;rintro r w1 ⟨v1, rfl, hS9, g1⟩;have hz9 := (g1.block _ (Za hz1)).trans hz1;have gw9 := g0.trans g1;obtain ⟨b9, e9, l9, m9, i9, j9, hv9, -, -, -⟩ := hS9.form;subst hv9;obtain ⟨s9, hs9⟩ : ∃ s9, s9 = B.st := ⟨_, rfl⟩;rw [← hs9] at hS9 ⊢;have HS9 : Hid _ := hs9;clear hs1 hd1 hz1 d0 d1 d2 d3 d4 d5 d6 s0 s1 s2 s3 g0 g1 hs9 hs hb hl;obtain ⟨hq1, hq2⟩ := Yg hz9 (.slice b9 s9.dk.blocks.length e9) (.slice l9 s9.dk.late.length m9) (.slice i9 s9.idx.length j9) (.int .i64 s9.next);obtain ⟨z0, z1, z2, z3⟩ := Z7 hz9 rfl rfl rfl rfl;obtain ⟨o0, o1, o2, o3⟩ := Yr hz9;obtain ⟨x0, x1, x2, x3⟩ := Z7 hq1 rfl rfl rfl rfl;have cs := Zr;have gE := hq2.grow gw9 (by omega);have hE := (hS9.but hq2 hnz).mono (Z0 (B := w.heap.size) (by omega));clear hq1 hq2 hz9 gw9 hS9;go_wp2_with fail;exact bodyPost_ret (v := .tuple #[.agg #[.slice b9 s9.dk.blocks.length e9, .slice l9 s9.dk.late.length m9, .slice i9 s9.idx.length j9, .int .i64 s9.next], .int .i64 B.n, .int .i64 B.e]) (by simp [results, Tryz.results20, go_sem, x0, x1, x2, x3]) rfl ⟨_, by rw [← HB.out], by rw [← HB.out, ← HS9.out]; exact hE, gE⟩
theorem Zy5 {s : St} (h : Vo S s x v ad c w) (k1 : ¬ x.kind = 1) (k2 : x.kind = 2) : Qe 20 S s x v ad c w := by
 obtain ⟨ab, cb, al, cl, ai, ci, rfl, hb, hl, -, hnz, g0, hs1, hd1, hz1, HWs⟩ := h.pre;obtain ⟨hS, hs, hd, hA, hdl⟩ := h;unfold Qe;obtain ⟨R, hR⟩ : ∃ R, R = s.step x := ⟨_, rfl⟩;rw [← hR];have HR : Hid (R = s.step x) := hR;have HAT : Hid (s.At) := hA;clear hR hA;go_enter Tryz.func20, Tryz.ntmps20;obtain ⟨d0, d1, d2, d3, d4⟩ := Qb hd1 rfl rfl rfl rfl rfl;have d5 := Zc hd1 5 _ rfl;have d6 := Zc hd1 6 _ rfl;obtain ⟨s0, s1, s2, s3⟩ := Z7 hs1 rfl rfl rfl rfl;have q1 : (x.kind == 1) = false := by simp [k1]
 have q2 : (x.kind == 2) = true := by simp [k2]
 obtain rfl : R = s.fallD x.deed x.n := by rw [HR.out]; unfold St.step; rw [if_neg k1, if_pos k2]; rfl
 clear HR k1 k2;go_wp2_with fail;generalize World.alloc (World.alloc (World.alloc w _) _) _ = W at *;have hWs := HWs.out;clear HWs;refine (Zrg S s x.deed x.n _ ad c W (fun b h => by have := hS b h; omega) (hs.grow g0) (hd.grow g0) HAT.out hdl).mono ?_;rw [hWs];obtain ⟨B, hB⟩ : ∃ B, B = s.fallD x.deed x.n := ⟨_, rfl⟩;rw [← hB];have HB : Hid _ := hB;clear hB q1 q2;rintro r w1 ⟨v1, rfl, hS9, g1⟩;have hz9 := (g1.block _ (Za hz1)).trans hz1;have gw9 := g0.trans g1;obtain ⟨b9, e9, l9, m9, i9, j9, hv9, -, -, -⟩ := hS9.form;subst hv9;obtain ⟨s9, hs9⟩ : ∃ s9, s9 = B.st := ⟨_, rfl⟩;rw [← hs9] at hS9 ⊢;have HS9 : Hid _ := hs9;clear hs1 hd1 hz1 d0 d1 d2 d3 d4 d5 d6 s0 s1 s2 s3 g0 g1 hs9 hs hb hl;obtain ⟨hq1, hq2⟩ := Yg hz9 (.slice b9 s9.dk.blocks.length e9) (.slice l9 s9.dk.late.length m9) (.slice i9 s9.idx.length j9) (.int .i64 s9.next);obtain ⟨z0, z1, z2, z3⟩ := Z7 hz9 rfl rfl rfl rfl;obtain ⟨o0, o1, o2, o3⟩ := Yr hz9;obtain ⟨x0, x1, x2, x3⟩ := Z7 hq1 rfl rfl rfl rfl;have cs := Zr;have gE := hq2.grow gw9 (by omega);have hE := (hS9.but hq2 hnz).mono (Z0 (B := w.heap.size) (by omega));clear hq1 hq2 hz9 gw9 hS9;go_wp2_with fail;exact bodyPost_ret (v := .tuple #[.agg #[.slice b9 s9.dk.blocks.length e9, .slice l9 s9.dk.late.length m9, .slice i9 s9.idx.length j9, .int .i64 s9.next], .int .i64 B.n, .int .i64 B.e]) (by simp [results, Tryz.results20, go_sem, x0, x1, x2, x3]) rfl ⟨_, by rw [← HB.out], by rw [← HB.out, ← HS9.out]; exact hE, gE⟩
theorem Zy4 {s : St} (h : Vo S s x v ad c w) (k1 : ¬ x.kind = 1) (k2 : ¬ x.kind = 2) (k3 : x.kind = 3) : Qe 20 S s x v ad c w := by
 obtain ⟨ab, cb, al, cl, ai, ci, rfl, hb, hl, -, hnz, g0, hs1, hd1, hz1, HWs⟩ := h.pre;obtain ⟨hS, hs, hd, hA, hdl⟩ := h;unfold Qe;obtain ⟨R, hR⟩ : ∃ R, R = s.step x := ⟨_, rfl⟩;rw [← hR];have HR : Hid (R = s.step x) := hR;have HAT : Hid (s.At) := hA;clear hR hA;go_enter Tryz.func20, Tryz.ntmps20;obtain ⟨d0, d1, d2, d3, d4⟩ := Qb hd1 rfl rfl rfl rfl rfl;have d5 := Zc hd1 5 _ rfl;have d6 := Zc hd1 6 _ rfl;obtain ⟨s0, s1, s2, s3⟩ := Z7 hs1 rfl rfl rfl rfl;have q1 : (x.kind == 1) = false := by simp [k1]
 have q2 : (x.kind == 2) = false := by simp [k2]
 have q3 : (x.kind == 3) = true := by simp [k3]
 obtain rfl : R = s.rot x.n x.m := by rw [HR.out]; unfold St.step; rw [if_neg k1, if_neg k2, if_pos k3]; rfl
 clear HR k1 k2 k3;go_wp2_with fail;generalize World.alloc (World.alloc (World.alloc w _) _) _ = W at *;have hWs := HWs.out;clear HWs;refine (Zuf S s x.n x.m _ W (fun b h => by have := hS b h; omega) (hs.grow g0) HAT.out).mono ?_;rw [hWs];obtain ⟨B, hB⟩ : ∃ B, B = s.rot x.n x.m := ⟨_, rfl⟩;rw [← hB];have HB : Hid _ := hB;clear hB q1 q2 q3;rintro r w1 ⟨v1, rfl, hS9, g1⟩;have hz9 := (g1.block _ (Za hz1)).trans hz1;have gw9 := g0.trans g1;obtain ⟨b9, e9, l9, m9, i9, j9, hv9, -, -, -⟩ := hS9.form;subst hv9;obtain ⟨s9, hs9⟩ : ∃ s9, s9 = B.st := ⟨_, rfl⟩;rw [← hs9] at hS9 ⊢;have HS9 : Hid _ := hs9;clear hs1 hd1 hz1 d0 d1 d2 d3 d4 d5 d6 s0 s1 s2 s3 g0 g1 hs9 hs hb hl;obtain ⟨hq1, hq2⟩ := Yg hz9 (.slice b9 s9.dk.blocks.length e9) (.slice l9 s9.dk.late.length m9) (.slice i9 s9.idx.length j9) (.int .i64 s9.next);obtain ⟨z0, z1, z2, z3⟩ := Z7 hz9 rfl rfl rfl rfl;obtain ⟨o0, o1, o2, o3⟩ := Yr hz9;obtain ⟨x0, x1, x2, x3⟩ := Z7 hq1 rfl rfl rfl rfl;have cs := Zr;have gE := hq2.grow gw9 (by omega);have hE := (hS9.but hq2 hnz).mono (Z0 (B := w.heap.size) (by omega));clear hq1 hq2 hz9 gw9 hS9;go_wp2_with fail;exact bodyPost_ret (v := .tuple #[.agg #[.slice b9 s9.dk.blocks.length e9, .slice l9 s9.dk.late.length m9, .slice i9 s9.idx.length j9, .int .i64 s9.next], .int .i64 B.n, .int .i64 B.e]) (by simp [results, Tryz.results20, go_sem, x0, x1, x2, x3]) rfl ⟨_, by rw [← HB.out], by rw [← HB.out, ← HS9.out]; exact hE, gE⟩
theorem Zy3 {s : St} (h : Vo S s x v ad c w) (k1 : ¬ x.kind = 1) (k2 : ¬ x.kind = 2) (k3 : ¬ x.kind = 3) (k4 : x.kind = 4) : Qe 20 S s x v ad c w := by
 obtain ⟨ab, cb, al, cl, ai, ci, rfl, hb, hl, -, hnz, g0, hs1, hd1, hz1, HWs⟩ := h.pre;obtain ⟨hS, hs, hd, hA, hdl⟩ := h;unfold Qe;obtain ⟨R, hR⟩ : ∃ R, R = s.step x := ⟨_, rfl⟩;rw [← hR];have HR : Hid (R = s.step x) := hR;have HAT : Hid (s.At) := hA;clear hR hA;go_enter Tryz.func20, Tryz.ntmps20;obtain ⟨d0, d1, d2, d3, d4⟩ := Qb hd1 rfl rfl rfl rfl rfl;have d5 := Zc hd1 5 _ rfl;have d6 := Zc hd1 6 _ rfl;obtain ⟨s0, s1, s2, s3⟩ := Z7 hs1 rfl rfl rfl rfl;have q1 : (x.kind == 1) = false := by simp [k1]
 have q2 : (x.kind == 2) = false := by simp [k2]
 have q3 : (x.kind == 3) = false := by simp [k3]
 have q4 : (x.kind == 4) = true := by simp [k4]
 obtain ⟨s9, hs9⟩ : ∃ s9, s9 = s.scrub := ⟨_, rfl⟩;obtain rfl : R = ⟨s9, 0, 0⟩ := by rw [HR.out, hs9]; unfold St.step; rw [if_neg k1, if_neg k2, if_neg k3, if_pos k4]
 have HS9 : Hid _ := hs9;clear HR k1 k2 k3 k4 hs9;go_wp2_with fail;generalize World.alloc (World.alloc (World.alloc w _) _) _ = W at *;have hWs := HWs.out;clear HWs;refine (Zn5 S s _ W (fun b h => by have := hS b h; omega) (hs.grow g0) HAT.out).mono ?_;rw [hWs, ← HS9.out];generalize s.dk.how s.next = H at *;rintro r w1 ⟨v1, rfl, hS1, g1⟩;obtain ⟨b9, e9, l9, m9, i9, j9, hv9, -, -, -⟩ := hS1.form;subst hv9;have g2 := Zb w1 (.cells #[.slice b9 s9.dk.blocks.length e9, .slice l9 s9.dk.late.length m9, .slice i9 s9.idx.length j9, .int .i64 s9.next] 29);have hY := Zh w1 #[.slice b9 s9.dk.blocks.length e9, .slice l9 s9.dk.late.length m9, .slice i9 s9.idx.length j9, .int .i64 s9.next] 29;have gg := g1.trans g2;have hz9 := (gg.block _ (Za hz1)).trans hz1;have gw9 := g0.trans gg;have hS9 := hS1.grow g2;obtain ⟨y0, y1, y2, y3⟩ := Z7 hY rfl rfl rfl rfl;clear hs1 hd1 hz1 d0 d1 d2 d3 d4 d5 d6 s0 s1 s2 s3 g0 g1 g2 gg hS1 hs hb hl hY;obtain ⟨hq1, hq2⟩ := Yg hz9 (.slice b9 s9.dk.blocks.length e9) (.slice l9 s9.dk.late.length m9) (.slice i9 s9.idx.length j9) (.int .i64 s9.next);obtain ⟨z0, z1, z2, z3⟩ := Z7 hz9 rfl rfl rfl rfl;obtain ⟨o0, o1, o2, o3⟩ := Yr hz9;obtain ⟨x0, x1, x2, x3⟩ := Z7 hq1 rfl rfl rfl rfl;have cs := Zr;have gE := hq2.grow gw9 (by omega);have hE := (hS9.but hq2 hnz).mono (Z0 (B := w.heap.size) (by omega));clear hq1 hq2 hz9 gw9 hS9;go_wp2_with fail
 exact bodyPost_ret (v := .tuple #[.agg #[.slice b9 s9.dk.blocks.length e9, .slice l9 s9.dk.late.length m9, .slice i9 s9.idx.length j9, .int .i64 s9.next], .int .i64 0, .int .i64 0]) (by simp [results, Tryz.results20, go_sem, x0, x1, x2, x3]) rfl ⟨_, rfl, hE, gE⟩
theorem Zy2 {s : St} (h : Vo S s x v ad c w) (k1 : ¬ x.kind = 1) (k2 : ¬ x.kind = 2) (k3 : ¬ x.kind = 3) (k4 : ¬ x.kind = 4) (k5 : x.kind = 5) : Qe 20 S s x v ad c w := by
 obtain ⟨ab, cb, al, cl, ai, ci, rfl, hb, hl, -, hnz, g0, hs1, hd1, hz1, HWs⟩ := h.pre;obtain ⟨hS, hs, hd, hA, hdl⟩ := h;unfold Qe;obtain ⟨R, hR⟩ : ∃ R, R = s.step x := ⟨_, rfl⟩;rw [← hR];have HR : Hid (R = s.step x) := hR;have HAT : Hid (s.At) := hA;clear hR hA;go_enter Tryz.func20, Tryz.ntmps20;obtain ⟨d0, d1, d2, d3, d4⟩ := Qb hd1 rfl rfl rfl rfl rfl;have d5 := Zc hd1 5 _ rfl;have d6 := Zc hd1 6 _ rfl;obtain ⟨s0, s1, s2, s3⟩ := Z7 hs1 rfl rfl rfl rfl;have q1 : (x.kind == 1) = false := by simp [k1]
 have q2 : (x.kind == 2) = false := by simp [k2]
 have q3 : (x.kind == 3) = false := by simp [k3]
 have q4 : (x.kind == 4) = false := by simp [k4]
 have q5 : (x.kind == 5) = true := by simp [k5]
 obtain ⟨CD, hCD⟩ : ∃ CD, CD = s.dk.clean := ⟨_, rfl⟩;obtain ⟨s9, hs9⟩ : ∃ s9, s9 = Xw CD := ⟨_, rfl⟩;obtain rfl : R = ⟨s9, 0, 0⟩ := by rw [HR.out, hs9, hCD]; unfold St.step; rw [if_neg k1, if_neg k2, if_neg k3, if_neg k4, if_pos k5]
 have HS9 : Hid _ := hs9;have HCD : Hid _ := hCD;have HCF : Hid (CD.Fine 0) := by rw [hCD]; exact Zd8 HAT.out.ok.disk
 clear HR k1 k2 k3 k4 k5 hs9 hCD;go_wp2_with fail;generalize World.alloc (World.alloc (World.alloc w _) _) _ = W at *;have hWs := HWs.out;clear HWs;refine (Zxx s.dk _ W ⟨_, _, rfl, hb.p.grow g0, hl.p.grow g0⟩ (HAT.out.ok.disk.mono (by omega))).mono ?_;rw [← HCD.out];generalize cnt (s.dk.keep 0) 6 = CN at *;generalize Yn (s.dk.keep 0) 6 = tw at *;rintro r w1 ⟨v1, vt, rfl, h1, hvt, g1⟩;obtain ⟨b1, e1, l1, m1, rfl, h1b, h1l⟩ := h1.form;obtain ⟨at1, ct1, rfl⟩ := hvt.form;have g2 := Zq w1 (.cells #[.slice b1 CD.blocks.length e1, .slice l1 CD.late.length m1] 26) (.cells (Vl CN) 39);have hV0 := Zh w1 #[.slice b1 CD.blocks.length e1, .slice l1 CD.late.length m1] 26;have hV := ((Zb (w1.alloc (.cells #[.slice b1 CD.blocks.length e1, .slice l1 CD.late.length m1] 26)) (.cells (Vl CN) 39)).block _ (Za hV0)).trans hV0;have gg := g1.trans g2;have hz3 := (gg.block _ (Za hz1)).trans hz1;have gw3 := g0.trans gg;have h3 : Vf CD (.agg #[.slice b1 CD.blocks.length e1, .slice l1 CD.late.length m1]) _ := ⟨_, _, rfl, h1b.grow g2, h1l.grow g2⟩;clear d0 d1 d2 d3 d4 d5 d6 s0 s1 s2 s3 hs1 hd1 hz1 g0 g1 g2 gg hs hb hl hV0 h1 hvt h1b h1l;obtain ⟨v0, v1⟩ := Y9 hV rfl rfl;go_wp2_with fail;clear v0 v1 hV;generalize World.alloc (World.alloc w1 _) _ = W2 at *;have HW2 : Hid (w.heap.size + 3 ≤ W2.heap.size) := Za hz3;refine (Zbd S 0 CD _ W2 (fun b h => Nat.lt_of_lt_of_le (hS b h) gw3.size) h3 HCF.out (by omega)).mono ?_;rw [← HS9.out];rintro r w4 ⟨v4, rfl, h4, g4⟩
 have hS9 := h4.mono (Z0 (B := w.heap.size + 3) HW2.out);clear h4 h3;have hz9 := (g4.block _ (Za hz3)).trans hz3;have gw9 := gw3.trans g4;clear hz3 gw3 g4;obtain ⟨b9, e9, l9, m9, i9, j9, hv9, -, -, -⟩ := hS9.form;subst hv9;obtain ⟨hq1, hq2⟩ := Yg hz9 (.slice b9 s9.dk.blocks.length e9) (.slice l9 s9.dk.late.length m9) (.slice i9 s9.idx.length j9) (.int .i64 s9.next);obtain ⟨z0, z1, z2, z3⟩ := Z7 hz9 rfl rfl rfl rfl;obtain ⟨o0, o1, o2, o3⟩ := Yr hz9;obtain ⟨x0, x1, x2, x3⟩ := Z7 hq1 rfl rfl rfl rfl;have cs := Zr;have gE := hq2.grow gw9 (by omega);have hE := (hS9.but hq2 hnz).mono (Z0 (B := w.heap.size) (by omega));clear hq1 hq2 hz9 gw9 hS9;go_wp2_with fail;exact bodyPost_ret (v := .tuple #[.agg #[.slice b9 s9.dk.blocks.length e9, .slice l9 s9.dk.late.length m9, .slice i9 s9.idx.length j9, .int .i64 s9.next], .int .i64 0, .int .i64 0]) (by simp [results, Tryz.results20, go_sem, x0, x1, x2, x3]) rfl ⟨_, rfl, hE, gE⟩
theorem Zy1 {s : St} (h : Vo S s x v ad c w) (k1 : ¬ x.kind = 1) (k2 : ¬ x.kind = 2) (k3 : ¬ x.kind = 3) (k4 : ¬ x.kind = 4) (k5 : ¬ x.kind = 5) (k6 : x.kind = 6) : Qe 20 S s x v ad c w := by
 obtain ⟨ab, cb, al, cl, ai, ci, rfl, hb, hl, -, hnz, g0, hs1, hd1, hz1, HWs⟩ := h.pre;obtain ⟨hS, hs, hd, hA, hdl⟩ := h;unfold Qe;obtain ⟨R, hR⟩ : ∃ R, R = s.step x := ⟨_, rfl⟩;rw [← hR];have HR : Hid (R = s.step x) := hR;have HAT : Hid (s.At) := hA;clear hR hA;go_enter Tryz.func20, Tryz.ntmps20;obtain ⟨d0, d1, d2, d3, d4⟩ := Qb hd1 rfl rfl rfl rfl rfl;have d5 := Zc hd1 5 _ rfl;have d6 := Zc hd1 6 _ rfl;obtain ⟨s0, s1, s2, s3⟩ := Z7 hs1 rfl rfl rfl rfl;have q1 : (x.kind == 1) = false := by simp [k1]
 have q2 : (x.kind == 2) = false := by simp [k2]
 have q3 : (x.kind == 3) = false := by simp [k3]
 have q4 : (x.kind == 4) = false := by simp [k4]
 have q5 : (x.kind == 5) = false := by simp [k5]
 have q6 : (x.kind == 6) = true := by simp [k6]
 obtain ⟨s9, hs9⟩ : ∃ s9, s9 = Xw s.dk := ⟨_, rfl⟩;obtain rfl : R = ⟨s9, 0, 0⟩ := by rw [HR.out, hs9]; unfold St.step; rw [if_neg k1, if_neg k2, if_neg k3, if_neg k4, if_neg k5, if_pos k6]
 have HS9 : Hid _ := hs9;clear HR k1 k2 k3 k4 k5 k6 hs9;go_wp2_with fail;generalize World.alloc (World.alloc (World.alloc w _) _) _ = W at *;have hWs := HWs.out;clear HWs;refine (Zbd S 0 s.dk _ W (fun b h => by have := hS b h; omega) ⟨_, _, rfl, hb.p.grow g0, hl.p.grow g0⟩ HAT.out.ok.disk (by omega)).mono ?_;rw [hWs, ← HS9.out];rintro r w4 ⟨v4, rfl, hS9, g4⟩;have hz3 := hz1;have gw3 := g0;clear d0 d1 d2 d3 d4 d5 d6 s0 s1 s2 s3 hs1 hd1 hz1 g0 hs hb hl;have hz9 := (g4.block _ (Za hz3)).trans hz3;have gw9 := gw3.trans g4;clear hz3 gw3 g4;obtain ⟨b9, e9, l9, m9, i9, j9, hv9, -, -, -⟩ := hS9.form;subst hv9;obtain ⟨hq1, hq2⟩ := Yg hz9 (.slice b9 s9.dk.blocks.length e9) (.slice l9 s9.dk.late.length m9) (.slice i9 s9.idx.length j9) (.int .i64 s9.next);obtain ⟨z0, z1, z2, z3⟩ := Z7 hz9 rfl rfl rfl rfl;obtain ⟨o0, o1, o2, o3⟩ := Yr hz9;obtain ⟨x0, x1, x2, x3⟩ := Z7 hq1 rfl rfl rfl rfl;have cs := Zr;have gE := hq2.grow gw9 (by omega);have hE := (hS9.but hq2 hnz).mono (Z0 (B := w.heap.size) (by omega));clear hq1 hq2 hz9 gw9 hS9;go_wp2_with fail;exact bodyPost_ret (v := .tuple #[.agg #[.slice b9 s9.dk.blocks.length e9, .slice l9 s9.dk.late.length m9, .slice i9 s9.idx.length j9, .int .i64 s9.next], .int .i64 0, .int .i64 0]) (by simp [results, Tryz.results20, go_sem, x0, x1, x2, x3]) rfl ⟨_, rfl, hE, gE⟩
theorem Zxc {s : St} (h : Vo S s x v ad c w) (k1 : ¬ x.kind = 1) (k2 : ¬ x.kind = 2) (k3 : ¬ x.kind = 3) (k4 : ¬ x.kind = 4) (k5 : ¬ x.kind = 5) (k6 : ¬ x.kind = 6) : Qe 20 S s x v ad c w := by
 obtain ⟨ab, cb, al, cl, ai, ci, rfl, hb, hl, -, hnz, g0, hs1, hd1, hz1, HWs⟩ := h.pre;obtain ⟨hS, hs, hd, hA, hdl⟩ := h;unfold Qe;obtain ⟨R, hR⟩ : ∃ R, R = s.step x := ⟨_, rfl⟩;rw [← hR];have HR : Hid (R = s.step x) := hR;have HAT : Hid (s.At) := hA;clear hR hA;go_enter Tryz.func20, Tryz.ntmps20;obtain ⟨d0, d1, d2, d3, d4⟩ := Qb hd1 rfl rfl rfl rfl rfl;have d5 := Zc hd1 5 _ rfl;have d6 := Zc hd1 6 _ rfl;obtain ⟨s0, s1, s2, s3⟩ := Z7 hs1 rfl rfl rfl rfl;have q1 : (x.kind == 1) = false := by simp [k1]
 have q2 : (x.kind == 2) = false := by simp [k2]
 have q3 : (x.kind == 3) = false := by simp [k3]
 have q4 : (x.kind == 4) = false := by simp [k4]
 have q5 : (x.kind == 5) = false := by simp [k5]
 have q6 : (x.kind == 6) = false := by simp [k6]
 obtain ⟨s9, hs9⟩ : ∃ s9, s9 = s := ⟨_, rfl⟩;obtain rfl := hs9;obtain rfl : R = ⟨s9, 0, 1⟩ := by rw [HR.out]; unfold St.step; rw [if_neg k1, if_neg k2, if_neg k3, if_neg k4, if_neg k5, if_neg k6]
 clear HR k1 k2 k3 k4 k5 k6;go_wp2_with fail;generalize World.alloc (World.alloc (World.alloc w _) _) _ = W at *;have hWs := HWs.out;clear HWs;refine (Zei S 0 s9 _ W (fun b h => by have := hS b h; omega) (hs.grow g0) HAT.out.ok.disk (by omega) HAT.out.ok.right).mono ?_;rw [hWs];rintro r w4 ⟨v4, rfl, hS9, g4⟩;have hz9 := (g4.block _ (Za hz1)).trans hz1;have gw9 := g0.trans g4;clear d0 d1 d2 d3 d4 d5 d6 s0 s1 s2 s3 hs1 hd1 hz1 g0 hs hb hl g4;obtain ⟨b9, e9, l9, m9, i9, j9, hv9, -, -, -⟩ := hS9.form;subst hv9;obtain ⟨hq1, hq2⟩ := Yg hz9 (.slice b9 s9.dk.blocks.length e9) (.slice l9 s9.dk.late.length m9) (.slice i9 s9.idx.length j9) (.int .i64 s9.next);obtain ⟨z0, z1, z2, z3⟩ := Z7 hz9 rfl rfl rfl rfl;obtain ⟨o0, o1, o2, o3⟩ := Yr hz9;obtain ⟨x0, x1, x2, x3⟩ := Z7 hq1 rfl rfl rfl rfl;have cs := Zr;have gE := hq2.grow gw9 (by omega);have hE := (hS9.but hq2 hnz).mono (Z0 (B := w.heap.size) (by omega));clear hq1 hq2 hz9 gw9 hS9;go_wp2_with fail;exact bodyPost_ret (v := .tuple #[.agg #[.slice b9 s9.dk.blocks.length e9, .slice l9 s9.dk.late.length m9, .slice i9 s9.idx.length j9, .int .i64 s9.next], .int .i64 0, .int .i64 1]) (by simp [results, Tryz.results20, go_sem, x0, x1, x2, x3]) rfl ⟨_, rfl, hE, gE⟩
theorem Z0r : Z0i := fun S s x v ad c w hS hs hd hA hdl => by
 have h : Vo S s x v ad c w := ⟨hS, hs, hd, hA, hdl⟩;by_cases k1 : x.kind = 1
 ·exact Zy6 h k1
 ·by_cases k2 : x.kind = 2
  ·exact Zy5 h k1 k2
  ·by_cases k3 : x.kind = 3
   ·exact Zy4 h k1 k2 k3
   ·by_cases k4 : x.kind = 4
    ·exact Zy3 h k1 k2 k3 k4
    ·by_cases k5 : x.kind = 5
     ·exact Zy2 h k1 k2 k3 k4 k5
     ·by_cases k6 : x.kind = 6
      ·exact Zy1 h k1 k2 k3 k4 k5 k6
      ·exact Zxc h k1 k2 k3 k4 k5 k6
end Go.Proofs.YtpdnapbchcdhlacGreat
namespace Go.Proofs.YtpdnapbchcdhlacGreat
set_option maxRecDepth 100000
open Go.RowKit Go.Deep
open Plain Reg
structure Zv9 (B g n cap : Nat) (w0 : World) (zs : List Int) (w : World) : Prop where
 row : w.ownsRow B 3 1 (.slice (some ⟨g, 0, none⟩) n cap) n (zs.map (Value.int .i64))
 grow : Zn w0 w
theorem Zv9.len {B g n cap : Nat} {w0 : World} {zs : List Int} {w : World} (h : Zv9 B g n cap w0 zs w) : zs.length = n := by have := h.row.1; simpa using this
end Go.Proofs.YtpdnapbchcdhlacGreat
namespace Go.Proofs.YtpdnapbchcdhlacGreat
set_option maxRecDepth 100000
open Plain
end Go.Proofs.YtpdnapbchcdhlacGreat
namespace Go.Proofs.YtpdnapbchcdhlacGreat
set_option maxRecDepth 100000
open Go.RowKit Go.Deep
open Plain Reg
end Go.Proofs.YtpdnapbchcdhlacGreat
namespace Go.Proofs.YtpdnapbchcdhlacGreat
set_option maxRecDepth 100000
open Go.RowKit
open Plain Reg
theorem Zky : Zs0 := fun S s v w _ hs hA => (Zdq S s v w hs (by have := hA.ok.len; omega) (fun r hr => (Kc (Zed hA.ok.right hA.ok.len)).2 r hr |>.2.2)).mono fun _ _ ⟨v', _, h1, h2, h3⟩ => ⟨v', h1, h2.recs S, h3⟩
end Go.Proofs.YtpdnapbchcdhlacGreat
namespace Go.Proofs.YtpdnapbchcdhlacGreat
set_option maxRecDepth 100000
open Plain
theorem Zqu {s : St} (h : s.Inv) {x : Sp} (hx : Xd s x = true) : (s.step x).st.recs = s.recs ∨ (x.kind = 1 ∨ x.kind = 2) ∧ (s.begin x.deed).e = 0 ∧ (s.step x).st.recs = (s.begin x.deed).st.recs := by
 have hg := h.good;have hi := Zks h hx;have same : (∀ q : Nat, q < 6 → (s.step x).st.dk.tell (q : Int) = s.dk.tell (q : Int)) → (s.step x).st.recs = s.recs := fun ht => by
  unfold St.recs;rw [hi.idx, h.idx, Zan 6 ht]
 by_cases k1 : x.kind = 1
 ·have hs : s.step x = s.doS x.deed := by unfold St.step; rw [if_pos k1]
  rw [hs];by_cases he : (s.begin x.deed).e = 0
  ·exact .inr ⟨.inl k1, he, by unfold St.doS; rw [if_pos he]; rfl⟩
  ·left; unfold St.doS; rw [if_neg he, (Zev he).1]
 ·by_cases k2 : x.kind = 2
  ·by_cases he : (s.begin x.deed).e = 0
   ·have hs : (s.step x).st = Xw ((s.begin x.deed).st.dk.keep x.n) := by unfold St.step; rw [if_neg k1, if_pos k2, if_neg (by simpa using he)]
    obtain ⟨p, r, H⟩ := Zbq h he;have hk : (s.begin x.deed).st.dk.keep x.n = s.dk.half p r (Qg x.n 0) (Qg x.n 1) := by rw [H.disk, Zip h.good.fine H.p6 H.right]
    have hg2 := H.good (Qg x.n 0) (Qg x.n 1);rw [hs, hk];unfold St.recs;rw [hg2.mounted];rcases H.same (Qg x.n 0) (Qg x.n 1) with e | e
    ·left;show (Z5 _ 6).map Ent.rc = _;rw [Zan 6 e, h.idx]
    ·right;refine ⟨.inr k2, he, ?_⟩;show (Z5 _ 6).map Ent.rc = _;rw [e]
   ·left;have hs : (s.step x).st = s := by unfold St.step; rw [if_neg k1, if_pos k2, if_pos he]
    rw [hs]
  ·left;by_cases k3 : x.kind = 3
   ·have hs : (s.step x).st.idx = s.idx := by
     unfold St.step;rw [if_neg k1, if_neg k2, if_pos k3];split <;> rfl
    unfold St.recs;rw [hs]
   ·by_cases k4 : x.kind = 4
    ·refine same fun q hq => ?_;have hs : (s.step x).st = s.scrub := by unfold St.step; rw [if_neg k1, if_neg k2, if_neg k3, if_pos k4]
     rw [hs];have c1 : ((s.next.toNat : Nat) : Int) = s.next := by have := h.at'.low; omega
     have := (hg.mend (p := s.next.toNat) (by have := h.at'.high; omega)).2 q hq;rw [c1] at this;exact this
    ·by_cases k5 : x.kind = 5
     ·refine same fun q hq => ?_;have hs : (s.step x).st = Xw s.dk.clean := by unfold St.step; rw [if_neg k1, if_neg k2, if_neg k3, if_neg k4, if_pos k5]
      obtain ⟨h1, h2⟩ := hg.cleaned;rw [hs, h1.mounted];exact h2 q hq
     ·by_cases k6 : x.kind = 6
      ·refine same fun q _ => ?_;have hs : (s.step x).st = Xw s.dk := by unfold St.step; rw [if_neg k1, if_neg k2, if_neg k3, if_neg k4, if_neg k5, if_pos k6]
       rw [hs, hg.mounted]
      ·have hs : (s.step x).st = s := by unfold St.step; rw [if_neg k1, if_neg k2, if_neg k3, if_neg k4, if_neg k5, if_neg k6]
       rw [hs]
end Go.Proofs.YtpdnapbchcdhlacGreat
namespace Go.Proofs.YtpdnapbchcdhlacGreat
set_option maxRecDepth 100000
open Go.RowKit
open Plain Reg
end Go.Proofs.YtpdnapbchcdhlacGreat
