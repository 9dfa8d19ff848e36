import Derived.Test.YtlickojpmffmiacGreatRStepB
set_option maxHeartbeats 8000000
namespace Go.Proofs.YtlickojpmffmiacGreat
set_option maxRecDepth 100000
open Go.RowKit
open Plain Reg
theorem rstep_5 (S : Nat → Prop) (s : St) (x : Sp) (v : Value) (ad : Option Addr) (c : Nat) (w : World) (hS : ∀ b, S b → b < w.heap.size) (hs : StoreS S s v w) (_ : BytesS S w (.slice ad x.deed.data.length c) x.deed.data) (hA : s.At) (_ : x.deed.data.length ≤ 140737488355328) (k1 : ¬ x.kind = 1) (k2 : ¬ x.kind = 2) (k3 : ¬ x.kind = 3) (k4 : ¬ x.kind = 4) (k5 : x.kind = 5) :
  Calls Tryz.prog 14 #[v, .agg #[.int .i64 x.kind, .int .i64 x.n, .int .i64 x.m, .int .i64 x.deed.kind, .int .i64 x.deed.key, .int .i64 x.deed.num, .slice ad x.deed.data.length c]] w fun r w' => ∃ v', r = .returned (.tuple #[v', .int .i64 (s.step x).n, .int .i64 (s.step x).e]) ∧ StoreS (Upon S w.heap.size) (s.step x).st v' w' ∧ Grow w w' := by
 obtain ⟨ab, cb, al, cl, ai, ci, rfl, hb, hl, hi⟩ := hs.form
 obtain ⟨g0, hs1, hd1, hz1, HWs⟩ := entry3 w #[.slice ab s.dk.blocks.length cb, .slice al s.dk.late.length cl, .slice ai s.idx.length ci, .int .i64 s.next] #[.int .i64 x.kind, .int .i64 x.n, .int .i64 x.m, .int .i64 x.deed.kind, .int .i64 x.deed.key, .int .i64 x.deed.num, .slice ad x.deed.data.length c] 29 50
 have hns : ¬ Upon S (w.heap.size + 3) w.heap.size := upon_not hS (by omega)
 have hnz : ¬ Upon S (w.heap.size + 3) (w.heap.size + 2) := upon_not (fun b h => by have := hS b h; omega) (by omega)
 obtain ⟨R, hR⟩ : ∃ R, R = s.step x := ⟨_, rfl⟩
 rw [← hR]
 have HR : Hid (R = s.step x) := hR
 have HAT : Hid (s.At) := hA
 clear hR hA
 go_enter Tryz.func14, Tryz.ntmps14
 obtain ⟨d0, d1, d2, d3, d4⟩ := box5 hd1 rfl rfl rfl rfl rfl
 have d5 := box_cell hd1 5 _ rfl
 have d6 := box_cell hd1 6 _ rfl
 obtain ⟨s0, s1, s2, s3⟩ := box4 hs1 rfl rfl rfl rfl
 have q1 : (x.kind == 1) = false := by simp [k1]
 have q2 : (x.kind == 2) = false := by simp [k2]
 have q3 : (x.kind == 3) = false := by simp [k3]
 have q4 : (x.kind == 4) = false := by simp [k4]
 have q5 : (x.kind == 5) = true := by simp [k5]
 obtain ⟨CD, hCD⟩ : ∃ CD, CD = s.dk.clean := ⟨_, rfl⟩
 obtain ⟨s9, hs9⟩ : ∃ s9, s9 = mountS CD := ⟨_, rfl⟩
 obtain rfl : R = ⟨s9, 0, 0⟩ := by rw [HR.out, hs9, hCD]; unfold St.step; rw [if_neg k1, if_neg k2, if_neg k3, if_neg k4, if_pos k5]
 have HS9 : Hid _ := hs9
 have HCD : Hid _ := hCD
 have HCF : Hid (CD.Fine 0) := by rw [hCD]; exact tidy_fine HAT.out.ok.disk
 clear HR k1 k2 k3 k4 k5 hs9 hCD
 go_wp2_with fail
 generalize World.alloc (World.alloc (World.alloc w _) _) _ = W at *
 have hWs := HWs.out
 clear HWs
 refine (rclean_any S 0 s.dk _ W (fun b h => by have := hS b h; omega) ⟨_, _, rfl, hb.grow g0, hl.grow g0⟩ HAT.out.ok.disk (by omega)).mono ?_
 rw [hWs, ← HCD.out]
 generalize cnt (s.dk.keep 0) 6 = CN at *
 generalize twiceTo (s.dk.keep 0) 6 = tw at *
 rintro r w1 ⟨v1, vt, rfl, h1, hvt, g1⟩
 obtain ⟨b1, e1, l1, m1, rfl, h1b, h1l⟩ := h1.form
 obtain ⟨at1, ct1, rfl⟩ := hvt.form
 have g2 := grow_alloc2 w1 (.cells #[.slice b1 CD.blocks.length e1, .slice l1 CD.late.length m1] 26) (.cells (repA CN) 39)
 have hV0 := heap_new w1 #[.slice b1 CD.blocks.length e1, .slice l1 CD.late.length m1] 26
 have hV := ((grow_alloc (w1.alloc (.cells #[.slice b1 CD.blocks.length e1, .slice l1 CD.late.length m1] 26)) (.cells (repA CN) 39)).block _ (heap_lt hV0)).trans hV0
 have gg := g1.trans g2
 have hs2 := (gg.block _ (heap_lt hs1)).trans hs1
 have hz2 := (gg.block _ (heap_lt hz1)).trans hz1
 have gw2 := g0.trans gg
 have p1 := h1b.grow g2
 have p2 := h1l.grow g2
 clear d0 d1 d2 d3 d4 d5 d6 s0 s1 s2 s3 hs1 hd1 hz1 g0 g1 g2 gg hs hb hl hi hV0 h1 h1b h1l hvt
 obtain ⟨v0, v1⟩ := box2 hV rfl rfl
 go_wp2_with fail
 clear v0 v1 hV
 generalize World.alloc (World.alloc w1 _) _ = W2 at *
 refine (rmount_any (fun b => Upon S (w.heap.size + 3) b ∧ b < W2.heap.size) 0 CD _ W2 (fun b h => h.2) ⟨_, _, rfl, p1.capd, p2.capd⟩ HCF.out (by omega)).mono ?_
 have HW2 : Hid (w.heap.size + 3 ≤ W2.heap.size) := heap_lt hz2
 rw [← HS9.out]
 rintro r w3 ⟨v3, rfl, h3, g3⟩
 have hS8 : StoreS (Upon S (w.heap.size + 3)) s9 v3 w3 := h3.mono fun b h => h.elim (fun x => x.1) (fun x => .inr (Nat.le_trans HW2.out x))
 have hs8 := (g3.block _ (heap_lt hs2)).trans hs2
 have hz8 := (g3.block _ (heap_lt hz2)).trans hz2
 have gw8 := gw2.trans g3
 obtain ⟨b9, e9, l9, m9, i9, j9, hv9, -, -, -⟩ := hS8.form
 subst hv9
 clear hs2 hz2 gw2 p1 p2 h3 g3
 obtain ⟨ht1, ht2⟩ := box_put hs8 (.slice b9 s9.dk.blocks.length e9) (.slice l9 s9.dk.late.length m9) (.slice i9 s9.idx.length j9) (.int .i64 s9.next)
 obtain ⟨y0, y1, y2, y3⟩ := box4 hs8 rfl rfl rfl rfl
 obtain ⟨f0, f1, f2, f3⟩ := boxf4 hs8
 obtain ⟨t0, t1, t2, t3⟩ := box4 ht1 rfl rfl rfl rfl
 have hz9 := (ht2.block _ (heap_lt hz8) (by omega)).trans hz8
 have gw9 := ht2.grow gw8 (Nat.le_refl _)
 have hS9 := hS8.but ht2 hns
 clear ht1 ht2 hs8 hz8 gw8 hS8
 obtain ⟨hq1, hq2⟩ := box_put hz9 (.slice b9 s9.dk.blocks.length e9) (.slice l9 s9.dk.late.length m9) (.slice i9 s9.idx.length j9) (.int .i64 s9.next)
 obtain ⟨z0, z1, z2, z3⟩ := box4 hz9 rfl rfl rfl rfl
 obtain ⟨o0, o1, o2, o3⟩ := boxf4 hz9
 obtain ⟨x0, x1, x2, x3⟩ := box4 hq1 rfl rfl rfl rfl
 have cs := cell_set
 have gE := hq2.grow gw9 (by omega)
 have hE := (hS9.but hq2 hnz).mono (upon_le (B := w.heap.size) (by omega))
 clear hq1 hq2 hz9 gw9 hS9
 go_wp2_with fail
 exact bodyPost_ret (v := .tuple #[.agg #[.slice b9 s9.dk.blocks.length e9, .slice l9 s9.dk.late.length m9, .slice i9 s9.idx.length j9, .int .i64 s9.next], .int .i64 0, .int .i64 0]) (by simp [results, Tryz.results14, go_sem, x0, x1, x2, x3]) rfl ⟨_, rfl, hE, gE⟩
theorem rstep_6 (S : Nat → Prop) (s : St) (x : Sp) (v : Value) (ad : Option Addr) (c : Nat) (w : World) (hS : ∀ b, S b → b < w.heap.size) (hs : StoreS S s v w) (_ : BytesS S w (.slice ad x.deed.data.length c) x.deed.data) (hA : s.At) (_ : x.deed.data.length ≤ 140737488355328) (k1 : ¬ x.kind = 1) (k2 : ¬ x.kind = 2) (k3 : ¬ x.kind = 3) (k4 : ¬ x.kind = 4) (k5 : ¬ x.kind = 5) (k6 : x.kind = 6) :
  Calls Tryz.prog 14 #[v, .agg #[.int .i64 x.kind, .int .i64 x.n, .int .i64 x.m, .int .i64 x.deed.kind, .int .i64 x.deed.key, .int .i64 x.deed.num, .slice ad x.deed.data.length c]] w fun r w' => ∃ v', r = .returned (.tuple #[v', .int .i64 (s.step x).n, .int .i64 (s.step x).e]) ∧ StoreS (Upon S w.heap.size) (s.step x).st v' w' ∧ Grow w w' := by
 obtain ⟨ab, cb, al, cl, ai, ci, rfl, hb, hl, hi⟩ := hs.form
 obtain ⟨g0, hs1, hd1, hz1, HWs⟩ := entry3 w #[.slice ab s.dk.blocks.length cb, .slice al s.dk.late.length cl, .slice ai s.idx.length ci, .int .i64 s.next] #[.int .i64 x.kind, .int .i64 x.n, .int .i64 x.m, .int .i64 x.deed.kind, .int .i64 x.deed.key, .int .i64 x.deed.num, .slice ad x.deed.data.length c] 29 50
 have hns : ¬ Upon S (w.heap.size + 3) w.heap.size := upon_not hS (by omega)
 have hnz : ¬ Upon S (w.heap.size + 3) (w.heap.size + 2) := upon_not (fun b h => by have := hS b h; omega) (by omega)
 obtain ⟨R, hR⟩ : ∃ R, R = s.step x := ⟨_, rfl⟩
 rw [← hR]
 have HR : Hid (R = s.step x) := hR
 have HAT : Hid (s.At) := hA
 clear hR hA
 go_enter Tryz.func14, Tryz.ntmps14
 obtain ⟨d0, d1, d2, d3, d4⟩ := box5 hd1 rfl rfl rfl rfl rfl
 have d5 := box_cell hd1 5 _ rfl
 have d6 := box_cell hd1 6 _ rfl
 obtain ⟨s0, s1, s2, s3⟩ := box4 hs1 rfl rfl rfl rfl
 have q1 : (x.kind == 1) = false := by simp [k1]
 have q2 : (x.kind == 2) = false := by simp [k2]
 have q3 : (x.kind == 3) = false := by simp [k3]
 have q4 : (x.kind == 4) = false := by simp [k4]
 have q5 : (x.kind == 5) = false := by simp [k5]
 have q6 : (x.kind == 6) = true := by simp [k6]
 obtain ⟨s9, hs9⟩ : ∃ s9, s9 = mountS s.dk := ⟨_, rfl⟩
 obtain rfl : R = ⟨s9, 0, 0⟩ := by rw [HR.out, hs9]; unfold St.step; rw [if_neg k1, if_neg k2, if_neg k3, if_neg k4, if_neg k5, if_pos k6]
 have HS9 : Hid _ := hs9
 clear HR k1 k2 k3 k4 k5 k6 hs9
 go_wp2_with fail
 generalize World.alloc (World.alloc (World.alloc w _) _) _ = W at *
 have hWs := HWs.out
 clear HWs
 refine (rmount_any S 0 s.dk _ W (fun b h => by have := hS b h; omega) ⟨_, _, rfl, hb.grow g0, hl.grow g0⟩ HAT.out.ok.disk (by omega)).mono ?_
 rw [hWs, ← HS9.out]
 rintro r w1 ⟨v1, rfl, hS8, g1⟩
 have hs8 := (g1.block _ (heap_lt hs1)).trans hs1
 have hz8 := (g1.block _ (heap_lt hz1)).trans hz1
 have gw8 := g0.trans g1
 obtain ⟨b9, e9, l9, m9, i9, j9, hv9, -, -, -⟩ := hS8.form
 subst hv9
 clear d0 d1 d2 d3 d4 d5 d6 s0 s1 s2 s3 hs1 hd1 hz1 g0 g1 hs hb hl hi
 obtain ⟨ht1, ht2⟩ := box_put hs8 (.slice b9 s9.dk.blocks.length e9) (.slice l9 s9.dk.late.length m9) (.slice i9 s9.idx.length j9) (.int .i64 s9.next)
 obtain ⟨y0, y1, y2, y3⟩ := box4 hs8 rfl rfl rfl rfl
 obtain ⟨f0, f1, f2, f3⟩ := boxf4 hs8
 obtain ⟨t0, t1, t2, t3⟩ := box4 ht1 rfl rfl rfl rfl
 have hz9 := (ht2.block _ (heap_lt hz8) (by omega)).trans hz8
 have gw9 := ht2.grow gw8 (Nat.le_refl _)
 have hS9 := hS8.but ht2 hns
 clear ht1 ht2 hs8 hz8 gw8 hS8
 obtain ⟨hq1, hq2⟩ := box_put hz9 (.slice b9 s9.dk.blocks.length e9) (.slice l9 s9.dk.late.length m9) (.slice i9 s9.idx.length j9) (.int .i64 s9.next)
 obtain ⟨z0, z1, z2, z3⟩ := box4 hz9 rfl rfl rfl rfl
 obtain ⟨o0, o1, o2, o3⟩ := boxf4 hz9
 obtain ⟨x0, x1, x2, x3⟩ := box4 hq1 rfl rfl rfl rfl
 have cs := cell_set
 have gE := hq2.grow gw9 (by omega)
 have hE := (hS9.but hq2 hnz).mono (upon_le (B := w.heap.size) (by omega))
 clear hq1 hq2 hz9 gw9 hS9
 go_wp2_with fail
 exact bodyPost_ret (v := .tuple #[.agg #[.slice b9 s9.dk.blocks.length e9, .slice l9 s9.dk.late.length m9, .slice i9 s9.idx.length j9, .int .i64 s9.next], .int .i64 0, .int .i64 0]) (by simp [results, Tryz.results14, go_sem, x0, x1, x2, x3]) rfl ⟨_, rfl, hE, gE⟩
theorem rstep_no (S : Nat → Prop) (s : St) (x : Sp) (v : Value) (ad : Option Addr) (c : Nat) (w : World) (hS : ∀ b, S b → b < w.heap.size) (hs : StoreS S s v w) (_ : BytesS S w (.slice ad x.deed.data.length c) x.deed.data) (hA : s.At) (_ : x.deed.data.length ≤ 140737488355328) (k1 : ¬ x.kind = 1) (k2 : ¬ x.kind = 2) (k3 : ¬ x.kind = 3) (k4 : ¬ x.kind = 4) (k5 : ¬ x.kind = 5) (k6 : ¬ x.kind = 6) :
  Calls Tryz.prog 14 #[v, .agg #[.int .i64 x.kind, .int .i64 x.n, .int .i64 x.m, .int .i64 x.deed.kind, .int .i64 x.deed.key, .int .i64 x.deed.num, .slice ad x.deed.data.length c]] w fun r w' => ∃ v', r = .returned (.tuple #[v', .int .i64 (s.step x).n, .int .i64 (s.step x).e]) ∧ StoreS (Upon S w.heap.size) (s.step x).st v' w' ∧ Grow w w' := by
 obtain ⟨ab, cb, al, cl, ai, ci, rfl, hb, hl, hi⟩ := hs.form
 obtain ⟨g0, hs1, hd1, hz1, HWs⟩ := entry3 w #[.slice ab s.dk.blocks.length cb, .slice al s.dk.late.length cl, .slice ai s.idx.length ci, .int .i64 s.next] #[.int .i64 x.kind, .int .i64 x.n, .int .i64 x.m, .int .i64 x.deed.kind, .int .i64 x.deed.key, .int .i64 x.deed.num, .slice ad x.deed.data.length c] 29 50
 have hns : ¬ Upon S (w.heap.size + 3) w.heap.size := upon_not hS (by omega)
 have hnz : ¬ Upon S (w.heap.size + 3) (w.heap.size + 2) := upon_not (fun b h => by have := hS b h; omega) (by omega)
 obtain ⟨R, hR⟩ : ∃ R, R = s.step x := ⟨_, rfl⟩
 rw [← hR]
 have HR : Hid (R = s.step x) := hR
 have HAT : Hid (s.At) := hA
 clear hR hA
 go_enter Tryz.func14, Tryz.ntmps14
 obtain ⟨d0, d1, d2, d3, d4⟩ := box5 hd1 rfl rfl rfl rfl rfl
 have d5 := box_cell hd1 5 _ rfl
 have d6 := box_cell hd1 6 _ rfl
 obtain ⟨s0, s1, s2, s3⟩ := box4 hs1 rfl rfl rfl rfl
 have q1 : (x.kind == 1) = false := by simp [k1]
 have q2 : (x.kind == 2) = false := by simp [k2]
 have q3 : (x.kind == 3) = false := by simp [k3]
 have q4 : (x.kind == 4) = false := by simp [k4]
 have q5 : (x.kind == 5) = false := by simp [k5]
 have q6 : (x.kind == 6) = false := by simp [k6]
 obtain rfl : R = ⟨s, 0, 1⟩ := by rw [HR.out]; unfold St.step; rw [if_neg k1, if_neg k2, if_neg k3, if_neg k4, if_neg k5, if_neg k6]
 clear HR k1 k2 k3 k4 k5 k6
 go_upto_region 1 with fail
 generalize World.alloc (World.alloc (World.alloc w _) _) _ = W at *
 have hWs := HWs.out
 clear HWs
 have hzX := hz1
 have gwX := g0
 obtain ⟨z0, z1, z2, z3⟩ := box4 hzX rfl rfl rfl rfl
 obtain ⟨f0, f1, f2, f3⟩ := boxf4 hzX
 have cs := cell_set
 obtain ⟨hq1, hq2⟩ := box_put hzX (.slice ab s.dk.blocks.length cb) (.slice al s.dk.late.length cl) (.slice ai s.idx.length ci) (.int .i64 s.next)
 obtain ⟨x0, x1, x2, x3⟩ := box4 hq1 rfl rfl rfl rfl
 have gE := hq2.grow gwX (by omega)
 have hE := (hs.grow gE).mono (S' := Upon S w.heap.size) upon_l
 clear hq1 hq2 hzX gwX
 go_wp2_with fail
 exact bodyPost_ret (v := .tuple #[.agg #[.slice ab s.dk.blocks.length cb, .slice al s.dk.late.length cl, .slice ai s.idx.length ci, .int .i64 s.next], .int .i64 0, .int .i64 1]) (by simp [results, Tryz.results14, go_sem, x0, x1, x2, x3]) rfl ⟨_, rfl, hE, gE⟩
theorem rstep_any (S : Nat → Prop) (s : St) (x : Sp) (v : Value) (ad : Option Addr) (c : Nat) (w : World) (hS : ∀ b, S b → b < w.heap.size) (hs : StoreS S s v w) (hd : BytesS S w (.slice ad x.deed.data.length c) x.deed.data) (hA : s.At) (hdl : x.deed.data.length ≤ 140737488355328) :
  Calls Tryz.prog 14 #[v, .agg #[.int .i64 x.kind, .int .i64 x.n, .int .i64 x.m, .int .i64 x.deed.kind, .int .i64 x.deed.key, .int .i64 x.deed.num, .slice ad x.deed.data.length c]] w fun r w' => ∃ v', r = .returned (.tuple #[v', .int .i64 (s.step x).n, .int .i64 (s.step x).e]) ∧ StoreS (Upon S w.heap.size) (s.step x).st v' w' ∧ Grow w w' := by
 by_cases k1 : x.kind = 1
 ·exact rstep_1 S s x v ad c w hS hs hd hA hdl k1
 ·by_cases k2 : x.kind = 2
  ·exact rstep_2 S s x v ad c w hS hs hd hA hdl k1 k2
  ·by_cases k3 : x.kind = 3
   ·exact rstep_3 S s x v ad c w hS hs hd hA hdl k1 k2 k3
   ·by_cases k4 : x.kind = 4
    ·exact rstep_4 S s x v ad c w hS hs hd hA hdl k1 k2 k3 k4
    ·by_cases k5 : x.kind = 5
     ·exact rstep_5 S s x v ad c w hS hs hd hA hdl k1 k2 k3 k4 k5
     ·by_cases k6 : x.kind = 6
      ·exact rstep_6 S s x v ad c w hS hs hd hA hdl k1 k2 k3 k4 k5 k6
      ·exact rstep_no S s x v ad c w hS hs hd hA hdl k1 k2 k3 k4 k5 k6
def spShape : Shape Sp where
 T := 50
 size := 7
 enc S w x cs := ∃ u, cs = [.int .i64 x.kind, .int .i64 x.n, .int .i64 x.m, .int .i64 x.deed.kind, .int .i64 x.deed.key, .int .i64 x.deed.num, u] ∧ BytesS S w u x.deed.data
 len := by rintro S w x cs ⟨u, rfl, _⟩; rfl
 keep := by rintro S w w' x cs ⟨u, rfl, h⟩ hk; exact ⟨u, rfl, h.keeps hk⟩
 mono := by rintro S S' w x cs ⟨u, rfl, h⟩ hS; exact ⟨u, rfl, h.mono hS⟩
 cap := by rintro S w x cs ⟨u, rfl, h⟩; exact ⟨u, rfl, h.caps⟩
 one := by
  rintro S w x cs ⟨u, rfl, h⟩ c hc
  simp only [List.mem_cons, List.not_mem_nil, or_false] at hc
  rcases hc with rfl | rfl | rfl | rfl | rfl | rfl | rfl
  ·rfl
  ·rfl
  ·rfl
  ·rfl
  ·rfl
  ·rfl
  ·exact h.one
abbrev StepsS (S : Nat → Prop) (w : World) (v : Value) (l : List Sp) : Prop := SliceS spShape S w v l
theorem steps_at {S : Nat → Prop} {w : World} {ao : Option Addr} {n cap : Nat} {l : List Sp} (h : StepsS S w (.slice ao n cap) l) (i : Nat) (hi : i < l.length) :
  ∃ b off a c, ao = some ⟨b, off, none⟩ ∧ w.cell? ⟨b, off + i * 7, none⟩ = some (.int .i64 l[i].kind) ∧ w.cell? ⟨b, off + i * 7 + 1, none⟩ = some (.int .i64 l[i].n) ∧ w.cell? ⟨b, off + i * 7 + 2, none⟩ = some (.int .i64 l[i].m) ∧ w.cell? ⟨b, off + i * 7 + 3, none⟩ = some (.int .i64 l[i].deed.kind) ∧ w.cell? ⟨b, off + i * 7 + 4, none⟩ = some (.int .i64 l[i].deed.key) ∧ w.cell? ⟨b, off + i * 7 + 5, none⟩ = some (.int .i64 l[i].deed.num) ∧
   w.cell? ⟨b, off + i * 7 + 6, none⟩ = some (.slice a l[i].deed.data.length c) ∧ BytesS S w (.slice a l[i].deed.data.length c) l[i].deed.data := by
 obtain ⟨b, off, rfl, _, cs, ⟨u, rfl, hu⟩, hc⟩ := h.at i hi
 obtain ⟨a, c, rfl⟩ := hu.form
 exact ⟨b, off, a, c, rfl, hc 0 _ rfl, hc 1 _ rfl, hc 2 _ rfl, hc 3 _ rfl, hc 4 _ rfl, hc 5 _ rfl, hc 6 _ rfl, hu⟩
/-! ### Gently -/
theorem new_at' : newS.At := mount_at new_fine
end Go.Proofs.YtlickojpmffmiacGreat
