import Derived.Test.YtlickojpmffmiacGreatStepP
import Derived.Deep.DeepCutAuto
set_option maxHeartbeats 8000000
namespace Go.Proofs.YtlickojpmffmiacGreat
set_option maxRecDepth 100000
open Go.RowKit
open Plain Reg
theorem rstep_3 (S : Nat → Prop) (s : St) (x : Sp) (v : Value) (ad : Option Addr) (c : Nat) (w : World) (hS : ∀ b, S b → b < w.heap.size) (hs : StoreS S s v w) (_ : BytesS S w (.slice ad x.deed.data.length c) x.deed.data) (hA : s.At) (_ : x.deed.data.length ≤ 140737488355328) (k1 : ¬ x.kind = 1) (k2 : ¬ x.kind = 2) (k3 : x.kind = 3) :
  Calls Tryz.prog 14 #[v, .agg #[.int .i64 x.kind, .int .i64 x.n, .int .i64 x.m, .int .i64 x.deed.kind, .int .i64 x.deed.key, .int .i64 x.deed.num, .slice ad x.deed.data.length c]] w fun r w' => ∃ v', r = .returned (.tuple #[v', .int .i64 (s.step x).n, .int .i64 (s.step x).e]) ∧ StoreS (Upon S w.heap.size) (s.step x).st v' w' ∧ Grow w w' := by
 obtain ⟨ab, cb, al, cl, ai, ci, rfl, hb, hl, hi⟩ := hs.form
 obtain ⟨g0, hs1, hd1, hz1, HWs⟩ := entry3 w #[.slice ab s.dk.blocks.length cb, .slice al s.dk.late.length cl, .slice ai s.idx.length ci, .int .i64 s.next] #[.int .i64 x.kind, .int .i64 x.n, .int .i64 x.m, .int .i64 x.deed.kind, .int .i64 x.deed.key, .int .i64 x.deed.num, .slice ad x.deed.data.length c] 29 50
 have hns : ¬ Upon S (w.heap.size + 3) w.heap.size := upon_not hS (by omega)
 have hnz : ¬ Upon S (w.heap.size + 3) (w.heap.size + 2) := upon_not (fun b h => by have := hS b h; omega) (by omega)
 obtain ⟨R, hR⟩ : ∃ R, R = s.step x := ⟨_, rfl⟩
 rw [← hR]
 have HR : Hid (R = s.step x) := hR
 have HAT : Hid (s.At) := hA
 clear hR hA
 go_enter Tryz.func14, Tryz.ntmps14
 obtain ⟨d0, d1, d2, d3, d4⟩ := box5 hd1 rfl rfl rfl rfl rfl
 have d5 := box_cell hd1 5 _ rfl
 have d6 := box_cell hd1 6 _ rfl
 obtain ⟨s0, s1, s2, s3⟩ := box4 hs1 rfl rfl rfl rfl
 have q1 : (x.kind == 1) = false := by simp [k1]
 have q2 : (x.kind == 2) = false := by simp [k2]
 have q3 : (x.kind == 3) = true := by simp [k3]
 have HRB : Hid (R = if x.n < 0 ∨ 192 ≤ x.n then ⟨s, 0, 3⟩ else ⟨⟨s.dk.spoil (x.n / 16) (x.n % 16) x.m, s.idx, s.next⟩, 0, 0⟩) := by show R = _; rw [HR.out]; unfold St.step; rw [if_neg k1, if_neg k2, if_pos k3]
 clear HR k1 k2 k3
 by_cases h0 : x.n < 0
 ·obtain rfl : R = ⟨s, 0, 3⟩ := by rw [HRB.out, if_pos (.inl h0)]
  clear HRB
  go_upto_region 1 with fail
  generalize World.alloc (World.alloc (World.alloc w _) _) _ = W at *
  have hWs := HWs.out
  clear HWs
  have hzX := hz1
  have gwX := g0
  obtain ⟨z0, z1, z2, z3⟩ := box4 hzX rfl rfl rfl rfl
  obtain ⟨f0, f1, f2, f3⟩ := boxf4 hzX
  have cs := cell_set
  obtain ⟨hq1, hq2⟩ := box_put hzX (.slice ab s.dk.blocks.length cb) (.slice al s.dk.late.length cl) (.slice ai s.idx.length ci) (.int .i64 s.next)
  obtain ⟨x0, x1, x2, x3⟩ := box4 hq1 rfl rfl rfl rfl
  have gE := hq2.grow gwX (by omega)
  have hE := (hs.grow gE).mono (S' := Upon S w.heap.size) upon_l
  clear hq1 hq2 hzX gwX
  go_wp2_with fail
  exact bodyPost_ret (v := .tuple #[.agg #[.slice ab s.dk.blocks.length cb, .slice al s.dk.late.length cl, .slice ai s.idx.length ci, .int .i64 s.next], .int .i64 0, .int .i64 3]) (by simp [results, Tryz.results14, go_sem, x0, x1, x2, x3]) rfl ⟨_, rfl, hE, gE⟩
 ·by_cases h1 : 192 ≤ x.n
  ·obtain rfl : R = ⟨s, 0, 3⟩ := by rw [HRB.out, if_pos (.inr h1)]
   clear HRB
   go_upto_region 1 with fail
   generalize World.alloc (World.alloc (World.alloc w _) _) _ = W at *
   have hWs := HWs.out
   clear HWs
   have hzX := hz1
   have gwX := g0
   obtain ⟨z0, z1, z2, z3⟩ := box4 hzX rfl rfl rfl rfl
   obtain ⟨f0, f1, f2, f3⟩ := boxf4 hzX
   have cs := cell_set
   obtain ⟨hq1, hq2⟩ := box_put hzX (.slice ab s.dk.blocks.length cb) (.slice al s.dk.late.length cl) (.slice ai s.idx.length ci) (.int .i64 s.next)
   obtain ⟨x0, x1, x2, x3⟩ := box4 hq1 rfl rfl rfl rfl
   have gE := hq2.grow gwX (by omega)
   have hE := (hs.grow gE).mono (S' := Upon S w.heap.size) upon_l
   clear hq1 hq2 hzX gwX
   go_wp2_with fail
   exact bodyPost_ret (v := .tuple #[.agg #[.slice ab s.dk.blocks.length cb, .slice al s.dk.late.length cl, .slice ai s.idx.length ci, .int .i64 s.next], .int .i64 0, .int .i64 3]) (by simp [results, Tryz.results14, go_sem, x0, x1, x2, x3]) rfl ⟨_, rfl, hE, gE⟩
  ·obtain ⟨SD, hSD⟩ : ∃ SD, SD = s.dk.spoil (x.n / 16) (x.n % 16) x.m := ⟨_, rfl⟩
   obtain rfl : R = ⟨⟨SD, s.idx, s.next⟩, 0, 0⟩ := by rw [HRB.out, if_neg (by omega), hSD]
   have HSD : Hid _ := hSD
   have e16 : x.n.tdiv 16 = x.n / 16 := Int.tdiv_eq_ediv_of_nonneg (by omega)
   have m16 : x.n.tmod 16 = x.n % 16 := Int.tmod_eq_emod_of_nonneg (by omega)
   clear HRB hSD
   go_wp2_with fail
   generalize World.alloc (World.alloc (World.alloc w _) _) _ = W at *
   have hWs := HWs.out
   clear HWs
   refine (rspoil_c S 0 s.dk (x.n / 16) (x.n % 16) x.m _ W (fun b h => by have := hS b h; omega) ⟨_, _, rfl, hb.grow g0, hl.grow g0⟩ HAT.out.ok.disk).mono ?_
   rw [hWs, ← HSD.out]
   rintro r w1 ⟨v1, rfl, h1', g1⟩
   obtain ⟨b9, e9, l9, m9, rfl, p1, p2⟩ := h1'.form
   have hs8 := (g1.block _ (heap_lt hs1)).trans hs1
   have hz8 := (g1.block _ (heap_lt hz1)).trans hz1
   have gw8 := g0.trans g1
   have hI8 := (hi.grow gw8).mono (S' := Upon S (w.heap.size + 3)) upon_l
   clear d0 d1 d2 d3 d4 d5 d6 s0 s1 s2 s3 hs1 hd1 hz1 g0 g1 h1' hs hb hl hi
   obtain ⟨ht1, ht2⟩ := box_twoOf hs8 (.slice b9 SD.blocks.length e9) (.slice l9 SD.late.length m9)
   obtain ⟨y0, y1, y2, y3⟩ := box4 hs8 rfl rfl rfl rfl
   have f0 := box_frozen hs8 0
   have f1 := box_frozen hs8 1
   obtain ⟨t0, t1, t2, t3⟩ := box4 ht1 rfl rfl rfl rfl
   have hz9 := (ht2.block _ (heap_lt hz8) (by omega)).trans hz8
   have gw9 := ht2.grow gw8 (Nat.le_refl _)
   obtain ⟨i9, j9, hij⟩ : ∃ i9 j9, i9 = ai ∧ j9 = ci := ⟨_, _, rfl, rfl⟩
   obtain ⟨rfl, rfl⟩ := hij
   obtain ⟨s9, hs9⟩ : ∃ s9 : St, s9 = ⟨SD, s.idx, s.next⟩ := ⟨_, rfl⟩
   have hS9 : StoreS (Upon S (w.heap.size + 3)) ⟨SD, s.idx, s.next⟩ (.agg #[.slice b9 SD.blocks.length e9, .slice l9 SD.late.length m9, .slice i9 s.idx.length j9, .int .i64 s.next]) _ := ⟨_, _, _, rfl, p1.but ht2 hns, p2.but ht2 hns, hI8.but ht2 hns⟩
   clear ht1 ht2 hs8 hz8 gw8 p1 p2 hI8 hs9
   clear s9
   obtain ⟨hq1, hq2⟩ := box_put hz9 (.slice b9 SD.blocks.length e9) (.slice l9 SD.late.length m9) (.slice i9 s.idx.length j9) (.int .i64 s.next)
   obtain ⟨z0, z1, z2, z3⟩ := box4 hz9 rfl rfl rfl rfl
   obtain ⟨o0, o1, o2, o3⟩ := boxf4 hz9
   obtain ⟨x0, x1, x2, x3⟩ := box4 hq1 rfl rfl rfl rfl
   have cs := cell_set
   have gE := hq2.grow gw9 (by omega)
   have hE := (hS9.but hq2 hnz).mono (upon_le (B := w.heap.size) (by omega))
   clear hq1 hq2 hz9 gw9 hS9
   go_wp2_with fail
   exact bodyPost_ret (v := .tuple #[.agg #[.slice b9 SD.blocks.length e9, .slice l9 SD.late.length m9, .slice i9 s.idx.length j9, .int .i64 s.next], .int .i64 0, .int .i64 0]) (by simp [results, Tryz.results14, go_sem, x0, x1, x2, x3]) rfl ⟨_, rfl, hE, gE⟩
theorem rstep_4 (S : Nat → Prop) (s : St) (x : Sp) (v : Value) (ad : Option Addr) (c : Nat) (w : World) (hS : ∀ b, S b → b < w.heap.size) (hs : StoreS S s v w) (_ : BytesS S w (.slice ad x.deed.data.length c) x.deed.data) (hA : s.At) (_ : x.deed.data.length ≤ 140737488355328) (k1 : ¬ x.kind = 1) (k2 : ¬ x.kind = 2) (k3 : ¬ x.kind = 3) (k4 : x.kind = 4) :
  Calls Tryz.prog 14 #[v, .agg #[.int .i64 x.kind, .int .i64 x.n, .int .i64 x.m, .int .i64 x.deed.kind, .int .i64 x.deed.key, .int .i64 x.deed.num, .slice ad x.deed.data.length c]] w fun r w' => ∃ v', r = .returned (.tuple #[v', .int .i64 (s.step x).n, .int .i64 (s.step x).e]) ∧ StoreS (Upon S w.heap.size) (s.step x).st v' w' ∧ Grow w w' := by
 obtain ⟨ab, cb, al, cl, ai, ci, rfl, hb, hl, hi⟩ := hs.form
 obtain ⟨g0, hs1, hd1, hz1, HWs⟩ := entry3 w #[.slice ab s.dk.blocks.length cb, .slice al s.dk.late.length cl, .slice ai s.idx.length ci, .int .i64 s.next] #[.int .i64 x.kind, .int .i64 x.n, .int .i64 x.m, .int .i64 x.deed.kind, .int .i64 x.deed.key, .int .i64 x.deed.num, .slice ad x.deed.data.length c] 29 50
 have hns : ¬ Upon S (w.heap.size + 3) w.heap.size := upon_not hS (by omega)
 have hnz : ¬ Upon S (w.heap.size + 3) (w.heap.size + 2) := upon_not (fun b h => by have := hS b h; omega) (by omega)
 obtain ⟨R, hR⟩ : ∃ R, R = s.step x := ⟨_, rfl⟩
 rw [← hR]
 have HR : Hid (R = s.step x) := hR
 have HAT : Hid (s.At) := hA
 clear hR hA
 go_enter Tryz.func14, Tryz.ntmps14
 obtain ⟨d0, d1, d2, d3, d4⟩ := box5 hd1 rfl rfl rfl rfl rfl
 have d5 := box_cell hd1 5 _ rfl
 have d6 := box_cell hd1 6 _ rfl
 obtain ⟨s0, s1, s2, s3⟩ := box4 hs1 rfl rfl rfl rfl
 have q1 : (x.kind == 1) = false := by simp [k1]
 have q2 : (x.kind == 2) = false := by simp [k2]
 have q3 : (x.kind == 3) = false := by simp [k3]
 have q4 : (x.kind == 4) = true := by simp [k4]
 obtain ⟨s9, hs9⟩ : ∃ s9, s9 = s.scrub := ⟨_, rfl⟩
 obtain rfl : R = ⟨s9, 0, 0⟩ := by rw [HR.out, hs9]; unfold St.step; rw [if_neg k1, if_neg k2, if_neg k3, if_pos k4]
 have HS9 : Hid _ := hs9
 clear HR k1 k2 k3 k4 hs9
 go_wp2_with fail
 generalize World.alloc (World.alloc (World.alloc w _) _) _ = W at *
 have hWs := HWs.out
 clear HWs
 refine (rscrub_any S 0 s _ W (fun b h => by have := hS b h; omega) (hs.grow g0) HAT.out.ok.disk (by omega) HAT.out.low (by have := HAT.out.high; omega)).mono ?_
 rw [hWs, ← HS9.out]
 rintro r w1 ⟨v1, rfl, hS8, g1⟩
 have hs8 := (g1.block _ (heap_lt hs1)).trans hs1
 have hz8 := (g1.block _ (heap_lt hz1)).trans hz1
 have gw8 := g0.trans g1
 obtain ⟨b9, e9, l9, m9, i9, j9, hv9, -, -, -⟩ := hS8.form
 subst hv9
 clear d0 d1 d2 d3 d4 d5 d6 s0 s1 s2 s3 hs1 hd1 hz1 g0 g1 hs hb hl hi
 obtain ⟨ht1, ht2⟩ := box_put hs8 (.slice b9 s9.dk.blocks.length e9) (.slice l9 s9.dk.late.length m9) (.slice i9 s9.idx.length j9) (.int .i64 s9.next)
 obtain ⟨y0, y1, y2, y3⟩ := box4 hs8 rfl rfl rfl rfl
 obtain ⟨f0, f1, f2, f3⟩ := boxf4 hs8
 obtain ⟨t0, t1, t2, t3⟩ := box4 ht1 rfl rfl rfl rfl
 have hz9 := (ht2.block _ (heap_lt hz8) (by omega)).trans hz8
 have gw9 := ht2.grow gw8 (Nat.le_refl _)
 have hS9 := hS8.but ht2 hns
 clear ht1 ht2 hs8 hz8 gw8 hS8
 obtain ⟨hq1, hq2⟩ := box_put hz9 (.slice b9 s9.dk.blocks.length e9) (.slice l9 s9.dk.late.length m9) (.slice i9 s9.idx.length j9) (.int .i64 s9.next)
 obtain ⟨z0, z1, z2, z3⟩ := box4 hz9 rfl rfl rfl rfl
 obtain ⟨o0, o1, o2, o3⟩ := boxf4 hz9
 obtain ⟨x0, x1, x2, x3⟩ := box4 hq1 rfl rfl rfl rfl
 have cs := cell_set
 have gE := hq2.grow gw9 (by omega)
 have hE := (hS9.but hq2 hnz).mono (upon_le (B := w.heap.size) (by omega))
 clear hq1 hq2 hz9 gw9 hS9
 go_wp2_with fail
 exact bodyPost_ret (v := .tuple #[.agg #[.slice b9 s9.dk.blocks.length e9, .slice l9 s9.dk.late.length m9, .slice i9 s9.idx.length j9, .int .i64 s9.next], .int .i64 0, .int .i64 0]) (by simp [results, Tryz.results14, go_sem, x0, x1, x2, x3]) rfl ⟨_, rfl, hE, gE⟩
end Go.Proofs.YtlickojpmffmiacGreat
