import Derived.Test.YtlickojpmffmiacScrO
import Derived.Test.YtlickojpmffmiacScrL
set_option maxHeartbeats 8000000
namespace Go.Proofs.Ytlickojpmffmiac
set_option maxRecDepth 100000
open Go.RowKit
open Plain Reg
theorem pscAll_any (S : Nat → Prop) (s : St) (v : Value) (w : World) (hS : ∀ b, S b → b < w.heap.size) (hs : StoreS S s v w) (hA : s.At) :
  Calls Try.prog 7 #[v] w fun r w' => ∃ v', r = .returned (.tuple #[v', .agg (repA (wasN s 6))]) ∧ StoreS (Upon S w.heap.size) (scrubN 6 s) v' w' ∧ Grow w w' := by
 obtain ⟨ab, cb, al, cl, ai, ci, rfl, -, -, -⟩ := hs.form
 have g0 := (grow_alloc2 w (.cells #[.slice ab s.dk.blocks.length cb, .slice al s.dk.late.length cl, .slice ai s.idx.length ci, .int .i64 s.next] 30) zeroS).trans (grow_alloc2 _ zeroR zeroR)
 have hs0 := heap_new w #[.slice ab s.dk.blocks.length cb, .slice al s.dk.late.length cl, .slice ai s.idx.length ci, .int .i64 s.next] 30
 have hz0 := heap_new (w.alloc (.cells #[.slice ab s.dk.blocks.length cb, .slice al s.dk.late.length cl, .slice ai s.idx.length ci, .int .i64 s.next] 30)) #[.slice none 0 0, .slice none 0 0, .slice none 0 0, .int .i64 0] 30
 have hq0 := heap_new ((w.alloc (.cells #[.slice ab s.dk.blocks.length cb, .slice al s.dk.late.length cl, .slice ai s.idx.length ci, .int .i64 s.next] 30)).alloc zeroS) #[.int .i64 0, .int .i64 0, .int .i64 0, .int .i64 0, .int .i64 0, .int .i64 0] 37
 have hr0 := heap_new (((w.alloc (.cells #[.slice ab s.dk.blocks.length cb, .slice al s.dk.late.length cl, .slice ai s.idx.length ci, .int .i64 s.next] 30)).alloc zeroS).alloc zeroR) #[.int .i64 0, .int .i64 0, .int .i64 0, .int .i64 0, .int .i64 0, .int .i64 0] 37
 have hs1 := (((grow_alloc _ zeroS).trans (grow_alloc2 _ zeroR zeroR)).block _ (heap_lt hs0)).trans hs0
 have hz1 := ((grow_alloc2 _ zeroR zeroR).block _ (heap_lt hz0)).trans hz0
 have hq1 := ((grow_alloc _ zeroR).block _ (heap_lt hq0)).trans hq0
 rw [World.size_alloc] at hz1
 rw [World.size_alloc, World.size_alloc] at hq1
 rw [World.size_alloc, World.size_alloc, World.size_alloc] at hr0
 have hT0 : StoreS (Upon S (w.heap.size + 4)) s _ _ := (hs.grow g0).mono fun b h => .inl h
 have HAT : Hid (s.At) := hA
 obtain ⟨U, hU⟩ : ∃ U, U = scrubN 6 s := ⟨_, rfl⟩
 obtain ⟨f, hf⟩ : ∃ f, f = wasN s 6 := ⟨_, rfl⟩
 rw [← hU, ← hf]
 have HU : Hid _ := hU
 have Hf : Hid _ := hf
 clear hs0 hz0 hq0 hs hA hU hf
 go_enter Try.func7, Try.ntmps7
 go_wp2_with fail
 generalize World.alloc (World.alloc (World.alloc (World.alloc w _) _) _) _ = W at *
 go_loopw [7] (fun i wr => ∃ k : Nat, k ≤ 6 ∧ i = .int .i64 (k : Int) ∧ Grow w wr ∧ (∃ b5 e5 l5 m5 i5 j5, wr.heap[w.heap.size]? = some (.cells #[.slice b5 (scrubN k s).dk.blocks.length e5, .slice l5 (scrubN k s).dk.late.length m5, .slice i5 (scrubN k s).idx.length j5, .int .i64 (scrubN k s).next] 30 (0, 0)) ∧ StoreS (Upon S (w.heap.size + 4)) (scrubN k s) (.agg #[.slice b5 (scrubN k s).dk.blocks.length e5, .slice l5 (scrubN k s).dk.late.length m5, .slice i5 (scrubN k s).idx.length j5, .int .i64 (scrubN k s).next]) wr) ∧ wr.heap[w.heap.size + 1]? = some zeroS ∧ wr.heap[w.heap.size + 2]? = some zeroR ∧ wr.heap[w.heap.size + 3]? = some (.cells (repA (wasN s k)) 37 (0, 0))) (fun i _ => 6 - (intOf i).toNat)
 case atStart => exact ⟨0, by omega, rfl, g0, ⟨_, _, _, _, _, _, hs1, hT0⟩, hz1, hq1, hr0⟩
 case round =>
  clear g0 hs1 hT0 hz1 hq1 hr0
  obtain ⟨k, hk, rfl, gw, ⟨b5, e5, l5, m5, i5, j5, hs1, hT1⟩, hz1, hq1, hr1⟩ := hrel
  by_cases hlt : k < 6
  ·have HT : Hid (scrubN (k + 1) s = (scrubN k s).scrub) := rfl
   have HAk : Hid ((scrubN k s).At) := scrubN_at HAT.out k
   have HC : Hid (wasN s (k + 1) 0 = wasN s k 0 + (if (scrubN k s).dk.how (scrubN k s).next = 0 then 1 else 0) ∧ wasN s (k + 1) 1 = wasN s k 1 + (if (scrubN k s).dk.how (scrubN k s).next = 1 then 1 else 0) ∧ wasN s (k + 1) 2 = wasN s k 2 + (if (scrubN k s).dk.how (scrubN k s).next = 2 then 1 else 0) ∧ wasN s (k + 1) 3 = wasN s k 3 + (if (scrubN k s).dk.how (scrubN k s).next = 3 then 1 else 0) ∧ wasN s (k + 1) 4 = wasN s k 4 + (if (scrubN k s).dk.how (scrubN k s).next = 4 then 1 else 0) ∧ wasN s (k + 1) 5 = wasN s k 5 + (if (scrubN k s).dk.how (scrubN k s).next = 5 then 1 else 0)) := ⟨rfl, rfl, rfl, rfl, rfl, rfl⟩
   have hb0 := wasN_bd s k 0
   have hb1 := wasN_bd s k 1
   have hb2 := wasN_bd s k 2
   have hb3' := wasN_bd s k 3
   have hb4' := wasN_bd s k 4
   have hb5 := wasN_bd s k 5
   have hHb := how_bd (scrubN k s).dk (scrubN k s).next
   generalize scrubN k s = t at *
   obtain ⟨z0, z1, z2, z3⟩ := box4 hs1 rfl rfl rfl rfl
   go_wp2_with fail
   refine (pscOne_any _ t _ wr (fun b h => h.2) hT1.capd HAk.out).mono ?_
   obtain ⟨T, hTT⟩ : ∃ T, T = t.scrub := ⟨_, rfl⟩
   rw [← hTT] at HT ⊢
   generalize t.dk.how t.next = H2 at *
   rintro r w1 ⟨v1, rfl, h1, g1⟩
   obtain ⟨b7, e7, l7, m7, i7, j7, hv1, -, -, -⟩ := h1.form
   subst hv1
   have g2 := grow_alloc w1 (.cells #[.slice b7 T.dk.blocks.length e7, .slice l7 T.dk.late.length m7, .slice i7 T.idx.length j7, .int .i64 T.next] 30)
   have hxA := heap_new w1 #[.slice b7 T.dk.blocks.length e7, .slice l7 T.dk.late.length m7, .slice i7 T.idx.length j7, .int .i64 T.next] 30
   have g12 := g1.trans g2
   have hsA := (g12.block _ (heap_lt hs1)).trans hs1
   have hzA := (g12.block _ (heap_lt hz1)).trans hz1
   have hqA := (g12.block _ (heap_lt hq1)).trans hq1
   have hrA := (g12.block _ (heap_lt hr1)).trans hr1
   have HWR : Hid (w.heap.size + 4 ≤ wr.heap.size) := heap_lt hr1
   have HG9 : Hid (w.heap.size + 4 ≤ w1.heap.size) := Nat.le_trans HWR.out g1.size
   have hTA : StoreS (Upon S (w.heap.size + 4)) T _ _ := (h1.grow g2).mono fun b h => h.elim (fun x => x.1) (fun x => .inr (Nat.le_trans HWR.out x))
   have gwA := gw.trans g12
   clear z0 z1 z2 z3 hs1 hT1 hz1 hq1 hr1 h1 g1 g2 g12 gw hTT
   go_upto_region 5 with fail
   obtain ⟨G9, hG9⟩ : ∃ G9, G9 = w1.heap.size := ⟨_, rfl⟩
   rw [← hG9] at HG9 hxA ⊢
   clear hG9
   generalize World.alloc w1 _ = W2 at *
   unfold repA at hrA
   generalize wasN s k 0 = c0 at *
   generalize wasN s k 1 = c1 at *
   generalize wasN s k 2 = c2 at *
   generalize wasN s k 3 = c3 at *
   generalize wasN s k 4 = c4 at *
   generalize wasN s k 5 = c5 at *
   have hH6 : H2 = 0 ∨ H2 = 1 ∨ H2 = 2 ∨ H2 = 3 ∨ H2 = 4 ∨ H2 = 5 := by omega
   clear hHb
   rcases hH6 with rfl | rfl | rfl | rfl | rfl | rfl
   ·have hr3 : (W2.setCell ⟨w.heap.size + 3, 0, none⟩ (.int .i64 (c0 + 1))).heap[w.heap.size + 3]? = some (.cells #[.int .i64 (c0 + 1), .int .i64 (c1), .int .i64 (c2), .int .i64 (c3), .int .i64 (c4), .int .i64 (c5)] 37 (0, 0)) := heap_set hrA 0 _
    have hb3 := (GrowBut.refl (w.heap.size + 3) W2).set 0 none (.int .i64 (c0 + 1))
    have y0 := box_cell hrA 0 _ rfl
    have f0 := box_frozen hrA 0
    have hs3 := (hb3.block _ (heap_lt hsA) (by omega)).trans hsA
    have hz3 := (hb3.block _ (heap_lt hzA) (by omega)).trans hzA
    have hq3 := (hb3.block _ (heap_lt hqA) (by omega)).trans hqA
    have hx3 := (hb3.block _ (heap_lt hxA) (by have := HG9.out; omega)).trans hxA
    have hT3 := hTA.but hb3 (upon_not (fun b h => by have := hS b h; omega) (by omega))
    have gw3 := hb3.grow gwA (by omega)
    obtain ⟨n0, n1, n2, n3, n4, n5⟩ := HC.out
    simp only [Int.reduceEq, if_true, if_false, Int.add_zero] at n0 n1 n2 n3 n4 n5
    have HN : Hid _ := And.intro n0 (And.intro n1 (And.intro n2 (And.intro n3 (And.intro n4 n5))))
    clear n0 n1 n2 n3 n4 n5 HC hsA hzA hqA hrA hxA hTA gwA hb3
    go_upto_region 6 with fail
    clear y0 f0
    generalize World.setCell _ _ _ = W3 at *
    obtain ⟨hs4, hb4⟩ := box_put hs3 (.slice b7 T.dk.blocks.length e7) (.slice l7 T.dk.late.length m7) (.slice i7 T.idx.length j7) (.int .i64 T.next)
    have hz4 := (hb4.block _ (heap_lt hz3) (by omega)).trans hz3
    have hq4 := (hb4.block _ (heap_lt hq3) (by omega)).trans hq3
    have hr4 := (hb4.block _ (heap_lt hr3) (by omega)).trans hr3
    have hT4 := hT3.but hb4 (upon_not hS (by omega))
    have gw4 := hb4.grow gw3 (by omega)
    obtain ⟨x0, x1, x2, x3⟩ := box4 hx3 rfl rfl rfl rfl
    obtain ⟨v0, v1, v2, v3⟩ := box4 hs3 rfl rfl rfl rfl
    obtain ⟨u0, u1, u2, u3⟩ := boxf4 hs3
    have cs := cell_set
    clear hs3 hz3 hq3 hr3 hx3 hT3 gw3 hb4
    go_wp2_with fail
    go_roundw
    case rel => exact ⟨k + 1, by omega, by go_num, gw4, ⟨_, _, _, _, _, _, by rw [HT.out]; exact hs4, by rw [HT.out]; exact hT4⟩, hz4, hq4, by unfold repA; obtain ⟨n0, n1, n2, n3, n4, n5⟩ := HN.out; rw [n0, n1, n2, n3, n4, n5]; exact hr4⟩
    case measure => simp [intOf]; omega
   ·have hr3 : (W2.setCell ⟨w.heap.size + 3, 1, none⟩ (.int .i64 (c1 + 1))).heap[w.heap.size + 3]? = some (.cells #[.int .i64 (c0), .int .i64 (c1 + 1), .int .i64 (c2), .int .i64 (c3), .int .i64 (c4), .int .i64 (c5)] 37 (0, 0)) := heap_set hrA 1 _
    have hb3 := (GrowBut.refl (w.heap.size + 3) W2).set 1 none (.int .i64 (c1 + 1))
    have y0 := box_cell hrA 1 _ rfl
    have f0 := box_frozen hrA 1
    have hs3 := (hb3.block _ (heap_lt hsA) (by omega)).trans hsA
    have hz3 := (hb3.block _ (heap_lt hzA) (by omega)).trans hzA
    have hq3 := (hb3.block _ (heap_lt hqA) (by omega)).trans hqA
    have hx3 := (hb3.block _ (heap_lt hxA) (by have := HG9.out; omega)).trans hxA
    have hT3 := hTA.but hb3 (upon_not (fun b h => by have := hS b h; omega) (by omega))
    have gw3 := hb3.grow gwA (by omega)
    obtain ⟨n0, n1, n2, n3, n4, n5⟩ := HC.out
    simp only [Int.reduceEq, if_true, if_false, Int.add_zero] at n0 n1 n2 n3 n4 n5
    have HN : Hid _ := And.intro n0 (And.intro n1 (And.intro n2 (And.intro n3 (And.intro n4 n5))))
    clear n0 n1 n2 n3 n4 n5 HC hsA hzA hqA hrA hxA hTA gwA hb3
    go_upto_region 6 with fail
    clear y0 f0
    generalize World.setCell _ _ _ = W3 at *
    obtain ⟨hs4, hb4⟩ := box_put hs3 (.slice b7 T.dk.blocks.length e7) (.slice l7 T.dk.late.length m7) (.slice i7 T.idx.length j7) (.int .i64 T.next)
    have hz4 := (hb4.block _ (heap_lt hz3) (by omega)).trans hz3
    have hq4 := (hb4.block _ (heap_lt hq3) (by omega)).trans hq3
    have hr4 := (hb4.block _ (heap_lt hr3) (by omega)).trans hr3
    have hT4 := hT3.but hb4 (upon_not hS (by omega))
    have gw4 := hb4.grow gw3 (by omega)
    obtain ⟨x0, x1, x2, x3⟩ := box4 hx3 rfl rfl rfl rfl
    obtain ⟨v0, v1, v2, v3⟩ := box4 hs3 rfl rfl rfl rfl
    obtain ⟨u0, u1, u2, u3⟩ := boxf4 hs3
    have cs := cell_set
    clear hs3 hz3 hq3 hr3 hx3 hT3 gw3 hb4
    go_wp2_with fail
    go_roundw
    case rel => exact ⟨k + 1, by omega, by go_num, gw4, ⟨_, _, _, _, _, _, by rw [HT.out]; exact hs4, by rw [HT.out]; exact hT4⟩, hz4, hq4, by unfold repA; obtain ⟨n0, n1, n2, n3, n4, n5⟩ := HN.out; rw [n0, n1, n2, n3, n4, n5]; exact hr4⟩
    case measure => simp [intOf]; omega
   ·have hr3 : (W2.setCell ⟨w.heap.size + 3, 2, none⟩ (.int .i64 (c2 + 1))).heap[w.heap.size + 3]? = some (.cells #[.int .i64 (c0), .int .i64 (c1), .int .i64 (c2 + 1), .int .i64 (c3), .int .i64 (c4), .int .i64 (c5)] 37 (0, 0)) := heap_set hrA 2 _
    have hb3 := (GrowBut.refl (w.heap.size + 3) W2).set 2 none (.int .i64 (c2 + 1))
    have y0 := box_cell hrA 2 _ rfl
    have f0 := box_frozen hrA 2
    have hs3 := (hb3.block _ (heap_lt hsA) (by omega)).trans hsA
    have hz3 := (hb3.block _ (heap_lt hzA) (by omega)).trans hzA
    have hq3 := (hb3.block _ (heap_lt hqA) (by omega)).trans hqA
    have hx3 := (hb3.block _ (heap_lt hxA) (by have := HG9.out; omega)).trans hxA
    have hT3 := hTA.but hb3 (upon_not (fun b h => by have := hS b h; omega) (by omega))
    have gw3 := hb3.grow gwA (by omega)
    obtain ⟨n0, n1, n2, n3, n4, n5⟩ := HC.out
    simp only [Int.reduceEq, if_true, if_false, Int.add_zero] at n0 n1 n2 n3 n4 n5
    have HN : Hid _ := And.intro n0 (And.intro n1 (And.intro n2 (And.intro n3 (And.intro n4 n5))))
    clear n0 n1 n2 n3 n4 n5 HC hsA hzA hqA hrA hxA hTA gwA hb3
    go_upto_region 6 with fail
    clear y0 f0
    generalize World.setCell _ _ _ = W3 at *
    obtain ⟨hs4, hb4⟩ := box_put hs3 (.slice b7 T.dk.blocks.length e7) (.slice l7 T.dk.late.length m7) (.slice i7 T.idx.length j7) (.int .i64 T.next)
    have hz4 := (hb4.block _ (heap_lt hz3) (by omega)).trans hz3
    have hq4 := (hb4.block _ (heap_lt hq3) (by omega)).trans hq3
    have hr4 := (hb4.block _ (heap_lt hr3) (by omega)).trans hr3
    have hT4 := hT3.but hb4 (upon_not hS (by omega))
    have gw4 := hb4.grow gw3 (by omega)
    obtain ⟨x0, x1, x2, x3⟩ := box4 hx3 rfl rfl rfl rfl
    obtain ⟨v0, v1, v2, v3⟩ := box4 hs3 rfl rfl rfl rfl
    obtain ⟨u0, u1, u2, u3⟩ := boxf4 hs3
    have cs := cell_set
    clear hs3 hz3 hq3 hr3 hx3 hT3 gw3 hb4
    go_wp2_with fail
    go_roundw
    case rel => exact ⟨k + 1, by omega, by go_num, gw4, ⟨_, _, _, _, _, _, by rw [HT.out]; exact hs4, by rw [HT.out]; exact hT4⟩, hz4, hq4, by unfold repA; obtain ⟨n0, n1, n2, n3, n4, n5⟩ := HN.out; rw [n0, n1, n2, n3, n4, n5]; exact hr4⟩
    case measure => simp [intOf]; omega
   ·have hr3 : (W2.setCell ⟨w.heap.size + 3, 3, none⟩ (.int .i64 (c3 + 1))).heap[w.heap.size + 3]? = some (.cells #[.int .i64 (c0), .int .i64 (c1), .int .i64 (c2), .int .i64 (c3 + 1), .int .i64 (c4), .int .i64 (c5)] 37 (0, 0)) := heap_set hrA 3 _
    have hb3 := (GrowBut.refl (w.heap.size + 3) W2).set 3 none (.int .i64 (c3 + 1))
    have y0 := box_cell hrA 3 _ rfl
    have f0 := box_frozen hrA 3
    have hs3 := (hb3.block _ (heap_lt hsA) (by omega)).trans hsA
    have hz3 := (hb3.block _ (heap_lt hzA) (by omega)).trans hzA
    have hq3 := (hb3.block _ (heap_lt hqA) (by omega)).trans hqA
    have hx3 := (hb3.block _ (heap_lt hxA) (by have := HG9.out; omega)).trans hxA
    have hT3 := hTA.but hb3 (upon_not (fun b h => by have := hS b h; omega) (by omega))
    have gw3 := hb3.grow gwA (by omega)
    obtain ⟨n0, n1, n2, n3, n4, n5⟩ := HC.out
    simp only [Int.reduceEq, if_true, if_false, Int.add_zero] at n0 n1 n2 n3 n4 n5
    have HN : Hid _ := And.intro n0 (And.intro n1 (And.intro n2 (And.intro n3 (And.intro n4 n5))))
    clear n0 n1 n2 n3 n4 n5 HC hsA hzA hqA hrA hxA hTA gwA hb3
    go_upto_region 6 with fail
    clear y0 f0
    generalize World.setCell _ _ _ = W3 at *
    obtain ⟨hs4, hb4⟩ := box_put hs3 (.slice b7 T.dk.blocks.length e7) (.slice l7 T.dk.late.length m7) (.slice i7 T.idx.length j7) (.int .i64 T.next)
    have hz4 := (hb4.block _ (heap_lt hz3) (by omega)).trans hz3
    have hq4 := (hb4.block _ (heap_lt hq3) (by omega)).trans hq3
    have hr4 := (hb4.block _ (heap_lt hr3) (by omega)).trans hr3
    have hT4 := hT3.but hb4 (upon_not hS (by omega))
    have gw4 := hb4.grow gw3 (by omega)
    obtain ⟨x0, x1, x2, x3⟩ := box4 hx3 rfl rfl rfl rfl
    obtain ⟨v0, v1, v2, v3⟩ := box4 hs3 rfl rfl rfl rfl
    obtain ⟨u0, u1, u2, u3⟩ := boxf4 hs3
    have cs := cell_set
    clear hs3 hz3 hq3 hr3 hx3 hT3 gw3 hb4
    go_wp2_with fail
    go_roundw
    case rel => exact ⟨k + 1, by omega, by go_num, gw4, ⟨_, _, _, _, _, _, by rw [HT.out]; exact hs4, by rw [HT.out]; exact hT4⟩, hz4, hq4, by unfold repA; obtain ⟨n0, n1, n2, n3, n4, n5⟩ := HN.out; rw [n0, n1, n2, n3, n4, n5]; exact hr4⟩
    case measure => simp [intOf]; omega
   ·have hr3 : (W2.setCell ⟨w.heap.size + 3, 4, none⟩ (.int .i64 (c4 + 1))).heap[w.heap.size + 3]? = some (.cells #[.int .i64 (c0), .int .i64 (c1), .int .i64 (c2), .int .i64 (c3), .int .i64 (c4 + 1), .int .i64 (c5)] 37 (0, 0)) := heap_set hrA 4 _
    have hb3 := (GrowBut.refl (w.heap.size + 3) W2).set 4 none (.int .i64 (c4 + 1))
    have y0 := box_cell hrA 4 _ rfl
    have f0 := box_frozen hrA 4
    have hs3 := (hb3.block _ (heap_lt hsA) (by omega)).trans hsA
    have hz3 := (hb3.block _ (heap_lt hzA) (by omega)).trans hzA
    have hq3 := (hb3.block _ (heap_lt hqA) (by omega)).trans hqA
    have hx3 := (hb3.block _ (heap_lt hxA) (by have := HG9.out; omega)).trans hxA
    have hT3 := hTA.but hb3 (upon_not (fun b h => by have := hS b h; omega) (by omega))
    have gw3 := hb3.grow gwA (by omega)
    obtain ⟨n0, n1, n2, n3, n4, n5⟩ := HC.out
    simp only [Int.reduceEq, if_true, if_false, Int.add_zero] at n0 n1 n2 n3 n4 n5
    have HN : Hid _ := And.intro n0 (And.intro n1 (And.intro n2 (And.intro n3 (And.intro n4 n5))))
    clear n0 n1 n2 n3 n4 n5 HC hsA hzA hqA hrA hxA hTA gwA hb3
    go_upto_region 6 with fail
    clear y0 f0
    generalize World.setCell _ _ _ = W3 at *
    obtain ⟨hs4, hb4⟩ := box_put hs3 (.slice b7 T.dk.blocks.length e7) (.slice l7 T.dk.late.length m7) (.slice i7 T.idx.length j7) (.int .i64 T.next)
    have hz4 := (hb4.block _ (heap_lt hz3) (by omega)).trans hz3
    have hq4 := (hb4.block _ (heap_lt hq3) (by omega)).trans hq3
    have hr4 := (hb4.block _ (heap_lt hr3) (by omega)).trans hr3
    have hT4 := hT3.but hb4 (upon_not hS (by omega))
    have gw4 := hb4.grow gw3 (by omega)
    obtain ⟨x0, x1, x2, x3⟩ := box4 hx3 rfl rfl rfl rfl
    obtain ⟨v0, v1, v2, v3⟩ := box4 hs3 rfl rfl rfl rfl
    obtain ⟨u0, u1, u2, u3⟩ := boxf4 hs3
    have cs := cell_set
    clear hs3 hz3 hq3 hr3 hx3 hT3 gw3 hb4
    go_wp2_with fail
    go_roundw
    case rel => exact ⟨k + 1, by omega, by go_num, gw4, ⟨_, _, _, _, _, _, by rw [HT.out]; exact hs4, by rw [HT.out]; exact hT4⟩, hz4, hq4, by unfold repA; obtain ⟨n0, n1, n2, n3, n4, n5⟩ := HN.out; rw [n0, n1, n2, n3, n4, n5]; exact hr4⟩
    case measure => simp [intOf]; omega
   ·have hr3 : (W2.setCell ⟨w.heap.size + 3, 5, none⟩ (.int .i64 (c5 + 1))).heap[w.heap.size + 3]? = some (.cells #[.int .i64 (c0), .int .i64 (c1), .int .i64 (c2), .int .i64 (c3), .int .i64 (c4), .int .i64 (c5 + 1)] 37 (0, 0)) := heap_set hrA 5 _
    have hb3 := (GrowBut.refl (w.heap.size + 3) W2).set 5 none (.int .i64 (c5 + 1))
    have y0 := box_cell hrA 5 _ rfl
    have f0 := box_frozen hrA 5
    have hs3 := (hb3.block _ (heap_lt hsA) (by omega)).trans hsA
    have hz3 := (hb3.block _ (heap_lt hzA) (by omega)).trans hzA
    have hq3 := (hb3.block _ (heap_lt hqA) (by omega)).trans hqA
    have hx3 := (hb3.block _ (heap_lt hxA) (by have := HG9.out; omega)).trans hxA
    have hT3 := hTA.but hb3 (upon_not (fun b h => by have := hS b h; omega) (by omega))
    have gw3 := hb3.grow gwA (by omega)
    obtain ⟨n0, n1, n2, n3, n4, n5⟩ := HC.out
    simp only [Int.reduceEq, if_true, if_false, Int.add_zero] at n0 n1 n2 n3 n4 n5
    have HN : Hid _ := And.intro n0 (And.intro n1 (And.intro n2 (And.intro n3 (And.intro n4 n5))))
    clear n0 n1 n2 n3 n4 n5 HC hsA hzA hqA hrA hxA hTA gwA hb3
    go_upto_region 6 with fail
    clear y0 f0
    generalize World.setCell _ _ _ = W3 at *
    obtain ⟨hs4, hb4⟩ := box_put hs3 (.slice b7 T.dk.blocks.length e7) (.slice l7 T.dk.late.length m7) (.slice i7 T.idx.length j7) (.int .i64 T.next)
    have hz4 := (hb4.block _ (heap_lt hz3) (by omega)).trans hz3
    have hq4 := (hb4.block _ (heap_lt hq3) (by omega)).trans hq3
    have hr4 := (hb4.block _ (heap_lt hr3) (by omega)).trans hr3
    have hT4 := hT3.but hb4 (upon_not hS (by omega))
    have gw4 := hb4.grow gw3 (by omega)
    obtain ⟨x0, x1, x2, x3⟩ := box4 hx3 rfl rfl rfl rfl
    obtain ⟨v0, v1, v2, v3⟩ := box4 hs3 rfl rfl rfl rfl
    obtain ⟨u0, u1, u2, u3⟩ := boxf4 hs3
    have cs := cell_set
    clear hs3 hz3 hq3 hr3 hx3 hT3 gw3 hb4
    go_wp2_with fail
    go_roundw
    case rel => exact ⟨k + 1, by omega, by go_num, gw4, ⟨_, _, _, _, _, _, by rw [HT.out]; exact hs4, by rw [HT.out]; exact hT4⟩, hz4, hq4, by unfold repA; obtain ⟨n0, n1, n2, n3, n4, n5⟩ := HN.out; rw [n0, n1, n2, n3, n4, n5]; exact hr4⟩
    case measure => simp [intOf]; omega
  ·obtain rfl : k = 6 := by omega
   clear hlt hk
   rw [← HU.out] at hs1 hT1
   rw [← Hf.out] at hr1
   clear HU Hf
   go_wp2_with fail
   refine wp_region_v [pl (ex (.agg #[.slice b5 U.dk.blocks.length e5, .slice l5 U.dk.late.length m5, .slice i5 U.idx.length j5, .int .i64 U.next])), pl (ex (.agg (repA f))), pl ((fun _ _ => True)), pl ((fun _ _ => True))] [none, none, some ((ButStep (w.heap.size + 1))), some ((ButStep (w.heap.size + 2)))] (fun dn w' => Grow w w' ∧ w'.heap[w.heap.size]? = some (.cells #[.slice b5 U.dk.blocks.length e5, .slice l5 U.dk.late.length m5, .slice i5 U.idx.length j5, .int .i64 U.next] 30 (0, 0)) ∧ w'.heap[w.heap.size + 3]? = some (.cells (repA f) 37 (0, 0)) ∧ StoreS (Upon S (w.heap.size + 4)) U (.agg #[.slice b5 U.dk.blocks.length e5, .slice l5 U.dk.late.length m5, .slice i5 U.idx.length j5, .int .i64 U.next]) w' ∧ (dn 2 = false → w'.heap[w.heap.size + 1]? = some zeroS) ∧ (dn 2 = true → w'.heap[w.heap.size + 1]? = some (.cells #[.slice b5 U.dk.blocks.length e5, .slice l5 U.dk.late.length m5, .slice i5 U.idx.length j5, .int .i64 U.next] 30 (0, 0))) ∧ (dn 3 = false → w'.heap[w.heap.size + 2]? = some zeroR) ∧ (dn 3 = true → w'.heap[w.heap.size + 2]? = some (.cells (repA f) 37 (0, 0)))) (by kernel_rfl) (by kernel_rfl) ⟨st_pl (st_ex _), st_pl (st_ex _), st_pl ((fun _ _ _ _ _ => trivial)), st_pl ((fun _ _ _ _ _ => trivial)), trivial⟩ ⟨⟨(fun w => GrowBut.refl _ w), ⟨.inr (fun _ _ _ _ _ h => h), .inr (fun _ _ _ _ _ h => h), .inl (by kernel_rfl), .inl (by kernel_rfl), trivial⟩⟩, ⟨(fun w => GrowBut.refl _ w), ⟨.inr (fun _ _ _ _ _ h => h), .inr (fun _ _ _ _ _ h => h), .inr ((fun _ _ _ _ _ _ => trivial)), .inl (by kernel_rfl), trivial⟩⟩, trivial⟩ ⟨(fun h => by cases h), (fun h => by cases h), fun _ _ _ _ h => h, fun _ _ _ _ h => h, trivial⟩ ⟨gw.drew, hs1, hr1, hT1, fun _ => hz1, (fun h => by cases h), fun _ => hq1, (fun h => by cases h)⟩ ?_ ?_
   ·refine ⟨?_, ?_, ?_, ?_, trivial⟩
    ·refine needv_plain rfl (fun a w' dn hr hg hin => ?_)
     have e1 : a.eval (.tmp 1) = .pointer (some ⟨w.heap.size, 0, none⟩) := insw_ext hin 1 (by kernel_rfl)
     have z0 := box_cell hg.2.1 0 _ rfl
     have z1 := box_cell hg.2.1 1 _ rfl
     have z2 := box_cell hg.2.1 2 _ rfl
     have z3 := box_cell hg.2.1 3 _ rfl
     refine uponw_val ?_ hg rfl
     clear hin hg hr
     obtain ⟨ek, ef⟩ := evs a
     generalize a.eval = ev at *
     go_simp
     all_goals first | omega | (intro _; omega) | go_arith
    ·refine needv_plain rfl (fun a w' dn hr hg hin => ?_)
     have e4 : a.eval (.tmp 4) = .pointer (some ⟨w.heap.size + 1 + 1 + 1, 0, none⟩) := insw_ext hin 4 (by kernel_rfl)
     have z0 := box_cell hg.2.2.1 0 _ rfl
     have z1 := box_cell hg.2.2.1 1 _ rfl
     have z2 := box_cell hg.2.2.1 2 _ rfl
     have z3 := box_cell hg.2.2.1 3 _ rfl
     have z4 := box_cell hg.2.2.1 4 _ rfl
     have z5 := box_cell hg.2.2.1 5 _ rfl
     refine uponw_val ?_ hg rfl
     clear hin hg hr
     obtain ⟨ek, ef⟩ := evs a
     generalize a.eval = ev at *
     go_simp
     all_goals first | omega | (intro _; omega) | go_arith
    ·refine needv_plain rfl (fun a w' dn hr hg hin => ?_)
     have e2 : a.eval (.tmp 2) = .pointer (some ⟨w.heap.size + 1, 0, none⟩) := insw_ext hin 2 (by kernel_rfl)
     have e23 : a.eval (.tmp 23) = _ := insw_on hin 0 (by kernel_rfl)
     have hh := hg.2.2.2.2.1 hr.un
     obtain ⟨hq1, hq2⟩ := box_put hh (.slice b5 U.dk.blocks.length e5) (.slice l5 U.dk.late.length m5) (.slice i5 U.idx.length j5) (.int .i64 U.next)
     obtain ⟨y0, y1, y2, y3⟩ := box4 hh rfl rfl rfl rfl
     obtain ⟨f0, f1, f2, f3⟩ := boxf4 hh
     have cs := cell_set
     refine uponw_skip (w' := _) ?_ hq2 ⟨hq2.grow hg.1 (by omega), (hq2.block _ (heap_lt hg.2.1) (by omega)).trans hg.2.1, (hq2.block _ (heap_lt hg.2.2.1) (by omega)).trans hg.2.2.1, hg.2.2.2.1.but hq2 (upon_not (fun b h => by have := hS b h; omega) (by omega)), (fun h => by simp [upd] at h), fun _ => hq1, fun h => (hq2.block _ (heap_lt (hg.2.2.2.2.2.2.1 h)) (by omega)).trans (hg.2.2.2.2.2.2.1 h), fun h => (hq2.block _ (heap_lt (hg.2.2.2.2.2.2.2 h)) (by omega)).trans (hg.2.2.2.2.2.2.2 h)⟩ trivial
     clear hin hg hr hq1 hq2 hh
     obtain ⟨ek, ef⟩ := evs a
     generalize a.eval = ev at *
     go_simp
     all_goals first | omega | (intro _; omega) | go_arith
    ·refine needv_plain rfl (fun a w' dn hr hg hin => ?_)
     have e3 : a.eval (.tmp 3) = .pointer (some ⟨w.heap.size + 1 + 1, 0, none⟩) := insw_ext hin 3 (by kernel_rfl)
     have e24 : a.eval (.tmp 24) = _ := insw_on hin 1 (by kernel_rfl)
     have hh := hg.2.2.2.2.2.2.1 hr.un
     obtain ⟨hq1, hq2⟩ := box_put6 hh (.int .i64 (f 0)) (.int .i64 (f 1)) (.int .i64 (f 2)) (.int .i64 (f 3)) (.int .i64 (f 4)) (.int .i64 (f 5))
     obtain ⟨y0, y1, y2, y3, y4⟩ := box5 hh rfl rfl rfl rfl rfl
     have y5 := box_cell hh 5 _ rfl
     obtain ⟨f0, f1, f2, f3⟩ := boxf4 hh
     have f4 := box_frozen hh 4
     have f5 := box_frozen hh 5
     have cs := cell_set
     refine uponw_skip (w' := _) ?_ hq2 ⟨hq2.grow hg.1 (by omega), (hq2.block _ (heap_lt hg.2.1) (by omega)).trans hg.2.1, (hq2.block _ (heap_lt hg.2.2.1) (by omega)).trans hg.2.2.1, hg.2.2.2.1.but hq2 (upon_not (fun b h => by have := hS b h; omega) (by omega)), fun h => (hq2.block _ (heap_lt (hg.2.2.2.2.1 h)) (by omega)).trans (hg.2.2.2.2.1 h), fun h => (hq2.block _ (heap_lt (hg.2.2.2.2.2.1 h)) (by omega)).trans (hg.2.2.2.2.2.1 h), (fun h => by simp [upd] at h), fun _ => hq1⟩ trivial
     clear hin hg hr hq1 hq2 hh
     obtain ⟨ek, ef⟩ := evs a
     generalize a.eval = ev at *
     go_simp
     all_goals first | omega | (intro _; omega) | go_arith
   ·intro vs w' dn hdn hg ht
    obtain ⟨q23, q24, qo2, qo3, -⟩ := ht
    have r23 : vs 0 = .agg #[.slice b5 U.dk.blocks.length e5, .slice l5 U.dk.late.length m5, .slice i5 U.idx.length j5, .int .i64 U.next] := q23
    have r24 : vs 1 = .agg (repA f) := q24
    replace qo2 : ((fun _ _ => True)) (vs 2) w' := qo2
    replace qo3 : ((fun _ _ => True)) (vs 3) w' := qo3
    clear q23 q24
    simp only [putAll, Act.put, List.setIfInBounds_toArray, List.set_cons_zero, List.set_cons_succ, r23, r24]
    clear r23 r24
    have hz := hg.2.2.2.2.2.1 (hdn 2 (by decide))
    have hq := hg.2.2.2.2.2.2.2 (hdn 3 (by decide))
    obtain ⟨y0, y1, y2, y3⟩ := box4 hz rfl rfl rfl rfl
    obtain ⟨x0, x1, x2, x3, x4⟩ := box5 hq rfl rfl rfl rfl rfl
    have x5 := box_cell hq 5 _ rfl
    have gE := hg.1
    have hE := hg.2.2.2.1.mono (upon_le (B := w.heap.size) (by omega))
    clear qo2 qo3 hdn hg hz hq hs1 hT1 hz1 hq1 hr1 gw
    go_wp2_with fail
    exact bodyPost_ret (v := .tuple #[.agg #[.slice b5 U.dk.blocks.length e5, .slice l5 U.dk.late.length m5, .slice i5 U.idx.length j5, .int .i64 U.next], .agg (repA f)]) (by simp [results, Try.results7, go_sem, x0, x1, x2, x3, x4, x5, y0, y1, y2, y3]) rfl ⟨_, rfl, hE, gE⟩
theorem scOne : ScOneC := fun S s v w hS hs hA => pscOne_any S s v w hS hs hA
theorem scAll : ScAllC := fun S s v w hS hs hA => pscAll_any S s v w hS hs hA
theorem scLook : ScLookC := fun d v w hd hF => pscLook_any d v w hd hF
end Go.Proofs.Ytlickojpmffmiac
