import Derived.Test.YtlickojpmffmiacRStore3
set_option maxHeartbeats 8000000
namespace Go.Proofs.Ytlickojpmffmiac
set_option maxRecDepth 100000
open Go.RowKit
open Plain Reg
theorem how_bd (d : Dk) (p : Int) : 0 ≤ d.how p ∧ d.how p < 6 := by
 unfold Dk.how
 split
 ·omega
 ·split
  ·split <;> omega
  ·split
   ·omega
   ·split
    ·omega
    ·split <;> omega
/-- How many of the first pairs are so. -/
def cnt (d : Dk) : Nat → Int → Int
 | 0, _ => 0
 | k + 1, i => cnt d k i + (if d.how (k : Int) = i then 1 else 0)
theorem cnt_bd (d : Dk) : ∀ (k : Nat) (i : Int), 0 ≤ cnt d k i ∧ cnt d k i ≤ (k : Int)
 | 0, _ => by simp [cnt]
 | k + 1, i => by
  have := cnt_bd d k i
  unfold cnt
  split <;> omega
abbrev repA (f : Int → Int) : Array Value := #[.int .i64 (f 0), .int .i64 (f 1), .int .i64 (f 2), .int .i64 (f 3), .int .i64 (f 4), .int .i64 (f 5)]
abbrev zeroR : Obj := .cells #[.int .i64 0, .int .i64 0, .int .i64 0, .int .i64 0, .int .i64 0, .int .i64 0] 37 (0, 0)
theorem box_put6 {w : World} {g : Nat} {T : TypeId} {f} {c0 c1 c2 c3 c4 c5 : Value} (h : w.heap[g]? = some (.cells #[c0, c1, c2, c3, c4, c5] T f)) (x0 x1 x2 x3 x4 x5 : Value) :
  ((((((w.setCell ⟨g, 0, none⟩ x0).setCell ⟨g, 1, none⟩ x1).setCell ⟨g, 2, none⟩ x2).setCell ⟨g, 3, none⟩ x3).setCell ⟨g, 4, none⟩ x4).setCell ⟨g, 5, none⟩ x5).heap[g]? = some (.cells #[x0, x1, x2, x3, x4, x5] T f) ∧ GrowBut g w ((((((w.setCell ⟨g, 0, none⟩ x0).setCell ⟨g, 1, none⟩ x1).setCell ⟨g, 2, none⟩ x2).setCell ⟨g, 3, none⟩ x3).setCell ⟨g, 4, none⟩ x4).setCell ⟨g, 5, none⟩ x5) :=
 ⟨heap_set (heap_set (heap_set (heap_set (heap_set (heap_set h 0 x0) 1 x1) 2 x2) 3 x3) 4 x4) 5 x5, ((((((GrowBut.refl g w).set _ _ _).set _ _ _).set _ _ _).set _ _ _).set _ _ _).set _ _ _⟩
theorem rreport_any (n : Nat) (d : Dk) (v : Value) (w : World) (hd : DiskP d v w) (hF : d.Fine n) (hn : n ≤ 900) :
  Calls Try.prog 30 #[v] w fun r w' => r = .returned (.agg (repA (cnt d 6))) ∧ Grow w w' := by
 obtain ⟨vb, vl, rfl, hb, hl⟩ := hd
 obtain ⟨ab, cb, rfl⟩ := hb.form
 obtain ⟨al, cl, rfl⟩ := hl.form
 have g0 := (grow_alloc2 w (.cells #[.slice ab d.blocks.length cb, .slice al d.late.length cl] 27) zeroR).trans (grow_alloc _ zeroR)
 have hd0 := heap_new w #[.slice ab d.blocks.length cb, .slice al d.late.length cl] 27
 have hz0 := heap_new (w.alloc (.cells #[.slice ab d.blocks.length cb, .slice al d.late.length cl] 27)) #[.int .i64 0, .int .i64 0, .int .i64 0, .int .i64 0, .int .i64 0, .int .i64 0] 37
 have hr0 := heap_new ((w.alloc (.cells #[.slice ab d.blocks.length cb, .slice al d.late.length cl] 27)).alloc zeroR) #[.int .i64 0, .int .i64 0, .int .i64 0, .int .i64 0, .int .i64 0, .int .i64 0] 37
 have hd1 := ((grow_alloc2 (w.alloc (.cells #[.slice ab d.blocks.length cb, .slice al d.late.length cl] 27)) zeroR zeroR).block _ (heap_lt hd0)).trans hd0
 have hz1 := ((grow_alloc ((w.alloc (.cells #[.slice ab d.blocks.length cb, .slice al d.late.length cl] 27)).alloc zeroR) zeroR).block _ (heap_lt hz0)).trans hz0
 rw [World.size_alloc] at hz1
 rw [World.size_alloc, World.size_alloc] at hr0
 clear hd0 hz0
 have hsm := hF.small (by omega)
 go_enter Try.func30, Try.ntmps30
 go_wp2_with fail
 obtain ⟨W, hW⟩ : ∃ W, W = ((w.alloc (.cells #[.slice ab d.blocks.length cb, .slice al d.late.length cl] 27)).alloc zeroR).alloc zeroR := ⟨_, rfl⟩
 rw [← hW] at g0 hd1 hz1 hr0 ⊢
 clear hW
 go_loopw [8] (fun i wr => ∃ k : Nat, k ≤ 6 ∧ i = .int .i64 (k : Int) ∧ Grow w wr ∧ wr.heap[w.heap.size]? = some (.cells #[.slice ab d.blocks.length cb, .slice al d.late.length cl] 27 (0, 0)) ∧ wr.heap[w.heap.size + 1]? = some zeroR ∧ wr.heap[w.heap.size + 2]? = some (.cells #[.int .i64 (cnt d k 0), .int .i64 (cnt d k 1), .int .i64 (cnt d k 2), .int .i64 (cnt d k 3), .int .i64 (cnt d k 4), .int .i64 (cnt d k 5)] 37 (0, 0))) (fun i _ => 6 - (intOf i).toNat)
 case atStart => exact ⟨0, by omega, rfl, g0, hd1, hz1, hr0⟩
 case round =>
  clear g0 hd1 hz1 hr0
  obtain ⟨k, hk, rfl, gw, hd1, hz1, hr1⟩ := hrel
  by_cases hlt : k < 6
  ·obtain ⟨y0, y1⟩ := box2 hd1 rfl rfl
   go_wp2_with fail
   refine (rlook_c d (k : Int) _ wr ⟨_, _, rfl, hb.grow gw, hl.grow gw⟩ hsm.1 hsm.2).mono ?_
   rintro r w1 ⟨dv, rfl, ho, g1⟩
   obtain ⟨a9, c9, rfl⟩ := own_slice ho
   have g2 := grow_alloc w1 (.cells #[.int .i64 (d.tell (k : Int)).kind, .int .i64 (d.tell (k : Int)).key, .int .i64 (d.tell (k : Int)).ver, .slice a9 (d.tell (k : Int)).data.length c9] 66)
   have gw2 := (gw.trans g1).trans g2
   have hd2 := (g2.block _ (heap_lt ((g1.block _ (heap_lt hd1)).trans hd1))).trans ((g1.block _ (heap_lt hd1)).trans hd1)
   have hz2 := (g2.block _ (heap_lt ((g1.block _ (heap_lt hz1)).trans hz1))).trans ((g1.block _ (heap_lt hz1)).trans hz1)
   have hr2 := (g2.block _ (heap_lt ((g1.block _ (heap_lt hr1)).trans hr1))).trans ((g1.block _ (heap_lt hr1)).trans hr1)
   have HC : Hid (cnt d (k + 1) 0 = cnt d k 0 + (if d.how (k : Int) = 0 then 1 else 0) ∧ cnt d (k + 1) 1 = cnt d k 1 + (if d.how (k : Int) = 1 then 1 else 0) ∧ cnt d (k + 1) 2 = cnt d k 2 + (if d.how (k : Int) = 2 then 1 else 0) ∧ cnt d (k + 1) 3 = cnt d k 3 + (if d.how (k : Int) = 3 then 1 else 0) ∧ cnt d (k + 1) 4 = cnt d k 4 + (if d.how (k : Int) = 4 then 1 else 0) ∧ cnt d (k + 1) 5 = cnt d k 5 + (if d.how (k : Int) = 5 then 1 else 0)) := ⟨rfl, rfl, rfl, rfl, rfl, rfl⟩
   have hb0 := cnt_bd d k 0
   have hb1 := cnt_bd d k 1
   have hb2 := cnt_bd d k 2
   have hb3' := cnt_bd d k 3
   have hb4 := cnt_bd d k 4
   have hb5 := cnt_bd d k 5
   have hHb := how_bd d (k : Int)
   generalize d.tell (k : Int) = tl at *
   generalize d.how (k : Int) = H at *
   generalize cnt d k 0 = c0 at *
   generalize cnt d k 1 = c1 at *
   generalize cnt d k 2 = c2 at *
   generalize cnt d k 3 = c3 at *
   generalize cnt d k 4 = c4 at *
   generalize cnt d k 5 = c5 at *
   clear y0 y1 gw hd1 hz1 hr1 g1 ho
   have hH6 : H = 0 ∨ H = 1 ∨ H = 2 ∨ H = 3 ∨ H = 4 ∨ H = 5 := by omega
   clear hHb g2
   rcases hH6 with rfl | rfl | rfl | rfl | rfl | rfl
   ·have y0 := box_cell hr2 0 _ rfl
    have f0 := box_frozen hr2 0
    have hr3 : ((w1.alloc (.cells #[.int .i64 tl.kind, .int .i64 tl.key, .int .i64 tl.ver, .slice a9 tl.data.length c9] 66)).setCell ⟨w.heap.size + 2, 0, none⟩ (.int .i64 (c0 + 1))).heap[w.heap.size + 2]? = some (.cells #[.int .i64 (c0 + 1), .int .i64 (c1), .int .i64 (c2), .int .i64 (c3), .int .i64 (c4), .int .i64 (c5)] 37 (0, 0)) := heap_set hr2 0 _
    have hb3 := (GrowBut.refl (w.heap.size + 2) (w1.alloc (.cells #[.int .i64 tl.kind, .int .i64 tl.key, .int .i64 tl.ver, .slice a9 tl.data.length c9] 66))).set 0 none (.int .i64 (c0 + 1))
    have hd3 := (hb3.block _ (heap_lt hd2) (by omega)).trans hd2
    have hz3 := (hb3.block _ (heap_lt hz2) (by omega)).trans hz2
    have gw3 := hb3.grow gw2 (by omega)
    obtain ⟨n0, n1, n2, n3, n4, n5⟩ := HC.out
    simp only [Int.reduceEq, if_true, if_false, Int.add_zero] at n0 n1 n2 n3 n4 n5
    have HN : Hid _ := And.intro n0 (And.intro n1 (And.intro n2 (And.intro n3 (And.intro n4 n5))))
    clear n0 n1 n2 n3 n4 n5 HC hr2 hd2 hz2 gw2 hb3
    go_wp2_with fail
    go_roundw
    case rel => exact ⟨k + 1, by omega, by go_num, gw3, hd3, hz3, by obtain ⟨n0, n1, n2, n3, n4, n5⟩ := HN.out; rw [n0, n1, n2, n3, n4, n5]; exact hr3⟩
    case measure => simp [intOf]; omega
   ·have y0 := box_cell hr2 1 _ rfl
    have f0 := box_frozen hr2 1
    have hr3 : ((w1.alloc (.cells #[.int .i64 tl.kind, .int .i64 tl.key, .int .i64 tl.ver, .slice a9 tl.data.length c9] 66)).setCell ⟨w.heap.size + 2, 1, none⟩ (.int .i64 (c1 + 1))).heap[w.heap.size + 2]? = some (.cells #[.int .i64 (c0), .int .i64 (c1 + 1), .int .i64 (c2), .int .i64 (c3), .int .i64 (c4), .int .i64 (c5)] 37 (0, 0)) := heap_set hr2 1 _
    have hb3 := (GrowBut.refl (w.heap.size + 2) (w1.alloc (.cells #[.int .i64 tl.kind, .int .i64 tl.key, .int .i64 tl.ver, .slice a9 tl.data.length c9] 66))).set 1 none (.int .i64 (c1 + 1))
    have hd3 := (hb3.block _ (heap_lt hd2) (by omega)).trans hd2
    have hz3 := (hb3.block _ (heap_lt hz2) (by omega)).trans hz2
    have gw3 := hb3.grow gw2 (by omega)
    obtain ⟨n0, n1, n2, n3, n4, n5⟩ := HC.out
    simp only [Int.reduceEq, if_true, if_false, Int.add_zero] at n0 n1 n2 n3 n4 n5
    have HN : Hid _ := And.intro n0 (And.intro n1 (And.intro n2 (And.intro n3 (And.intro n4 n5))))
    clear n0 n1 n2 n3 n4 n5 HC hr2 hd2 hz2 gw2 hb3
    go_wp2_with fail
    go_roundw
    case rel => exact ⟨k + 1, by omega, by go_num, gw3, hd3, hz3, by obtain ⟨n0, n1, n2, n3, n4, n5⟩ := HN.out; rw [n0, n1, n2, n3, n4, n5]; exact hr3⟩
    case measure => simp [intOf]; omega
   ·have y0 := box_cell hr2 2 _ rfl
    have f0 := box_frozen hr2 2
    have hr3 : ((w1.alloc (.cells #[.int .i64 tl.kind, .int .i64 tl.key, .int .i64 tl.ver, .slice a9 tl.data.length c9] 66)).setCell ⟨w.heap.size + 2, 2, none⟩ (.int .i64 (c2 + 1))).heap[w.heap.size + 2]? = some (.cells #[.int .i64 (c0), .int .i64 (c1), .int .i64 (c2 + 1), .int .i64 (c3), .int .i64 (c4), .int .i64 (c5)] 37 (0, 0)) := heap_set hr2 2 _
    have hb3 := (GrowBut.refl (w.heap.size + 2) (w1.alloc (.cells #[.int .i64 tl.kind, .int .i64 tl.key, .int .i64 tl.ver, .slice a9 tl.data.length c9] 66))).set 2 none (.int .i64 (c2 + 1))
    have hd3 := (hb3.block _ (heap_lt hd2) (by omega)).trans hd2
    have hz3 := (hb3.block _ (heap_lt hz2) (by omega)).trans hz2
    have gw3 := hb3.grow gw2 (by omega)
    obtain ⟨n0, n1, n2, n3, n4, n5⟩ := HC.out
    simp only [Int.reduceEq, if_true, if_false, Int.add_zero] at n0 n1 n2 n3 n4 n5
    have HN : Hid _ := And.intro n0 (And.intro n1 (And.intro n2 (And.intro n3 (And.intro n4 n5))))
    clear n0 n1 n2 n3 n4 n5 HC hr2 hd2 hz2 gw2 hb3
    go_wp2_with fail
    go_roundw
    case rel => exact ⟨k + 1, by omega, by go_num, gw3, hd3, hz3, by obtain ⟨n0, n1, n2, n3, n4, n5⟩ := HN.out; rw [n0, n1, n2, n3, n4, n5]; exact hr3⟩
    case measure => simp [intOf]; omega
   ·have y0 := box_cell hr2 3 _ rfl
    have f0 := box_frozen hr2 3
    have hr3 : ((w1.alloc (.cells #[.int .i64 tl.kind, .int .i64 tl.key, .int .i64 tl.ver, .slice a9 tl.data.length c9] 66)).setCell ⟨w.heap.size + 2, 3, none⟩ (.int .i64 (c3 + 1))).heap[w.heap.size + 2]? = some (.cells #[.int .i64 (c0), .int .i64 (c1), .int .i64 (c2), .int .i64 (c3 + 1), .int .i64 (c4), .int .i64 (c5)] 37 (0, 0)) := heap_set hr2 3 _
    have hb3 := (GrowBut.refl (w.heap.size + 2) (w1.alloc (.cells #[.int .i64 tl.kind, .int .i64 tl.key, .int .i64 tl.ver, .slice a9 tl.data.length c9] 66))).set 3 none (.int .i64 (c3 + 1))
    have hd3 := (hb3.block _ (heap_lt hd2) (by omega)).trans hd2
    have hz3 := (hb3.block _ (heap_lt hz2) (by omega)).trans hz2
    have gw3 := hb3.grow gw2 (by omega)
    obtain ⟨n0, n1, n2, n3, n4, n5⟩ := HC.out
    simp only [Int.reduceEq, if_true, if_false, Int.add_zero] at n0 n1 n2 n3 n4 n5
    have HN : Hid _ := And.intro n0 (And.intro n1 (And.intro n2 (And.intro n3 (And.intro n4 n5))))
    clear n0 n1 n2 n3 n4 n5 HC hr2 hd2 hz2 gw2 hb3
    go_wp2_with fail
    go_roundw
    case rel => exact ⟨k + 1, by omega, by go_num, gw3, hd3, hz3, by obtain ⟨n0, n1, n2, n3, n4, n5⟩ := HN.out; rw [n0, n1, n2, n3, n4, n5]; exact hr3⟩
    case measure => simp [intOf]; omega
   ·have y0 := box_cell hr2 4 _ rfl
    have f0 := box_frozen hr2 4
    have hr3 : ((w1.alloc (.cells #[.int .i64 tl.kind, .int .i64 tl.key, .int .i64 tl.ver, .slice a9 tl.data.length c9] 66)).setCell ⟨w.heap.size + 2, 4, none⟩ (.int .i64 (c4 + 1))).heap[w.heap.size + 2]? = some (.cells #[.int .i64 (c0), .int .i64 (c1), .int .i64 (c2), .int .i64 (c3), .int .i64 (c4 + 1), .int .i64 (c5)] 37 (0, 0)) := heap_set hr2 4 _
    have hb3 := (GrowBut.refl (w.heap.size + 2) (w1.alloc (.cells #[.int .i64 tl.kind, .int .i64 tl.key, .int .i64 tl.ver, .slice a9 tl.data.length c9] 66))).set 4 none (.int .i64 (c4 + 1))
    have hd3 := (hb3.block _ (heap_lt hd2) (by omega)).trans hd2
    have hz3 := (hb3.block _ (heap_lt hz2) (by omega)).trans hz2
    have gw3 := hb3.grow gw2 (by omega)
    obtain ⟨n0, n1, n2, n3, n4, n5⟩ := HC.out
    simp only [Int.reduceEq, if_true, if_false, Int.add_zero] at n0 n1 n2 n3 n4 n5
    have HN : Hid _ := And.intro n0 (And.intro n1 (And.intro n2 (And.intro n3 (And.intro n4 n5))))
    clear n0 n1 n2 n3 n4 n5 HC hr2 hd2 hz2 gw2 hb3
    go_wp2_with fail
    go_roundw
    case rel => exact ⟨k + 1, by omega, by go_num, gw3, hd3, hz3, by obtain ⟨n0, n1, n2, n3, n4, n5⟩ := HN.out; rw [n0, n1, n2, n3, n4, n5]; exact hr3⟩
    case measure => simp [intOf]; omega
   ·have y0 := box_cell hr2 5 _ rfl
    have f0 := box_frozen hr2 5
    have hr3 : ((w1.alloc (.cells #[.int .i64 tl.kind, .int .i64 tl.key, .int .i64 tl.ver, .slice a9 tl.data.length c9] 66)).setCell ⟨w.heap.size + 2, 5, none⟩ (.int .i64 (c5 + 1))).heap[w.heap.size + 2]? = some (.cells #[.int .i64 (c0), .int .i64 (c1), .int .i64 (c2), .int .i64 (c3), .int .i64 (c4), .int .i64 (c5 + 1)] 37 (0, 0)) := heap_set hr2 5 _
    have hb3 := (GrowBut.refl (w.heap.size + 2) (w1.alloc (.cells #[.int .i64 tl.kind, .int .i64 tl.key, .int .i64 tl.ver, .slice a9 tl.data.length c9] 66))).set 5 none (.int .i64 (c5 + 1))
    have hd3 := (hb3.block _ (heap_lt hd2) (by omega)).trans hd2
    have hz3 := (hb3.block _ (heap_lt hz2) (by omega)).trans hz2
    have gw3 := hb3.grow gw2 (by omega)
    obtain ⟨n0, n1, n2, n3, n4, n5⟩ := HC.out
    simp only [Int.reduceEq, if_true, if_false, Int.add_zero] at n0 n1 n2 n3 n4 n5
    have HN : Hid _ := And.intro n0 (And.intro n1 (And.intro n2 (And.intro n3 (And.intro n4 n5))))
    clear n0 n1 n2 n3 n4 n5 HC hr2 hd2 hz2 gw2 hb3
    go_wp2_with fail
    go_roundw
    case rel => exact ⟨k + 1, by omega, by go_num, gw3, hd3, hz3, by obtain ⟨n0, n1, n2, n3, n4, n5⟩ := HN.out; rw [n0, n1, n2, n3, n4, n5]; exact hr3⟩
    case measure => simp [intOf]; omega
  ·have hk6 : k = 6 := by omega
   subst hk6
   clear hlt
   obtain ⟨y0, y1, y2, y3, y4⟩ := box5 hr1 rfl rfl rfl rfl rfl
   have y5 := box_cell hr1 5 _ rfl
   obtain ⟨z0, z1, z2, z3, z4⟩ := box5 hz1 rfl rfl rfl rfl rfl
   have z5 := box_cell hz1 5 _ rfl
   obtain ⟨f0, f1, f2, f3⟩ := boxf4 hz1
   have f4 := box_frozen hz1 4
   have f5 := box_frozen hz1 5
   have cs := cell_set
   obtain ⟨hq1, hq2⟩ := box_put6 hz1 (.int .i64 (cnt d 6 0)) (.int .i64 (cnt d 6 1)) (.int .i64 (cnt d 6 2)) (.int .i64 (cnt d 6 3)) (.int .i64 (cnt d 6 4)) (.int .i64 (cnt d 6 5))
   obtain ⟨x0, x1, x2, x3, x4⟩ := box5 hq1 rfl rfl rfl rfl rfl
   have x5 := box_cell hq1 5 _ rfl
   have gE := hq2.grow gw (by omega)
   clear hq1 hq2 hz1 hr1 gw
   go_wp2_with fail
   exact bodyPost_ret (v := .agg (repA (cnt d 6))) (by simp [results, Try.results30, go_sem, x0, x1, x2, x3, x4, x5]) rfl ⟨rfl, gE⟩
end Go.Proofs.Ytlickojpmffmiac
