import Derived.Test.YtlickojpmffmiacInv
set_option maxHeartbeats 8000000
namespace Go.Proofs.Ytlickojpmffmiac
set_option maxRecDepth 100000
open Go.RowKit
open Plain Reg
def dA : Dd := ⟨1, 7, 0, []⟩
def sA : St := ⟨((newS.doS dA).st.dk.spoil 0 2 1), (newS.doS dA).st.idx, (newS.doS dA).st.next⟩
theorem sA_next : (newS.doS dA).st.next = 0 := by decide +kernel
theorem sA_how : sA.dk.how sA.next = 2 := by decide +kernel
theorem sA_one : sA.scrub.next = 1 ∧ sA.scrub.idx.length = 1 := by decide +kernel
theorem sA_all : wasN sA 6 2 = 1 ∧ wasN sA 6 0 = 5 := by decide +kernel
theorem sA_six : (scrubN 6 sA).next = 0 ∧ cnt (scrubN 6 sA).dk 6 1 = 1 := by decide +kernel
theorem sA_at : sA.At := by
 have h := do_ok (d := dA) newS_ok
 exact ⟨⟨h.disk.spoil 0 2 1, h.right, h.six⟩, by show (0 : Int) ≤ (newS.doS dA).st.next; rw [sA_next]; omega, by show (newS.doS dA).st.next < 6; rw [sA_next]; omega⟩
theorem field_rep (a b c d e f : Value) (w : World) : (Instr.field 37 (.agg #[a, b, c, d, e, f]) 0).run Try.prog w = .ok (.agg #[a, b, c, d, e, f]) w := by
 kernel_rfl
theorem index_rep (a b c d e f : Value) (w : World) : (Instr.index 35 (.agg #[a, b, c, d, e, f]) (.int .i64 1)).run Try.prog w = .ok b w := by
 kernel_rfl
theorem scalive_of (SO : ScOneC) (SA : ScAllC) (SL : ScLookC) : ScAliveC := by
 intro w
 go_enter Try.func5, Try.ntmps5
 go_wp2_with fail
 refine (rnewS_any (fun b => b < w.heap.size) w (fun b h => h)).mono ?_
 rintro r w1 ⟨v1, rfl, h1, g1⟩
 obtain ⟨b1, e1, l1, m1, i1, j1, hv1, -, -, -⟩ := h1.form
 subst hv1
 have h1n := h1.any.now
 have HN0 : Hid (newS.Ok 0) := newS_ok
 clear h1
 go_wp2_with fail
 refine (rdoS_any (fun b => b < w1.heap.size) 0 newS dA _ none 0 w1 (fun b h => h) h1n (.inl ⟨none, 0, rfl, rfl, fun _ => rfl⟩) HN0.out (by omega) (by decide)).mono ?_
 have HB : Hid (sA = ⟨((newS.doS dA).st.dk.spoil 0 2 1), (newS.doS dA).st.idx, (newS.doS dA).st.next⟩) := rfl
 have HBO : Hid ((newS.doS dA).st.Ok 0) := do_ok newS_ok
 generalize newS.doS dA = B at *
 rintro r w2 ⟨v2, rfl, h2, g2⟩
 obtain ⟨b2, e2, l2, m2, i2, j2, hv2, -, -, -⟩ := h2.form
 subst hv2
 have g3 := grow_alloc w2 (.cells #[.slice b2 B.st.dk.blocks.length e2, .slice l2 B.st.dk.late.length m2, .slice i2 B.st.idx.length j2, .int .i64 B.st.next] 30)
 have hY3 := heap_new w2 #[.slice b2 B.st.dk.blocks.length e2, .slice l2 B.st.dk.late.length m2, .slice i2 B.st.idx.length j2, .int .i64 B.st.next] 30
 have hS3 := h2.any.now.grow g3
 have gw3 := g1.trans (g2.trans g3)
 have HG2 : Hid (w.heap.size ≤ w2.heap.size) := (g1.trans g2).size
 clear h1n h2 g1 g2 g3
 obtain ⟨y0, y1⟩ := box2 hY3 rfl rfl
 go_wp2_with fail
 obtain ⟨G, hG⟩ : ∃ G, G = w2.heap.size := ⟨_, rfl⟩
 rw [← hG] at hY3 hS3 y0 y1 HG2 ⊢
 clear hG
 generalize World.alloc w2 _ = W3 at *
 obtain ⟨vb, vl, vi, hv0, hb3, hl3, hi3⟩ := hS3
 cases hv0
 refine (rspoil_c (fun b => b < G) 0 B.st.dk 0 2 1 _ W3 (fun b h => Nat.lt_trans h (heap_lt hY3)) ⟨_, _, rfl, hb3, hl3⟩ HBO.out.disk).mono ?_
 obtain ⟨E, hE⟩ : ∃ E, E = B.st.dk.spoil 0 2 1 := ⟨_, rfl⟩
 rw [← hE] at HB ⊢
 clear hE
 rintro r w4 ⟨v4, rfl, h4, g4⟩
 obtain ⟨b4, e4, l4, m4, rfl, h4b, h4l⟩ := h4.form
 have hY4 := (g4.block _ (heap_lt hY3)).trans hY3
 have HGW : Hid (G < W3.heap.size) := heap_lt hY3
 have hi4 := hi3.grow g4
 have gw4 := gw3.trans g4
 have hnG : ¬ Upon (fun b => b < G) W3.heap.size G := upon_not (fun b h => h) HGW.out
 obtain ⟨ht1, ht2⟩ := box_twoOf hY4 (.slice b4 E.blocks.length e4) (.slice l4 E.late.length m4)
 have hS5 : StoreS (fun _ => True) sA (.agg #[.slice b4 E.blocks.length e4, .slice l4 E.late.length m4, .slice i2 B.st.idx.length j2, .int .i64 B.st.next]) ((w4.setCell ⟨G, 0, none⟩ (.slice b4 E.blocks.length e4)).setCell ⟨G, 1, none⟩ (.slice l4 E.late.length m4)) := by
  rw [HB.out]
  exact ⟨_, _, _, rfl, (h4b.but ht2 hnG).mono (fun _ _ => trivial), (h4l.but ht2 hnG).mono (fun _ _ => trivial), (hi4.but ht2 (fun h => Nat.lt_irrefl _ h)).mono (fun _ _ => trivial)⟩
 have gw5 := ht2.grow gw4 HG2.out
 obtain ⟨x0, x1⟩ := box2 hY4 rfl rfl
 have f0 := box_frozen hY4 0
 have f1 := box_frozen hY4 1
 obtain ⟨y0, y1, y2, y3⟩ := box4 ht1 rfl rfl rfl rfl
 have cs := cell_set
 clear hb3 hl3 hi3 h4 h4b h4l hi4 g4 hY3 hY4 gw3 gw4 ht2 hnG HGW
 go_wp2_with fail
 clear x0 x1 f0 f1 cs
 generalize World.setCell (World.setCell w4 _ _) _ _ = W5 at *
 refine (SO (fun b => b < W5.heap.size) sA _ W5 (fun b h => h) hS5.now sA_at).mono ?_
 rw [sA_how]
 have h11 := sA_one
 generalize sA.scrub = X at *
 rintro r w6 ⟨v6, rfl, h6, g6⟩
 obtain ⟨b6, e6, l6, m6, i6, j6, hv6, -, -, -⟩ := h6.form
 rw [h11.1, h11.2] at hv6
 subst hv6
 have g7 := grow_alloc w6 (.cells #[.slice b6 X.dk.blocks.length e6, .slice l6 X.dk.late.length m6, .slice i6 1 j6, .int .i64 1] 30)
 have hX7 := heap_new w6 #[.slice b6 X.dk.blocks.length e6, .slice l6 X.dk.late.length m6, .slice i6 1 j6, .int .i64 1] 30
 have g67 := g6.trans g7
 have hY7 := (g67.block _ (heap_lt ht1)).trans ht1
 have hS7 := hS5.grow g67
 have gw7 := gw5.trans g67
 clear y0 y1 y2 y3 h6 g6 g7 g67 hS5 gw5 ht1 h11
 obtain ⟨y0, y1, y2, y3⟩ := box4 hY7 rfl rfl rfl rfl
 go_wp2_with fail
 obtain ⟨A, hA⟩ : ∃ A, A = w6.heap.size := ⟨_, rfl⟩
 rw [← hA] at hX7 ⊢
 clear hA
 generalize World.alloc w6 _ = W7 at *
 refine (SA (fun b => b < W7.heap.size) sA _ W7 (fun b h => h) hS7.now sA_at).mono ?_
 have HA6 : Hid ((scrubN 6 sA).At) := scrubN_at sA_at 6
 have h12 := sA_all
 have h13 := sA_six
 generalize scrubN 6 sA = Y at *
 unfold repA
 rw [h12.1, h12.2]
 rintro r w8 ⟨v8, rfl, h8, g8⟩
 obtain ⟨b8, e8, l8, m8, i8, j8, hv8, hb8, hl8, -⟩ := h8.form
 rw [h13.1] at hv8
 subst hv8
 have g9 := grow_alloc2 w8 (.cells #[.slice b8 Y.dk.blocks.length e8, .slice l8 Y.dk.late.length m8, .slice i8 Y.idx.length j8, .int .i64 0] 30) (.cells #[.int .i64 5, .int .i64 (wasN sA 6 1), .int .i64 1, .int .i64 (wasN sA 6 3), .int .i64 (wasN sA 6 4), .int .i64 (wasN sA 6 5)] 37)
 have hZ9 := ((grow_alloc (w8.alloc (.cells #[.slice b8 Y.dk.blocks.length e8, .slice l8 Y.dk.late.length m8, .slice i8 Y.idx.length j8, .int .i64 0] 30)) (.cells #[.int .i64 5, .int .i64 (wasN sA 6 1), .int .i64 1, .int .i64 (wasN sA 6 3), .int .i64 (wasN sA 6 4), .int .i64 (wasN sA 6 5)] 37)).block _ (heap_lt (heap_new w8 #[.slice b8 Y.dk.blocks.length e8, .slice l8 Y.dk.late.length m8, .slice i8 Y.idx.length j8, .int .i64 0] 30))).trans (heap_new w8 #[.slice b8 Y.dk.blocks.length e8, .slice l8 Y.dk.late.length m8, .slice i8 Y.idx.length j8, .int .i64 0] 30)
 have hR9 := heap_new (w8.alloc (.cells #[.slice b8 Y.dk.blocks.length e8, .slice l8 Y.dk.late.length m8, .slice i8 Y.idx.length j8, .int .i64 0] 30)) #[.int .i64 5, .int .i64 (wasN sA 6 1), .int .i64 1, .int .i64 (wasN sA 6 3), .int .i64 (wasN sA 6 4), .int .i64 (wasN sA 6 5)] 37
 rw [World.size_alloc] at hR9
 have g89 := g8.trans g9
 have hX9 := (g89.block _ (heap_lt hX7)).trans hX7
 have hbY := (hb8.grow g9).p
 have hlY := (hl8.grow g9).p
 have gw9 := gw7.trans g89
 clear y0 y1 y2 y3 h8 hb8 hl8 g8 g9 g89 hS7 hY7 hX7 gw7 h12
 have x2 := box_cell hX9 2 _ rfl
 have x3 := box_cell hX9 3 _ rfl
 obtain ⟨z0, z1⟩ := box2 hZ9 rfl rfl
 have z3 := box_cell hZ9 3 _ rfl
 have r0 := box_cell hR9 0 _ rfl
 have r2 := box_cell hR9 2 _ rfl
 go_wp2_with fail
 generalize World.alloc (World.alloc w8 _) _ = W9 at *
 refine (SL Y.dk _ W9 ⟨_, _, rfl, hbY, hlY⟩ HA6.out.ok.disk).mono ?_
 unfold repA
 rw [h13.2]
 rintro r wE ⟨rfl, gE⟩
 have gwE := gw9.trans gE
 clear x2 x3 z0 z1 z3 r0 r2 hX9 hZ9 hR9 hbY hlY gE gw9
 have hfr := field_rep
 have hir := index_rep
 go_wp2_with fail
 go_ret
 exact ⟨rfl, gwE⟩
end Go.Proofs.Ytlickojpmffmiac
