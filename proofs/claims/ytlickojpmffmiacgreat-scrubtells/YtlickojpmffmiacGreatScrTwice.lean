import Derived.Test.YtlickojpmffmiacGreatInv
set_option maxHeartbeats 8000000
namespace Go.Proofs.YtlickojpmffmiacGreat
set_option maxRecDepth 100000
open Go.RowKit
open Plain Reg
theorem scrubTwice_of (AL : ScAliveC) (SA : ScAllC) (l : List Sp) (v : Value) (w : World) (hl : StepsS (fun b => b < w.heap.size) w v l) (hm : l.length ≤ 140737488355328) (hdl : ∀ x ∈ l, x.deed.data.length ≤ 140737488355328) :
  Calls Tryz.prog 4 #[v] w fun r w' => r = .returned (.bool true) ∧ Grow w w' := by
 obtain ⟨ao, cp, rfl⟩ := hl.form
 go_enter Tryz.func4, Tryz.ntmps4
 go_wp2_with fail
 refine (AL _).mono ?_
 rintro r w1 ⟨rfl, g1⟩
 go_wp2_with fail
 refine (rplay_any (fun b => b < w.heap.size) l _ w1 (fun b h => Nat.lt_of_lt_of_le h g1.size) (hl.grow g1) hm hdl).mono ?_
 have HAT : Hid ((playTo (l.take 100)).1.At) := play_at _ _ new_at'
 generalize playTo (l.take 100) = P at *
 obtain ⟨s, es, ns⟩ := P
 simp only at HAT ⊢
 rintro r w2 ⟨v2, ev, nv, rfl, hS2, he2, hn2, g2⟩
 obtain ⟨b1, e1, l1, m1, i1, j1, hv2, -, -, -⟩ := hS2.form
 subst hv2
 obtain ⟨ae, ce, rfl⟩ := own_slice he2
 obtain ⟨an, cn, rfl⟩ := own_slice hn2
 have g3 := grow_alloc w2 (.cells #[.slice b1 s.dk.blocks.length e1, .slice l1 s.dk.late.length m1, .slice i1 s.idx.length j1, .int .i64 s.next] 29)
 have hY3 := heap_new w2 #[.slice b1 s.dk.blocks.length e1, .slice l1 s.dk.late.length m1, .slice i1 s.idx.length j1, .int .i64 s.next] 29
 have hS3 := (hS2.grow g3).any
 have gw3 := g1.trans (g2.trans g3)
 clear g1 g2 g3 hS2 he2 hn2 hl
 obtain ⟨y0, y1, y2, y3⟩ := box4 hY3 rfl rfl rfl rfl
 go_wp2_with fail
 generalize World.alloc w2 _ = W3 at *
 refine (SA (fun b => b < W3.heap.size) s _ W3 (fun b h => h) hS3.now HAT.out).mono ?_
 have HA6 : Hid ((scrubN 6 s).At) := scrubN_at HAT.out 6
 have HTW : Hid _ := six_twice HAT.out
 generalize scrubN 6 s = X at *
 rintro r w4 ⟨v4, rfl, h4, g4⟩
 obtain ⟨b4, e4, l4, m4, i4, j4, hv4, -, -, -⟩ := h4.form
 subst hv4
 clear y0 y1 y2 y3 hY3 hS3
 have g5 := grow_alloc2 w4 (.cells #[.slice b4 X.dk.blocks.length e4, .slice l4 X.dk.late.length m4, .slice i4 X.idx.length j4, .int .i64 X.next] 29) (.cells (repA (wasN s 6)) 39)
 have hY5 := ((grow_alloc (w4.alloc (.cells #[.slice b4 X.dk.blocks.length e4, .slice l4 X.dk.late.length m4, .slice i4 X.idx.length j4, .int .i64 X.next] 29)) (.cells (repA (wasN s 6)) 39)).block _ (heap_lt (heap_new w4 #[.slice b4 X.dk.blocks.length e4, .slice l4 X.dk.late.length m4, .slice i4 X.idx.length j4, .int .i64 X.next] 29))).trans (heap_new w4 #[.slice b4 X.dk.blocks.length e4, .slice l4 X.dk.late.length m4, .slice i4 X.idx.length j4, .int .i64 X.next] 29)
 have hS5 := (h4.grow g5).any
 have gw5 := gw3.trans (g4.trans g5)
 clear h4 g4 g5 gw3
 obtain ⟨y0, y1, y2, y3⟩ := box4 hY5 rfl rfl rfl rfl
 go_wp2_with fail
 obtain ⟨A, hA⟩ : ∃ A, A = w4.heap.size := ⟨_, rfl⟩
 rw [← hA] at hY5 y0 y1 y2 y3 ⊢
 clear hA
 generalize World.alloc (World.alloc w4 _) _ = W5 at *
 refine (SA (fun b => b < W5.heap.size) X _ W5 (fun b h => h) hS5.now HA6.out).mono ?_
 rw [HTW.out.1]
 unfold repA
 obtain ⟨c0, hc0⟩ : ∃ c0, c0 = wasN X 6 0 := ⟨_, rfl⟩
 obtain ⟨c1, hc1⟩ : ∃ c1, c1 = wasN X 6 1 := ⟨_, rfl⟩
 have hsum : c0 + c1 = 6 := by rw [hc0, hc1]; exact HTW.out.2
 have hb0 : 0 ≤ c0 ∧ c0 ≤ 6 := by rw [hc0]; exact wasN_bd X 6 0
 have hb1 : 0 ≤ c1 ∧ c1 ≤ 6 := by rw [hc1]; exact wasN_bd X 6 1
 rw [← hc0, ← hc1]
 clear hc0 hc1
 rintro r w6 ⟨v6, rfl, h6, g6⟩
 obtain ⟨b6, e6, l6, m6, i6, j6, hv6, -, -, -⟩ := h6.form
 subst hv6
 have g7 := grow_alloc2 w6 (.cells #[.slice b6 X.dk.blocks.length e6, .slice l6 X.dk.late.length m6, .slice i6 X.idx.length j6, .int .i64 X.next] 29) (.cells #[.int .i64 c0, .int .i64 c1, .int .i64 (wasN X 6 2), .int .i64 (wasN X 6 3), .int .i64 (wasN X 6 4), .int .i64 (wasN X 6 5)] 39)
 have hZ7 := ((grow_alloc (w6.alloc (.cells #[.slice b6 X.dk.blocks.length e6, .slice l6 X.dk.late.length m6, .slice i6 X.idx.length j6, .int .i64 X.next] 29)) (.cells #[.int .i64 c0, .int .i64 c1, .int .i64 (wasN X 6 2), .int .i64 (wasN X 6 3), .int .i64 (wasN X 6 4), .int .i64 (wasN X 6 5)] 39)).block _ (heap_lt (heap_new w6 #[.slice b6 X.dk.blocks.length e6, .slice l6 X.dk.late.length m6, .slice i6 X.idx.length j6, .int .i64 X.next] 29))).trans (heap_new w6 #[.slice b6 X.dk.blocks.length e6, .slice l6 X.dk.late.length m6, .slice i6 X.idx.length j6, .int .i64 X.next] 29)
 have hR7 := heap_new (w6.alloc (.cells #[.slice b6 X.dk.blocks.length e6, .slice l6 X.dk.late.length m6, .slice i6 X.idx.length j6, .int .i64 X.next] 29)) #[.int .i64 c0, .int .i64 c1, .int .i64 (wasN X 6 2), .int .i64 (wasN X 6 3), .int .i64 (wasN X 6 4), .int .i64 (wasN X 6 5)] 39
 rw [World.size_alloc] at hR7
 have hY7 := ((g6.trans g7).block _ (heap_lt hY5)).trans hY5
 have gw7 := gw5.trans (g6.trans g7)
 have hSX := (hS5.grow (g6.trans g7))
 have hSY := (h6.grow g7)
 clear y0 y1 y2 y3 hY5 hS5 h6 g6 g7 gw5
 obtain ⟨y0, y1, y2, y3⟩ := box4 hY7 rfl rfl rfl rfl
 obtain ⟨z0, z1, z2, z3⟩ := box4 hZ7 rfl rfl rfl rfl
 obtain ⟨q1, q2, q3⟩ := at_same9 HA6.out
 have HQ : Hid _ := And.intro q1 (And.intro q2 q3)
 have HSM : Hid (X.same X = true) := St.same_refl X
 clear q1 q2 q3
 go_wp2_with fail
 obtain ⟨B, hB⟩ : ∃ B, B = w6.heap.size := ⟨_, rfl⟩
 rw [← hB] at hZ7 hR7 z0 z1 z2 z3 ⊢
 clear hB
 generalize World.alloc (World.alloc w6 _) _ = W7 at *
 refine (rsameS_any X X _ _ _ _ W7 hSX hSY HQ.out.1 HQ.out.2.1 HQ.out.2.2).mono ?_
 rw [HSM.out]
 rintro r w8 ⟨rfl, g8⟩
 have hR8 := (g8.block _ (heap_lt hR7)).trans hR7
 have gE := gw7.trans g8
 obtain ⟨r0, r1⟩ := box2 hR8 rfl rfl
 clear y0 y1 y2 y3 z0 z1 z2 z3 hY7 hZ7 hR7 hSX hSY hR8 g8 gw7 HTW
 have d6 : (c0 + c1 == 6) = true := by simp [hsum]
 go_wp2_with fail
 go_ret
 exact ⟨rfl, gE⟩
end Go.Proofs.YtlickojpmffmiacGreat
