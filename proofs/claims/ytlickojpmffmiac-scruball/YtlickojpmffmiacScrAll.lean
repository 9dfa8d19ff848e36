import Derived.Test.YtlickojpmffmiacInv
set_option maxHeartbeats 8000000
namespace Go.Proofs.Ytlickojpmffmiac
set_option maxRecDepth 100000
open Go.RowKit
open Plain Reg
theorem scrubAll_of (AL : ScAliveC) (SA : ScAllC) (SL : ScLookC) (l : List Sp) (v : Value) (w : World) (hl : StepsS (fun b => b < w.heap.size) w v l) (hm : l.length ≤ 140737488355328) (hdl : ∀ x ∈ l, x.deed.data.length ≤ 140737488355328) :
  Calls Try.prog 3 #[v] w fun r w' => r = .returned (.bool true) ∧ Grow w w' := by
 obtain ⟨ao, cp, rfl⟩ := hl.form
 go_enter Try.func3, Try.ntmps3
 go_wp2_with fail
 refine (AL _).mono ?_
 rintro r w1 ⟨rfl, g1⟩
 go_wp2_with fail
 refine (rplay_any (fun b => b < w.heap.size) l _ w1 (fun b h => Nat.lt_of_lt_of_le h g1.size) (hl.grow g1) hm hdl).mono ?_
 have HAT : Hid ((playTo (l.take 100)).1.At) := play_at _ _ new_at'
 generalize playTo (l.take 100) = P at *
 obtain ⟨s, es, ns⟩ := P
 simp only at HAT ⊢
 rintro r w2 ⟨v2, ev, nv, rfl, hS2, he2, hn2, g2⟩
 obtain ⟨b1, e1, l1, m1, i1, j1, hv2, -, -, -⟩ := hS2.form
 subst hv2
 obtain ⟨ae, ce, rfl⟩ := own_slice he2
 obtain ⟨an, cn, rfl⟩ := own_slice hn2
 have g3 := grow_alloc w2 (.cells #[.slice b1 s.dk.blocks.length e1, .slice l1 s.dk.late.length m1, .slice i1 s.idx.length j1, .int .i64 s.next] 30)
 have hY3 := heap_new w2 #[.slice b1 s.dk.blocks.length e1, .slice l1 s.dk.late.length m1, .slice i1 s.idx.length j1, .int .i64 s.next] 30
 have hS3 := (hS2.grow g3).any
 have gw3 := g1.trans (g2.trans g3)
 clear g1 g2 g3 hS2 he2 hn2 hl
 obtain ⟨y0, y1, y2, y3⟩ := box4 hY3 rfl rfl rfl rfl
 go_wp2_with fail
 obtain ⟨G, hG⟩ : ∃ G, G = w2.heap.size := ⟨_, rfl⟩
 rw [← hG] at hY3 y0 y1 y2 y3 ⊢
 clear hG
 generalize World.alloc w2 _ = W3 at *
 refine (SA (fun b => b < W3.heap.size) s _ W3 (fun b h => h) hS3.now HAT.out).mono ?_
 have HA6 : Hid ((scrubN 6 s).At) := scrubN_at HAT.out 6
 have HLO : Hid _ := cnt_low 6 (fun q hq => six_low HAT.out q hq)
 have HSC : Hid _ := six_scan HAT.out
 have HS2 : Hid ((scrubN 6 s).idx = scanE (scrubN 6 s).dk 6) := scrubN_scan s 5
 generalize scrubN 6 s = X at *
 rintro r w4 ⟨v4, rfl, h4, g4⟩
 obtain ⟨b4, e4, l4, m4, i4, j4, hv4, -, -, -⟩ := h4.form
 subst hv4
 have g5 := grow_alloc2 w4 (.cells #[.slice b4 X.dk.blocks.length e4, .slice l4 X.dk.late.length m4, .slice i4 X.idx.length j4, .int .i64 X.next] 30) (.cells (repA (wasN s 6)) 37)
 have hX5 := ((grow_alloc (w4.alloc (.cells #[.slice b4 X.dk.blocks.length e4, .slice l4 X.dk.late.length m4, .slice i4 X.idx.length j4, .int .i64 X.next] 30)) (.cells (repA (wasN s 6)) 37)).block _ (heap_lt (heap_new w4 #[.slice b4 X.dk.blocks.length e4, .slice l4 X.dk.late.length m4, .slice i4 X.idx.length j4, .int .i64 X.next] 30))).trans (heap_new w4 #[.slice b4 X.dk.blocks.length e4, .slice l4 X.dk.late.length m4, .slice i4 X.idx.length j4, .int .i64 X.next] 30)
 have hY5 := ((g4.trans g5).block _ (heap_lt hY3)).trans hY3
 have hSX := (h4.grow g5).any
 have hSS := hS3.grow (g4.trans g5)
 have gw5 := gw3.trans (g4.trans g5)
 clear h4 g4 g5 gw3 y0 y1 y2 y3 hY3 hS3
 obtain ⟨y0, y1⟩ := box2 hX5 rfl rfl
 go_wp2_with fail
 obtain ⟨A, hA⟩ : ∃ A, A = w4.heap.size := ⟨_, rfl⟩
 rw [← hA] at hX5 y0 y1 ⊢
 clear hA
 generalize World.alloc (World.alloc w4 _) _ = W5 at *
 obtain ⟨xb, xl, xi, hvx, hxb, hxl, hxi⟩ := hSX
 cases hvx
 obtain ⟨sb, sl, si, hvs, hsb, hsl, hsi⟩ := hSS
 cases hvs
 refine (SL X.dk _ W5 ⟨_, _, rfl, hxb.p, hxl.p⟩ HA6.out.ok.disk).mono ?_
 unfold repA
 obtain ⟨c0, hc0⟩ : ∃ c0, c0 = cnt X.dk 6 0 := ⟨_, rfl⟩
 obtain ⟨c1, hc1⟩ : ∃ c1, c1 = cnt X.dk 6 1 := ⟨_, rfl⟩
 have hsum : c0 + c1 = 6 := by rw [hc0, hc1]; exact HLO.out
 have hb0 : 0 ≤ c0 ∧ c0 ≤ 6 := by rw [hc0]; exact cnt_bd X.dk 6 0
 have hb1 : 0 ≤ c1 ∧ c1 ≤ 6 := by rw [hc1]; exact cnt_bd X.dk 6 1
 rw [← hc0, ← hc1]
 clear hc0 hc1
 rintro r w6 ⟨rfl, g6⟩
 have g7 := grow_alloc w6 (.cells #[.int .i64 c0, .int .i64 c1, .int .i64 (cnt X.dk 6 2), .int .i64 (cnt X.dk 6 3), .int .i64 (cnt X.dk 6 4), .int .i64 (cnt X.dk 6 5)] 37)
 have hR9 := heap_new w6 #[.int .i64 c0, .int .i64 c1, .int .i64 (cnt X.dk 6 2), .int .i64 (cnt X.dk 6 3), .int .i64 (cnt X.dk 6 4), .int .i64 (cnt X.dk 6 5)] 37
 have g67 := g6.trans g7
 have hX7 := (g67.block _ (heap_lt hX5)).trans hX5
 have hY7 := (g67.block _ (heap_lt hY5)).trans hY5
 have gw7 := gw5.trans g67
 replace hxb := hxb.grow g67
 replace hxl := hxl.grow g67
 replace hxi := hxi.grow g67
 replace hsb := hsb.grow g67
 replace hsl := hsl.grow g67
 clear y0 y1 hX5 hY5 g6 g7 g67 gw5 hsi
 go_wp2_with fail
 obtain ⟨R, hR⟩ : ∃ R, R = w6.heap.size := ⟨_, rfl⟩
 rw [← hR] at hR9 ⊢
 clear hR
 generalize World.alloc w6 _ = W9 at *
 have HE1 : Hid (sameE X.idx (scanE s.dk 6) = true) := by show _ = _; rw [← HSC.out]; exact (sameE_iff _ _).2 rfl
 have HE2 : Hid (sameE X.idx (scanE X.dk 6) = true) := by show _ = _; rw [← HS2.out]; exact (sameE_iff _ _).2 rfl
 have h6X := at_six HA6.out
 have HFX : Hid _ := HA6.out.ok.disk
 have HFS : Hid _ := HAT.out.ok.disk
 refine wp_region_told [ex (.pointer (some ⟨R, 0, none⟩)), ex (.pointer (some ⟨R, 0, none⟩)), ex (.int .i64 c0), ex (.pointer (some ⟨R, 0, none⟩)), ex (.pointer (some ⟨R, 1, none⟩)), ex (.int .i64 c1), ex (.int .i64 6), ex (.bool true), ex (.bool true), ex (.pointer (some ⟨A, 2, none⟩)), ex (.slice i4 X.idx.length j4), ex (.pointer (some ⟨G, 0, none⟩)), ex (.agg #[.slice b1 s.dk.blocks.length e1, .slice l1 s.dk.late.length m1]), ((fun v w' => ∃ S', EntsS S' w' v (scanE s.dk 6))), ex (.bool true), ex (.bool true), ex (.bool true), ex (.pointer (some ⟨A, 2, none⟩)), ex (.slice i4 X.idx.length j4), ex (.pointer (some ⟨A, 0, none⟩)), ex (.agg #[.slice b4 X.dk.blocks.length e4, .slice l4 X.dk.late.length m4]), ((fun v w' => ∃ S', EntsS S' w' v (scanE X.dk 6))), ex (.bool true), ex (.bool true), ex (.bool true)] (by kernel_rfl) (by kernel_rfl) ⟨st_ex _, st_ex _, st_ex _, st_ex _, st_ex _, st_ex _, st_ex _, st_ex _, st_ex _, st_ex _, st_ex _, st_ex _, st_ex _, (fun _ _ _ hg ⟨S', h⟩ => ⟨S', SliceS.grow h hg⟩), st_ex _, st_ex _, st_ex _, st_ex _, st_ex _, st_ex _, st_ex _, (fun _ _ _ hg ⟨S', h⟩ => ⟨S', SliceS.grow h hg⟩), st_ex _, st_ex _, st_ex _, trivial⟩ ?_ ?_
 ·refine ⟨?_, ?_, ?_, ?_, ?_, ?_, ?_, ?_, ?_, ?_, ?_, ?_, ?_, ?_, ?_, ?_, ?_, ?_, ?_, ?_, ?_, ?_, ?_, ?_, ?_, trivial⟩
  ·refine need_plain rfl (fun a w' hg hin => ?_)
   have e8 : a.eval (.tmp 8) = .pointer (some ⟨R, 0, none⟩) := ins_ext hin 8 (by kernel_rfl)
   refine upon_val ?_ rfl
   clear hin hg
   obtain ⟨ek, ef⟩ := evs a
   generalize a.eval = ev at *
   go_simp
   all_goals first | omega | (intro _; omega) | go_arith
  ·refine need_plain rfl (fun a w' hg hin => ?_)
   have e25 : a.eval (.tmp 25) = _ := ins_on hin 0 (by kernel_rfl)
   refine upon_val ?_ rfl
   clear hin hg
   obtain ⟨ek, ef⟩ := evs a
   generalize a.eval = ev at *
   go_simp
   all_goals first | omega | (intro _; omega) | go_arith
  ·refine need_plain rfl (fun a w' hg hin => ?_)
   have e26 : a.eval (.tmp 26) = _ := ins_on hin 1 (by kernel_rfl)
   have hh := (hg.block _ (heap_lt hR9)).trans hR9
   obtain ⟨z0, z1⟩ := box2 hh rfl rfl
   refine upon_val ?_ rfl
   clear hin hg hh
   obtain ⟨ek, ef⟩ := evs a
   generalize a.eval = ev at *
   go_simp
   all_goals first | omega | (intro _; omega) | go_arith
  ·refine need_plain rfl (fun a w' hg hin => ?_)
   have e8 : a.eval (.tmp 8) = .pointer (some ⟨R, 0, none⟩) := ins_ext hin 8 (by kernel_rfl)
   refine upon_val ?_ rfl
   clear hin hg
   obtain ⟨ek, ef⟩ := evs a
   generalize a.eval = ev at *
   go_simp
   all_goals first | omega | (intro _; omega) | go_arith
  ·refine need_plain rfl (fun a w' hg hin => ?_)
   have e28 : a.eval (.tmp 28) = _ := ins_on hin 3 (by kernel_rfl)
   refine upon_val ?_ rfl
   clear hin hg
   obtain ⟨ek, ef⟩ := evs a
   generalize a.eval = ev at *
   go_simp
   all_goals first | omega | (intro _; omega) | go_arith
  ·refine need_plain rfl (fun a w' hg hin => ?_)
   have e29 : a.eval (.tmp 29) = _ := ins_on hin 4 (by kernel_rfl)
   have hh := (hg.block _ (heap_lt hR9)).trans hR9
   obtain ⟨z0, z1⟩ := box2 hh rfl rfl
   refine upon_val ?_ rfl
   clear hin hg hh
   obtain ⟨ek, ef⟩ := evs a
   generalize a.eval = ev at *
   go_simp
   all_goals first | omega | (intro _; omega) | go_arith
  ·refine need_plain rfl (fun a w' hg hin => ?_)
   have e27 : a.eval (.tmp 27) = _ := ins_on hin 2 (by kernel_rfl)
   have e30 : a.eval (.tmp 30) = _ := ins_on hin 5 (by kernel_rfl)
   refine upon_val ?_ rfl
   clear hin hg
   obtain ⟨ek, ef⟩ := evs a
   generalize a.eval = ev at *
   go_simp
   all_goals first | omega | (intro _; omega) | go_arith
  ·refine need_plain rfl (fun a w' hg hin => ?_)
   have e31 : a.eval (.tmp 31) = _ := ins_on hin 6 (by kernel_rfl)
   refine upon_val ?_ rfl
   clear hin hg
   obtain ⟨ek, ef⟩ := evs a
   generalize a.eval = ev at *
   go_simp
   all_goals first | omega | (intro _; omega) | go_arith
  ·refine need_plain rfl (fun a w' hg hin => ?_)
   have e : a.eval (.tmp 32) = _ := ins_on hin 7 (by kernel_rfl)
   exact upon_move rfl e
  ·refine need_yes 8 true rfl (fun a w' hin => ins_on hin 8 (by kernel_rfl)) (fun a w' hg hin => ?_)
   have e6 : a.eval (.tmp 6) = .pointer (some ⟨A, 0, none⟩) := ins_ext hin 6 (by kernel_rfl)
   refine upon_val ?_ rfl
   clear hin hg
   obtain ⟨ek, ef⟩ := evs a
   generalize a.eval = ev at *
   go_simp
   all_goals first | omega | (intro _; omega) | go_arith
  ·refine need_yes 8 true rfl (fun a w' hin => ins_on hin 8 (by kernel_rfl)) (fun a w' hg hin => ?_)
   have e34 : a.eval (.tmp 34) = _ := ins_on hin 9 (by kernel_rfl)
   have hh := (hg.block _ (heap_lt hX7)).trans hX7
   obtain ⟨z0, z1, z2⟩ := box3 hh rfl rfl rfl
   refine upon_val ?_ rfl
   clear hin hg hh
   obtain ⟨ek, ef⟩ := evs a
   generalize a.eval = ev at *
   go_simp
   all_goals first | omega | (intro _; omega) | go_arith
  ·refine need_yes 8 true rfl (fun a w' hin => ins_on hin 8 (by kernel_rfl)) (fun a w' hg hin => ?_)
   have e3 : a.eval (.tmp 3) = .pointer (some ⟨G, 0, none⟩) := ins_ext hin 3 (by kernel_rfl)
   refine upon_val ?_ rfl
   clear hin hg
   obtain ⟨ek, ef⟩ := evs a
   generalize a.eval = ev at *
   go_simp
   all_goals first | omega | (intro _; omega) | go_arith
  ·refine need_yes 8 true rfl (fun a w' hin => ins_on hin 8 (by kernel_rfl)) (fun a w' hg hin => ?_)
   have e36 : a.eval (.tmp 36) = _ := ins_on hin 11 (by kernel_rfl)
   have hh := (hg.block _ (heap_lt hY7)).trans hY7
   obtain ⟨z0, z1, z2⟩ := box3 hh rfl rfl rfl
   refine upon_val ?_ rfl
   clear hin hg hh
   obtain ⟨ek, ef⟩ := evs a
   generalize a.eval = ev at *
   go_simp
   all_goals first | omega | (intro _; omega) | go_arith
  ·refine need_yes 8 true rfl (fun a w' hin => ins_on hin 8 (by kernel_rfl)) (fun a w' hg hin => ?_)
   have e37 : a.eval (.tmp 37) = _ := ins_on hin 12 (by kernel_rfl)
   refine upon_call (f := 10) (args := #[.agg #[.slice b1 s.dk.blocks.length e1, .slice l1 s.dk.late.length m1]]) ?_ ((rscan_any _ s.dk _ _ w' (hsb.grow hg) (hsl.grow hg) (by rw [HFS.out.len]; omega) (by have := HFS.out.few; omega)).mono ?_)
   ·clear hin hg
    obtain ⟨ek, ef⟩ := evs a
    generalize a.eval = ev at *
    go_simp
    all_goals first | omega | (intro _; omega) | go_arith
   ·rintro e w2 ⟨v2, rfl, hE, g2⟩
    rw [show s.dk.blocks.length / 2 = 6 from by rw [HFS.out.len]] at hE
    exact ⟨_, rfl, g2, _, hE⟩
  ·refine need_yes 8 true rfl (fun a w' hin => ins_on hin 8 (by kernel_rfl)) (fun a w' hg hin => ?_)
   have e35 : a.eval (.tmp 35) = _ := ins_on hin 10 (by kernel_rfl)
   have e38 : ((fun v w' => ∃ S', EntsS S' w' v (scanE s.dk 6))) (a.eval (.tmp 38)) w' := ins_on hin 13 (by kernel_rfl)
   obtain ⟨S', e38⟩ := e38
   refine upon_call (f := 9) (args := #[.slice i4 X.idx.length j4, a.eval (.tmp 38)]) ?_ ((rsameE_any X.idx (scanE s.dk 6) _ _ _ S' w' (hxi.grow hg) e38 (by omega)).mono ?_)
   ·clear hin hg e38
    obtain ⟨ek, ef⟩ := evs a
    generalize a.eval = ev at *
    go_simp
    all_goals first | omega | (intro _; omega) | go_arith
   ·rw [HE1.out]
    rintro e w2 ⟨rfl, g2⟩
    exact ⟨_, rfl, g2, rfl⟩
  ·refine need_plain rfl (fun a w' hg hin => ?_)
   have ec : a.eval (.tmp 33) = _ := ins_on hin 8 (by kernel_rfl)
   have e : a.eval (.tmp 39) = _ := ins_on hin 14 (by kernel_rfl)
   exact upon_pick rfl ec e
  ·refine need_plain rfl (fun a w' hg hin => ?_)
   have e : a.eval (.tmp 40) = _ := ins_on hin 15 (by kernel_rfl)
   exact upon_move rfl e
  ·refine need_yes 16 true rfl (fun a w' hin => ins_on hin 16 (by kernel_rfl)) (fun a w' hg hin => ?_)
   have e6 : a.eval (.tmp 6) = .pointer (some ⟨A, 0, none⟩) := ins_ext hin 6 (by kernel_rfl)
   refine upon_val ?_ rfl
   clear hin hg
   obtain ⟨ek, ef⟩ := evs a
   generalize a.eval = ev at *
   go_simp
   all_goals first | omega | (intro _; omega) | go_arith
  ·refine need_yes 16 true rfl (fun a w' hin => ins_on hin 16 (by kernel_rfl)) (fun a w' hg hin => ?_)
   have e42 : a.eval (.tmp 42) = _ := ins_on hin 17 (by kernel_rfl)
   have hh := (hg.block _ (heap_lt hX7)).trans hX7
   obtain ⟨z0, z1, z2⟩ := box3 hh rfl rfl rfl
   refine upon_val ?_ rfl
   clear hin hg hh
   obtain ⟨ek, ef⟩ := evs a
   generalize a.eval = ev at *
   go_simp
   all_goals first | omega | (intro _; omega) | go_arith
  ·refine need_yes 16 true rfl (fun a w' hin => ins_on hin 16 (by kernel_rfl)) (fun a w' hg hin => ?_)
   have e6 : a.eval (.tmp 6) = .pointer (some ⟨A, 0, none⟩) := ins_ext hin 6 (by kernel_rfl)
   refine upon_val ?_ rfl
   clear hin hg
   obtain ⟨ek, ef⟩ := evs a
   generalize a.eval = ev at *
   go_simp
   all_goals first | omega | (intro _; omega) | go_arith
  ·refine need_yes 16 true rfl (fun a w' hin => ins_on hin 16 (by kernel_rfl)) (fun a w' hg hin => ?_)
   have e44 : a.eval (.tmp 44) = _ := ins_on hin 19 (by kernel_rfl)
   have hh := (hg.block _ (heap_lt hX7)).trans hX7
   obtain ⟨z0, z1, z2⟩ := box3 hh rfl rfl rfl
   refine upon_val ?_ rfl
   clear hin hg hh
   obtain ⟨ek, ef⟩ := evs a
   generalize a.eval = ev at *
   go_simp
   all_goals first | omega | (intro _; omega) | go_arith
  ·refine need_yes 16 true rfl (fun a w' hin => ins_on hin 16 (by kernel_rfl)) (fun a w' hg hin => ?_)
   have e45 : a.eval (.tmp 45) = _ := ins_on hin 20 (by kernel_rfl)
   refine upon_call (f := 10) (args := #[.agg #[.slice b4 X.dk.blocks.length e4, .slice l4 X.dk.late.length m4]]) ?_ ((rscan_any _ X.dk _ _ w' (hxb.grow hg) (hxl.grow hg) (by rw [HFX.out.len]; omega) (by have := HFX.out.few; omega)).mono ?_)
   ·clear hin hg
    obtain ⟨ek, ef⟩ := evs a
    generalize a.eval = ev at *
    go_simp
    all_goals first | omega | (intro _; omega) | go_arith
   ·rintro e w2 ⟨v2, rfl, hE, g2⟩
    rw [show X.dk.blocks.length / 2 = 6 from by rw [HFX.out.len]] at hE
    exact ⟨_, rfl, g2, _, hE⟩
  ·refine need_yes 16 true rfl (fun a w' hin => ins_on hin 16 (by kernel_rfl)) (fun a w' hg hin => ?_)
   have e43 : a.eval (.tmp 43) = _ := ins_on hin 18 (by kernel_rfl)
   have e46 : ((fun v w' => ∃ S', EntsS S' w' v (scanE X.dk 6))) (a.eval (.tmp 46)) w' := ins_on hin 21 (by kernel_rfl)
   obtain ⟨S', e46⟩ := e46
   refine upon_call (f := 9) (args := #[.slice i4 X.idx.length j4, a.eval (.tmp 46)]) ?_ ((rsameE_any X.idx (scanE X.dk 6) _ _ _ S' w' (hxi.grow hg) e46 (by omega)).mono ?_)
   ·clear hin hg e46
    obtain ⟨ek, ef⟩ := evs a
    generalize a.eval = ev at *
    go_simp
    all_goals first | omega | (intro _; omega) | go_arith
   ·rw [HE2.out]
    rintro e w2 ⟨rfl, g2⟩
    exact ⟨_, rfl, g2, rfl⟩
  ·refine need_plain rfl (fun a w' hg hin => ?_)
   have ec : a.eval (.tmp 41) = _ := ins_on hin 16 (by kernel_rfl)
   have e : a.eval (.tmp 47) = _ := ins_on hin 22 (by kernel_rfl)
   exact upon_pick rfl ec e
  ·refine need_plain rfl (fun a w' hg hin => ?_)
   have e : a.eval (.tmp 48) = _ := ins_on hin 23 (by kernel_rfl)
   exact upon_assign rfl e
 ·intro vs w' hg ht
  obtain ⟨q25, q26, q27, q28, q29, q30, q31, q32, q33, q34, q35, q36, q37, q38, q39, q40, q41, q42, q43, q44, q45, q46, q47, q48, q2, -⟩ := ht
  have r25 : vs 0 = .pointer (some ⟨R, 0, none⟩) := q25
  have r26 : vs 1 = .pointer (some ⟨R, 0, none⟩) := q26
  have r27 : vs 2 = .int .i64 c0 := q27
  have r28 : vs 3 = .pointer (some ⟨R, 0, none⟩) := q28
  have r29 : vs 4 = .pointer (some ⟨R, 1, none⟩) := q29
  have r30 : vs 5 = .int .i64 c1 := q30
  have r31 : vs 6 = .int .i64 6 := q31
  have r32 : vs 7 = .bool true := q32
  have r33 : vs 8 = .bool true := q33
  have r34 : vs 9 = .pointer (some ⟨A, 2, none⟩) := q34
  have r35 : vs 10 = .slice i4 X.idx.length j4 := q35
  have r36 : vs 11 = .pointer (some ⟨G, 0, none⟩) := q36
  have r37 : vs 12 = .agg #[.slice b1 s.dk.blocks.length e1, .slice l1 s.dk.late.length m1] := q37
  have r39 : vs 14 = .bool true := q39
  have r40 : vs 15 = .bool true := q40
  have r41 : vs 16 = .bool true := q41
  have r42 : vs 17 = .pointer (some ⟨A, 2, none⟩) := q42
  have r43 : vs 18 = .slice i4 X.idx.length j4 := q43
  have r44 : vs 19 = .pointer (some ⟨A, 0, none⟩) := q44
  have r45 : vs 20 = .agg #[.slice b4 X.dk.blocks.length e4, .slice l4 X.dk.late.length m4] := q45
  have r47 : vs 22 = .bool true := q47
  have r48 : vs 23 = .bool true := q48
  have r2 : vs 24 = .bool true := q2
  clear q25 q26 q27 q28 q29 q30 q31 q32 q33 q34 q35 q36 q37 q39 q40 q41 q42 q43 q44 q45 q47 q48 q2
  simp only [putAll, Act.put, List.setIfInBounds_toArray, List.set_cons_zero, List.set_cons_succ, r25, r26, r27, r28, r29, r30, r31, r32, r33, r34, r35, r36, r37, r39, r40, r41, r42, r43, r44, r45, r47, r48, r2]
  clear r25 r26 r27 r28 r29 r30 r31 r32 r33 r34 r35 r36 r37 r39 r40 r41 r42 r43 r44 r45 r47 r48 r2
  have gE := gw7.trans hg
  clear q38 q46 hg hX7 hY7 hR9 gw7 hxb hxl hxi hsb hsl
  generalize vs 13 = c38 at *
  generalize vs 21 = c46 at *
  go_wp2_with fail
  go_ret
  exact ⟨rfl, gE⟩
end Go.Proofs.Ytlickojpmffmiac
