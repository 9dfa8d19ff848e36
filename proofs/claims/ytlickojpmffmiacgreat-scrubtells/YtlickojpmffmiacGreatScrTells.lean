import Derived.Test.YtlickojpmffmiacGreatInv
import Derived.ChangeKeysEq
set_option maxHeartbeats 8000000
namespace Go.Proofs.YtlickojpmffmiacGreat
set_option maxRecDepth 100000
open Go.RowKit
open Plain Reg
/-- Two reports that are the same are told to be. -/
theorem eq_rep (a b c d e f : Int) (w : World) : (Op.equalIn 9999 37 (.agg #[.int .i64 a, .int .i64 b, .int .i64 c, .int .i64 d, .int .i64 e, .int .i64 f]) (.agg #[.int .i64 a, .int .i64 b, .int .i64 c, .int .i64 d, .int .i64 e, .int .i64 f])).run Tryz.prog w = .ok true w := by
 obtain ⟨i0, hif, hz0, hz1, hz2⟩ := info_parts info_intw
 have hc : Tryz.prog.cellsOf 3 = 1 := by kernel_rfl
 rw [show (9999 : Nat) = 9998 + 1 from rfl, run_equalIn_array w 9998 _ _ Tryz.underlying37 hif, hc, show List.range 6 = [0, 1, 2, 3, 4, 5] from rfl]
 go_simp
 simp only [Op.eqItems]
 go_simp
theorem scrubTells_of (SO : ScOneC) (SA : ScAllC) (SL : ScLookC) (l : List Sp) (v : Value) (w : World) (hl : StepsS (fun b => b < w.heap.size) w v l) (hm : l.length ≤ 140737488355328) (hdl : ∀ x ∈ l, x.deed.data.length ≤ 140737488355328) :
  Calls Tryz.prog 3 #[v] w fun r w' => r = .returned (.bool true) ∧ Grow w w' := by
 obtain ⟨ao, cp, rfl⟩ := hl.form
 go_enter Tryz.func3, Tryz.ntmps3
 go_wp2_with fail
 refine (rplay_any (fun b => b < w.heap.size) l _ w (fun b h => h) hl hm hdl).mono ?_
 have HAT : Hid ((playTo (l.take 100)).1.At) := play_at _ _ new_at'
 generalize playTo (l.take 100) = P at *
 obtain ⟨s, es, ns⟩ := P
 simp only at HAT ⊢
 rintro r w2 ⟨v2, ev, nv, rfl, hS2, he2, hn2, g2⟩
 obtain ⟨b1, e1, l1, m1, i1, j1, hv2, -, -, -⟩ := hS2.form
 subst hv2
 obtain ⟨ae, ce, rfl⟩ := own_slice he2
 obtain ⟨an, cn, rfl⟩ := own_slice hn2
 have g3 := grow_alloc w2 (.cells #[.slice b1 s.dk.blocks.length e1, .slice l1 s.dk.late.length m1, .slice i1 s.idx.length j1, .int .i64 s.next] 29)
 have hY3 := heap_new w2 #[.slice b1 s.dk.blocks.length e1, .slice l1 s.dk.late.length m1, .slice i1 s.idx.length j1, .int .i64 s.next] 29
 have hS3 := hS2.any.now.grow g3
 have gw3 := g2.trans g3
 have g2s := g2.size
 clear g2 g3 hS2 he2 hn2 hl
 obtain ⟨y0, y1, y2, y3⟩ := box4 hY3 rfl rfl rfl rfl
 go_wp2_with fail
 obtain ⟨G, hG⟩ : ∃ G, G = w2.heap.size := ⟨_, rfl⟩
 have HGW : Hid (w.heap.size ≤ G) := by show _ ≤ _; rw [hG]; exact g2s
 rw [← hG] at hY3 hS3 y0 y1 y2 y3 ⊢
 clear hG
 generalize World.alloc w2 _ = W3 at *
 have HGS : Hid (∀ b, b < G → b < W3.heap.size) := fun b h => Nat.lt_trans h (heap_lt hY3)
 refine (SO (fun b => b < G) s _ W3 HGS.out hS3 HAT.out).mono ?_
 obtain ⟨X, hX⟩ : ∃ X, X = s.scrub := ⟨_, rfl⟩
 rw [← hX]
 have HX : Hid _ := hX
 have HAX : Hid (X.At) := by rw [hX]; exact scrub_at HAT.out
 clear hX
 obtain ⟨H, hH⟩ : ∃ H, H = s.dk.how s.next := ⟨_, rfl⟩
 rw [← hH]
 have HH : Hid _ := hH
 clear hH
 rintro r w4 ⟨v4, rfl, h4, g4⟩
 obtain ⟨b4, e4, l4, m4, i4, j4, hv4, -, -, -⟩ := h4.form
 subst hv4
 have g5 := grow_alloc w4 (.cells #[.slice b4 X.dk.blocks.length e4, .slice l4 X.dk.late.length m4, .slice i4 X.idx.length j4, .int .i64 X.next] 29)
 have hX5 := heap_new w4 #[.slice b4 X.dk.blocks.length e4, .slice l4 X.dk.late.length m4, .slice i4 X.idx.length j4, .int .i64 X.next] 29
 have hY5 := ((g4.trans g5).block _ (heap_lt hY3)).trans hY3
 have hSX := (h4.grow g5).any
 have hSS := hS3.grow (g4.trans g5)
 have gw5 := gw3.trans (g4.trans g5)
 clear h4 g4 g5 gw3 y0 y1 y2 y3 hY3 hS3 HGS
 obtain ⟨y0, y1, y2, y3⟩ := box4 hY5 rfl rfl rfl rfl
 go_wp2_with fail
 obtain ⟨A, hA⟩ : ∃ A, A = w4.heap.size := ⟨_, rfl⟩
 rw [← hA] at hX5 ⊢
 clear hA
 generalize World.alloc w4 _ = W5 at *
 have HGS : Hid (∀ b, b < G → b < W5.heap.size) := fun b h => Nat.lt_trans h (heap_lt hY5)
 refine (rscrub_any (fun b => b < G) 0 s _ W5 HGS.out hSS HAT.out.ok.disk (by omega) HAT.out.low (by have := HAT.out.high; omega)).mono ?_
 rw [← HX.out, ← HH.out]
 rintro r w6 ⟨v6, rfl, h6, g6⟩
 obtain ⟨b6, e6, l6, m6, i6, j6, hv6, -, -, -⟩ := h6.form
 subst hv6
 have g7 := grow_alloc w6 (.cells #[.slice b6 X.dk.blocks.length e6, .slice l6 X.dk.late.length m6, .slice i6 X.idx.length j6, .int .i64 X.next] 29)
 have hZ7 := heap_new w6 #[.slice b6 X.dk.blocks.length e6, .slice l6 X.dk.late.length m6, .slice i6 X.idx.length j6, .int .i64 X.next] 29
 have g67 := g6.trans g7
 have hX7 := (g67.block _ (heap_lt hX5)).trans hX5
 have hY7 := (g67.block _ (heap_lt hY5)).trans hY5
 replace hSX := hSX.grow g67
 replace hSS := hSS.grow g67
 have hSZ := (h6.grow g7).any
 have gw7 := gw5.trans g67
 clear h6 g6 g7 g67 gw5 y0 y1 y2 y3 hX5 hY5 HGS
 go_wp2_with fail
 obtain ⟨B, hB⟩ : ∃ B, B = w6.heap.size := ⟨_, rfl⟩
 rw [← hB] at hZ7 ⊢
 clear hB
 generalize World.alloc w6 _ = W7 at *
 obtain ⟨q1, q2, q3⟩ := at_same9 HAX.out
 have HQ : Hid _ := And.intro q1 (And.intro q2 q3)
 have HSM : Hid (X.same X = true) := St.same_refl X
 have HDP : Hid (DiskP s.dk (.agg #[.slice b1 s.dk.blocks.length e1, .slice l1 s.dk.late.length m1]) W7) := by
  obtain ⟨sb, sl, si, hvs, hsb, hsl, hsi⟩ := hSS
  cases hvs
  exact ⟨_, _, rfl, hsb.p, hsl.p⟩
 have HFS : Hid _ := HAT.out.ok.disk
 obtain ⟨f, hf⟩ : ∃ f, f = cnt s.dk 6 := ⟨_, rfl⟩
 have Hf : Hid _ := hf
 have dH : (H != H) = false := by simp
 clear q1 q2 q3 hf
 refine wp_region_told [ex (.int .i64 H), ex (.int .i64 H), ex (.bool false), ex (.bool false), ex (.agg #[.slice b4 X.dk.blocks.length e4, .slice l4 X.dk.late.length m4, .slice i4 X.idx.length j4, .int .i64 X.next]), ex (.agg #[.slice b6 X.dk.blocks.length e6, .slice l6 X.dk.late.length m6, .slice i6 X.idx.length j6, .int .i64 X.next]), ex (.bool true), ex (.bool false), ex (.bool false), ex (.bool false), ex (.pointer (some ⟨G, 0, none⟩)), ex (.agg #[.slice b1 s.dk.blocks.length e1, .slice l1 s.dk.late.length m1]), ex (.agg (repA f)), ex (.pointer (some ⟨G, 0, none⟩)), ex (.agg #[.slice b1 s.dk.blocks.length e1, .slice l1 s.dk.late.length m1]), ex (.agg (repA f)), ex (.bool false), ex (.bool false)] (by kernel_rfl) (by kernel_rfl) ⟨st_ex _, st_ex _, st_ex _, st_ex _, st_ex _, st_ex _, st_ex _, st_ex _, st_ex _, st_ex _, st_ex _, st_ex _, st_ex _, st_ex _, st_ex _, st_ex _, st_ex _, st_ex _, trivial⟩ ?_ ?_
 ·refine ⟨?_, ?_, ?_, ?_, ?_, ?_, ?_, ?_, ?_, ?_, ?_, ?_, ?_, ?_, ?_, ?_, ?_, ?_, trivial⟩
  ·refine need_plain rfl (fun a w' hg hin => ?_)
   have e : a.eval (.tmp 7) = .int .i64 H := ins_ext hin 7 (by kernel_rfl)
   exact upon_move rfl e
  ·refine need_plain rfl (fun a w' hg hin => ?_)
   have e : a.eval (.tmp 9) = .int .i64 H := ins_ext hin 9 (by kernel_rfl)
   exact upon_move rfl e
  ·refine need_plain rfl (fun a w' hg hin => ?_)
   have e31 : a.eval (.tmp 31) = _ := ins_on hin 0 (by kernel_rfl)
   have e32 : a.eval (.tmp 32) = _ := ins_on hin 1 (by kernel_rfl)
   refine upon_val ?_ rfl
   clear hin hg
   obtain ⟨ek, ef⟩ := evs a
   generalize a.eval = ev at *
   go_simp
   all_goals first | omega | (intro _; omega) | go_arith
  ·refine need_plain rfl (fun a w' hg hin => ?_)
   have e : a.eval (.tmp 33) = _ := ins_on hin 2 (by kernel_rfl)
   exact upon_move rfl e
  ·refine need_yes 3 false rfl (fun a w' hin => ins_on hin 3 (by kernel_rfl)) (fun a w' hg hin => ?_)
   have e6 : a.eval (.tmp 6) = .pointer (some ⟨A, 0, none⟩) := ins_ext hin 6 (by kernel_rfl)
   have hh := (hg.block _ (heap_lt hX7)).trans hX7
   obtain ⟨z0, z1, z2, z3⟩ := box4 hh rfl rfl rfl rfl
   refine upon_val ?_ rfl
   clear hin hg hh
   obtain ⟨ek, ef⟩ := evs a
   generalize a.eval = ev at *
   go_simp
   all_goals first | omega | (intro _; omega) | go_arith
  ·refine need_yes 3 false rfl (fun a w' hin => ins_on hin 3 (by kernel_rfl)) (fun a w' hg hin => ?_)
   have e8 : a.eval (.tmp 8) = .pointer (some ⟨B, 0, none⟩) := ins_ext hin 8 (by kernel_rfl)
   have hh := (hg.block _ (heap_lt hZ7)).trans hZ7
   obtain ⟨z0, z1, z2, z3⟩ := box4 hh rfl rfl rfl rfl
   refine upon_val ?_ rfl
   clear hin hg hh
   obtain ⟨ek, ef⟩ := evs a
   generalize a.eval = ev at *
   go_simp
   all_goals first | omega | (intro _; omega) | go_arith
  ·refine need_yes 3 false rfl (fun a w' hin => ins_on hin 3 (by kernel_rfl)) (fun a w' hg hin => ?_)
   have e35 : a.eval (.tmp 35) = _ := ins_on hin 4 (by kernel_rfl)
   have e36 : a.eval (.tmp 36) = _ := ins_on hin 5 (by kernel_rfl)
   refine upon_call (f := 8) (args := #[.agg #[.slice b4 X.dk.blocks.length e4, .slice l4 X.dk.late.length m4, .slice i4 X.idx.length j4, .int .i64 X.next], .agg #[.slice b6 X.dk.blocks.length e6, .slice l6 X.dk.late.length m6, .slice i6 X.idx.length j6, .int .i64 X.next]]) ?_ ((rsameS_any X X _ _ _ _ w' (hSX.grow hg) (hSZ.grow hg) HQ.out.1 HQ.out.2.1 HQ.out.2.2).mono ?_)
   ·clear hin hg
    obtain ⟨ek, ef⟩ := evs a
    generalize a.eval = ev at *
    go_simp
    all_goals first | omega | (intro _; omega) | go_arith
   ·rw [HSM.out]
    rintro e w2 ⟨rfl, g2⟩
    exact ⟨_, rfl, g2, rfl⟩
  ·refine need_yes 3 false rfl (fun a w' hin => ins_on hin 3 (by kernel_rfl)) (fun a w' hg hin => ?_)
   have e37 : a.eval (.tmp 37) = _ := ins_on hin 6 (by kernel_rfl)
   refine upon_val ?_ rfl
   clear hin hg
   obtain ⟨ek, ef⟩ := evs a
   generalize a.eval = ev at *
   go_simp
   all_goals first | omega | (intro _; omega) | go_arith
  ·refine need_plain rfl (fun a w' hg hin => ?_)
   have ec : a.eval (.tmp 34) = _ := ins_on hin 3 (by kernel_rfl)
   have e : a.eval (.tmp 38) = _ := ins_on hin 7 (by kernel_rfl)
   exact upon_pick rfl ec e
  ·refine need_plain rfl (fun a w' hg hin => ?_)
   have e : a.eval (.tmp 39) = _ := ins_on hin 8 (by kernel_rfl)
   exact upon_move rfl e
  ·refine need_yes 9 false rfl (fun a w' hin => ins_on hin 9 (by kernel_rfl)) (fun a w' hg hin => ?_)
   have e3 : a.eval (.tmp 3) = .pointer (some ⟨G, 0, none⟩) := ins_ext hin 3 (by kernel_rfl)
   refine upon_val ?_ rfl
   clear hin hg
   obtain ⟨ek, ef⟩ := evs a
   generalize a.eval = ev at *
   go_simp
   all_goals first | omega | (intro _; omega) | go_arith
  ·refine need_yes 9 false rfl (fun a w' hin => ins_on hin 9 (by kernel_rfl)) (fun a w' hg hin => ?_)
   have e41 : a.eval (.tmp 41) = _ := ins_on hin 10 (by kernel_rfl)
   have hh := (hg.block _ (heap_lt hY7)).trans hY7
   obtain ⟨z0, z1⟩ := box2 hh rfl rfl
   refine upon_val ?_ rfl
   clear hin hg hh
   obtain ⟨ek, ef⟩ := evs a
   generalize a.eval = ev at *
   go_simp
   all_goals first | omega | (intro _; omega) | go_arith
  ·refine need_yes 9 false rfl (fun a w' hin => ins_on hin 9 (by kernel_rfl)) (fun a w' hg hin => ?_)
   have e42 : a.eval (.tmp 42) = _ := ins_on hin 11 (by kernel_rfl)
   refine upon_call (f := 9) (args := #[.agg #[.slice b1 s.dk.blocks.length e1, .slice l1 s.dk.late.length m1]]) ?_ ((SL s.dk _ w' (st_diskp _ _ _ _ hg HDP.out) HFS.out).mono ?_)
   ·clear hin hg
    obtain ⟨ek, ef⟩ := evs a
    generalize a.eval = ev at *
    go_simp
    all_goals first | omega | (intro _; omega) | go_arith
   ·rw [← Hf.out]
    rintro e w2 ⟨rfl, g2⟩
    exact ⟨_, rfl, g2, rfl⟩
  ·refine need_yes 9 false rfl (fun a w' hin => ins_on hin 9 (by kernel_rfl)) (fun a w' hg hin => ?_)
   have e3 : a.eval (.tmp 3) = .pointer (some ⟨G, 0, none⟩) := ins_ext hin 3 (by kernel_rfl)
   refine upon_val ?_ rfl
   clear hin hg
   obtain ⟨ek, ef⟩ := evs a
   generalize a.eval = ev at *
   go_simp
   all_goals first | omega | (intro _; omega) | go_arith
  ·refine need_yes 9 false rfl (fun a w' hin => ins_on hin 9 (by kernel_rfl)) (fun a w' hg hin => ?_)
   have e44 : a.eval (.tmp 44) = _ := ins_on hin 13 (by kernel_rfl)
   have hh := (hg.block _ (heap_lt hY7)).trans hY7
   obtain ⟨z0, z1⟩ := box2 hh rfl rfl
   refine upon_val ?_ rfl
   clear hin hg hh
   obtain ⟨ek, ef⟩ := evs a
   generalize a.eval = ev at *
   go_simp
   all_goals first | omega | (intro _; omega) | go_arith
  ·refine need_yes 9 false rfl (fun a w' hin => ins_on hin 9 (by kernel_rfl)) (fun a w' hg hin => ?_)
   have e45 : a.eval (.tmp 45) = _ := ins_on hin 14 (by kernel_rfl)
   refine upon_call (f := 10) (args := #[.agg #[.slice b1 s.dk.blocks.length e1, .slice l1 s.dk.late.length m1]]) ?_ ((rreport_any 0 s.dk _ w' (st_diskp _ _ _ _ hg HDP.out) HFS.out (by omega)).mono ?_)
   ·clear hin hg
    obtain ⟨ek, ef⟩ := evs a
    generalize a.eval = ev at *
    go_simp
    all_goals first | omega | (intro _; omega) | go_arith
   ·rw [← Hf.out]
    rintro e w2 ⟨rfl, g2⟩
    exact ⟨_, rfl, g2, rfl⟩
  ·refine need_yes 9 false rfl (fun a w' hin => ins_on hin 9 (by kernel_rfl)) (fun a w' hg hin => ?_)
   have e43 : a.eval (.tmp 43) = _ := ins_on hin 12 (by kernel_rfl)
   have e46 : a.eval (.tmp 46) = _ := ins_on hin 15 (by kernel_rfl)
   have he := eq_rep (f 0) (f 1) (f 2) (f 3) (f 4) (f 5) w'
   refine upon_val ?_ rfl
   clear hin hg
   obtain ⟨ek, ef⟩ := evs a
   generalize a.eval = ev at *
   go_simp
   all_goals first | omega | (intro _; omega) | go_arith
  ·refine need_plain rfl (fun a w' hg hin => ?_)
   have ec : a.eval (.tmp 40) = _ := ins_on hin 9 (by kernel_rfl)
   have e : a.eval (.tmp 47) = _ := ins_on hin 16 (by kernel_rfl)
   exact upon_pick rfl ec e
 ·intro vs w' hg ht
  obtain ⟨q31, q32, q33, q34, q35, q36, q37, q38, q39, q40, q41, q42, q43, q44, q45, q46, q47, q48, -⟩ := ht
  have r31 : vs 0 = .int .i64 H := q31
  have r32 : vs 1 = .int .i64 H := q32
  have r33 : vs 2 = .bool false := q33
  have r34 : vs 3 = .bool false := q34
  have r35 : vs 4 = .agg #[.slice b4 X.dk.blocks.length e4, .slice l4 X.dk.late.length m4, .slice i4 X.idx.length j4, .int .i64 X.next] := q35
  have r36 : vs 5 = .agg #[.slice b6 X.dk.blocks.length e6, .slice l6 X.dk.late.length m6, .slice i6 X.idx.length j6, .int .i64 X.next] := q36
  have r37 : vs 6 = .bool true := q37
  have r38 : vs 7 = .bool false := q38
  have r39 : vs 8 = .bool false := q39
  have r40 : vs 9 = .bool false := q40
  have r41 : vs 10 = .pointer (some ⟨G, 0, none⟩) := q41
  have r42 : vs 11 = .agg #[.slice b1 s.dk.blocks.length e1, .slice l1 s.dk.late.length m1] := q42
  have r43 : vs 12 = .agg (repA f) := q43
  have r44 : vs 13 = .pointer (some ⟨G, 0, none⟩) := q44
  have r45 : vs 14 = .agg #[.slice b1 s.dk.blocks.length e1, .slice l1 s.dk.late.length m1] := q45
  have r46 : vs 15 = .agg (repA f) := q46
  have r47 : vs 16 = .bool false := q47
  have r48 : vs 17 = .bool false := q48
  clear q31 q32 q33 q34 q35 q36 q37 q38 q39 q40 q41 q42 q43 q44 q45 q46 q47 q48
  simp only [putAll, Act.put, List.setIfInBounds_toArray, List.set_cons_zero, List.set_cons_succ, r31, r32, r33, r34, r35, r36, r37, r38, r39, r40, r41, r42, r43, r44, r45, r46, r47, r48]
  clear r31 r32 r33 r34 r35 r36 r37 r38 r39 r40 r41 r42 r43 r44 r45 r46 r47 r48
  have hY8 := (hg.block _ (heap_lt hY7)).trans hY7
  have hS8 := hSS.grow hg
  have gw8 := gw7.trans hg
  clear hg hX7 hY7 hZ7 hSX hSZ hSS HDP gw7 HQ HSM HH HX HAX
  obtain ⟨w8, rfl⟩ : ∃ w8 : World, w8 = w' := ⟨_, rfl⟩
  obtain ⟨y0, y1, y2, y3⟩ := box4 hY8 rfl rfl rfl rfl
  go_wp2_with fail
  refine (SA (fun b => b < G) s _ w8 (fun b h => Nat.lt_trans h (heap_lt hY8)) hS8 HAT.out).mono ?_
  obtain ⟨U, hU⟩ : ∃ U, U = scrubN 6 s := ⟨_, rfl⟩
  rw [← hU]
  have HU : Hid _ := hU
  clear hU
  rintro r wa ⟨va, rfl, ha, ga⟩
  obtain ⟨b4', e4', l4', m4', i4', j4', hva, -, -, -⟩ := ha.form
  subst hva
  have gb := (grow_alloc2 wa (.cells #[.slice b4' U.dk.blocks.length e4', .slice l4' U.dk.late.length m4', .slice i4' U.idx.length j4', .int .i64 U.next] 29) (.cells (repA (wasN s 6)) 39)).trans (grow_alloc _ zeroR)
  have hu0 := ((grow_alloc2 (wa.alloc (.cells #[.slice b4' U.dk.blocks.length e4', .slice l4' U.dk.late.length m4', .slice i4' U.idx.length j4', .int .i64 U.next] 29)) (.cells (repA (wasN s 6)) 39) zeroR).block _ (heap_lt (heap_new wa #[.slice b4' U.dk.blocks.length e4', .slice l4' U.dk.late.length m4', .slice i4' U.idx.length j4', .int .i64 U.next] 29))).trans (heap_new wa #[.slice b4' U.dk.blocks.length e4', .slice l4' U.dk.late.length m4', .slice i4' U.idx.length j4', .int .i64 U.next] 29)
  have hp0 := ((grow_alloc ((wa.alloc (.cells #[.slice b4' U.dk.blocks.length e4', .slice l4' U.dk.late.length m4', .slice i4' U.idx.length j4', .int .i64 U.next] 29)).alloc (.cells (repA (wasN s 6)) 39)) zeroR).block _ (heap_lt (heap_new (wa.alloc (.cells #[.slice b4' U.dk.blocks.length e4', .slice l4' U.dk.late.length m4', .slice i4' U.idx.length j4', .int .i64 U.next] 29)) (repA (wasN s 6)) 39))).trans (heap_new (wa.alloc (.cells #[.slice b4' U.dk.blocks.length e4', .slice l4' U.dk.late.length m4', .slice i4' U.idx.length j4', .int .i64 U.next] 29)) (repA (wasN s 6)) 39)
  have hq0 := heap_new ((wa.alloc (.cells #[.slice b4' U.dk.blocks.length e4', .slice l4' U.dk.late.length m4', .slice i4' U.idx.length j4', .int .i64 U.next] 29)).alloc (.cells (repA (wasN s 6)) 39)) #[.int .i64 0, .int .i64 0, .int .i64 0, .int .i64 0, .int .i64 0, .int .i64 0] 39
  rw [World.size_alloc] at hp0
  rw [World.size_alloc, World.size_alloc] at hq0
  have hs0 := ((ga.trans gb).block _ (heap_lt hY8)).trans hY8
  have HGA : Hid (G < wa.heap.size) := Nat.lt_of_lt_of_le (heap_lt hY8) ga.size
  have HG8 : Hid (G < w8.heap.size) := heap_lt hY8
  have hT0 : StoreS (fun b => b ≠ G ∧ b ≠ wa.heap.size + 1 + 1) s _ _ := (hS8.grow (ga.trans gb)).mono fun b h => ⟨by omega, by have := HGA.out; omega⟩
  have hU0 : StoreS (fun b => b ≠ G ∧ b ≠ wa.heap.size + 1 + 1) U _ _ := (ha.capd.grow gb).mono fun b h => ⟨by have := HG8.out; have h1 := h.1; exact fun e => h1.elim (fun x => by omega) (fun x => by omega), by have := h.2; omega⟩
  have gwb := gw8.trans (ga.trans gb)
  clear ha ga gb gw8 hY8 hS8 y0 y1 y2 y3
  go_wp2_with fail
  obtain ⟨C, hC⟩ : ∃ C, C = wa.heap.size := ⟨_, rfl⟩
  rw [← hC] at hu0 hp0 hq0 hT0 hU0 HGA ⊢
  clear hC
  generalize World.alloc (World.alloc (World.alloc wa _) _) _ = W9 at *
  obtain ⟨D, hD⟩ : ∃ D, D = C + 1 + 1 := ⟨_, rfl⟩
  have HGD : Hid (G < D ∧ C + 1 < D) := by have := HGA.out; exact ⟨by omega, by omega⟩
  have HCD : Hid (G < C ∧ C < D ∧ C + 1 < D) := by have := HGA.out; exact ⟨by omega, by omega, by omega⟩
  rw [← hD] at hq0 hT0 hU0 ⊢
  clear hD HGA
  go_loopw [54] (fun i wr => ∃ k : Nat, k ≤ 6 ∧ i = .int .i64 (k : Int) ∧ Grow w wr ∧ (∃ b5 e5 l5 m5 i5 j5, wr.heap[G]? = some (.cells #[.slice b5 (scrubN k s).dk.blocks.length e5, .slice l5 (scrubN k s).dk.late.length m5, .slice i5 (scrubN k s).idx.length j5, .int .i64 (scrubN k s).next] 29 (0, 0)) ∧ StoreS (fun b => b ≠ G ∧ b ≠ D) (scrubN k s) (.agg #[.slice b5 (scrubN k s).dk.blocks.length e5, .slice l5 (scrubN k s).dk.late.length m5, .slice i5 (scrubN k s).idx.length j5, .int .i64 (scrubN k s).next]) wr) ∧ wr.heap[C]? = some (.cells #[.slice b4' U.dk.blocks.length e4', .slice l4' U.dk.late.length m4', .slice i4' U.idx.length j4', .int .i64 U.next] 29 (0, 0)) ∧ StoreS (fun b => b ≠ G ∧ b ≠ D) U (.agg #[.slice b4' U.dk.blocks.length e4', .slice l4' U.dk.late.length m4', .slice i4' U.idx.length j4', .int .i64 U.next]) wr ∧ wr.heap[C + 1]? = some (.cells (repA (wasN s 6)) 39 (0, 0)) ∧ wr.heap[D]? = some (.cells (repA (wasN s k)) 39 (0, 0))) (fun i _ => 6 - (intOf i).toNat)
  case atStart => exact ⟨0, by omega, rfl, gwb, ⟨_, _, _, _, _, _, hs0, hT0⟩, hu0, hU0, hp0, hq0⟩
  case round =>
   clear gwb hs0 hT0 hu0 hU0 hp0 hq0
   obtain ⟨k, hk, rfl, gw, ⟨b5, e5, l5, m5, i5, j5, hs1, hT1⟩, hu1, hU1, hp1, hq1⟩ := hrel
   by_cases hlt : k < 6
   ·have HT : Hid (scrubN (k + 1) s = (scrubN k s).scrub) := rfl
    have HAk : Hid ((scrubN k s).At) := scrubN_at HAT.out k
    have HC : Hid (wasN s (k + 1) 0 = wasN s k 0 + (if (scrubN k s).dk.how (scrubN k s).next = 0 then 1 else 0) ∧ wasN s (k + 1) 1 = wasN s k 1 + (if (scrubN k s).dk.how (scrubN k s).next = 1 then 1 else 0) ∧ wasN s (k + 1) 2 = wasN s k 2 + (if (scrubN k s).dk.how (scrubN k s).next = 2 then 1 else 0) ∧ wasN s (k + 1) 3 = wasN s k 3 + (if (scrubN k s).dk.how (scrubN k s).next = 3 then 1 else 0) ∧ wasN s (k + 1) 4 = wasN s k 4 + (if (scrubN k s).dk.how (scrubN k s).next = 4 then 1 else 0) ∧ wasN s (k + 1) 5 = wasN s k 5 + (if (scrubN k s).dk.how (scrubN k s).next = 5 then 1 else 0)) := ⟨rfl, rfl, rfl, rfl, rfl, rfl⟩
    have hb0 := wasN_bd s k 0
    have hb1 := wasN_bd s k 1
    have hb2 := wasN_bd s k 2
    have hb3' := wasN_bd s k 3
    have hb4 := wasN_bd s k 4
    have hb5 := wasN_bd s k 5
    have hHb := how_bd (scrubN k s).dk (scrubN k s).next
    generalize scrubN k s = t at *
    obtain ⟨z0, z1, z2, z3⟩ := box4 hs1 rfl rfl rfl rfl
    go_wp2_with fail
    refine (rscrub_any _ 0 t _ wr (fun b h => h.2) hT1.capd HAk.out.ok.disk (by omega) HAk.out.low (by have := HAk.out.high; omega)).mono ?_
    obtain ⟨T, hTT⟩ : ∃ T, T = t.scrub := ⟨_, rfl⟩
    rw [← hTT] at HT ⊢
    generalize t.dk.how t.next = H2 at *
    rintro r w1 ⟨v1, rfl, h1, g1⟩
    obtain ⟨b7, e7, l7, m7, i7, j7, hv1, -, -, -⟩ := h1.form
    subst hv1
    have g2 := grow_alloc w1 (.cells #[.slice b7 T.dk.blocks.length e7, .slice l7 T.dk.late.length m7, .slice i7 T.idx.length j7, .int .i64 T.next] 29)
    have hz1 := heap_new w1 #[.slice b7 T.dk.blocks.length e7, .slice l7 T.dk.late.length m7, .slice i7 T.idx.length j7, .int .i64 T.next] 29
    have g12 := g1.trans g2
    have HSW : Hid (G < wr.heap.size ∧ D < wr.heap.size) := ⟨heap_lt hs1, heap_lt hq1⟩
    have HSW1 : Hid (wr.heap.size ≤ w1.heap.size) := g1.size
    have hsA := (g12.block _ (heap_lt hs1)).trans hs1
    have huA := (g12.block _ (heap_lt hu1)).trans hu1
    have hpA := (g12.block _ (heap_lt hp1)).trans hp1
    have hqA := (g12.block _ (heap_lt hq1)).trans hq1
    have hUA := hU1.grow g12
    have hTA : StoreS (fun b => b ≠ G ∧ b ≠ D) T _ _ := (h1.grow g2).mono fun b h => h.elim (fun x => x.1) (fun x => by have := HSW.out; exact ⟨by omega, by omega⟩)
    have gwA := gw.trans g12
    obtain ⟨hs2, hb2x⟩ := box_put hsA (.slice b7 T.dk.blocks.length e7) (.slice l7 T.dk.late.length m7) (.slice i7 T.idx.length j7) (.int .i64 T.next)
    have hu2 := (hb2x.block _ (heap_lt huA) (by have := HCD.out; omega)).trans huA
    have hp2 := (hb2x.block _ (heap_lt hpA) (by have := HCD.out; omega)).trans hpA
    have hq2 := (hb2x.block _ (heap_lt hqA) (by have := HGD.out; omega)).trans hqA
    have hU2 := hUA.but hb2x (fun h => h.1 rfl)
    have hT2 := hTA.but hb2x (fun h => h.1 rfl)
    have gw2 := hb2x.grow gwA HGW.out
    obtain ⟨x0, x1, x2, x3⟩ := box4 hz1 rfl rfl rfl rfl
    obtain ⟨v0, v1, v2, v3⟩ := box4 hsA rfl rfl rfl rfl
    obtain ⟨u0, u1, u2, u3⟩ := boxf4 hsA
    have cs := cell_set
    clear z0 z1 z2 z3 hs1 hT1 hu1 hU1 hp1 hq1 h1 g1 g2 g12 hz1 hsA huA hpA hqA hUA hTA gwA hb2x gw hTT
    go_upto_region 12 with fail
    clear x0 x1 x2 x3 v0 v1 v2 v3 u0 u1 u2 u3 cs
    generalize World.setCell (World.setCell (World.setCell (World.setCell _ _ _) _ _) _ _) _ _ = W2 at *
    unfold repA at hq2
    generalize wasN s k 0 = c0 at *
    generalize wasN s k 1 = c1 at *
    generalize wasN s k 2 = c2 at *
    generalize wasN s k 3 = c3 at *
    generalize wasN s k 4 = c4 at *
    generalize wasN s k 5 = c5 at *
    have hH6 : H2 = 0 ∨ H2 = 1 ∨ H2 = 2 ∨ H2 = 3 ∨ H2 = 4 ∨ H2 = 5 := by omega
    clear hHb
    rcases hH6 with rfl | rfl | rfl | rfl | rfl | rfl
    ·have hr3 : (W2.setCell ⟨D, 0, none⟩ (.int .i64 (c0 + 1))).heap[D]? = some (.cells #[.int .i64 (c0 + 1), .int .i64 (c1), .int .i64 (c2), .int .i64 (c3), .int .i64 (c4), .int .i64 (c5)] 39 (0, 0)) := heap_set hq2 0 _
     have hb3 := (GrowBut.refl D W2).set 0 none (.int .i64 (c0 + 1))
     have y0 := box_cell hq2 0 _ rfl
     have f0 := box_frozen hq2 0
     have hs3 := (hb3.block _ (heap_lt hs2) (by have := HGD.out; omega)).trans hs2
     have hu3 := (hb3.block _ (heap_lt hu2) (by have := HCD.out; omega)).trans hu2
     have hp3 := (hb3.block _ (heap_lt hp2) (by have := HCD.out; omega)).trans hp2
     have hT3 := hT2.but hb3 (fun h => h.2 rfl)
     have hU3 := hU2.but hb3 (fun h => h.2 rfl)
     have gw3 := hb3.grow gw2 (by have := HGD.out; have := HGW.out; omega)
     obtain ⟨n0, n1, n2, n3, n4, n5⟩ := HC.out
     simp only [Int.reduceEq, if_true, if_false, Int.add_zero] at n0 n1 n2 n3 n4 n5
     have HN : Hid _ := And.intro n0 (And.intro n1 (And.intro n2 (And.intro n3 (And.intro n4 n5))))
     clear n0 n1 n2 n3 n4 n5 HC hq2 hs2 hu2 hp2 hT2 hU2 gw2 hb3
     go_wp2_with fail
     go_roundw
     case rel => exact ⟨k + 1, by omega, by go_num, gw3, ⟨_, _, _, _, _, _, by rw [HT.out]; exact hs3, by rw [HT.out]; exact hT3⟩, hu3, hU3, hp3, by unfold repA; obtain ⟨n0, n1, n2, n3, n4, n5⟩ := HN.out; rw [n0, n1, n2, n3, n4, n5]; exact hr3⟩
     case measure => simp [intOf]; omega
    ·have hr3 : (W2.setCell ⟨D, 1, none⟩ (.int .i64 (c1 + 1))).heap[D]? = some (.cells #[.int .i64 (c0), .int .i64 (c1 + 1), .int .i64 (c2), .int .i64 (c3), .int .i64 (c4), .int .i64 (c5)] 39 (0, 0)) := heap_set hq2 1 _
     have hb3 := (GrowBut.refl D W2).set 1 none (.int .i64 (c1 + 1))
     have y0 := box_cell hq2 1 _ rfl
     have f0 := box_frozen hq2 1
     have hs3 := (hb3.block _ (heap_lt hs2) (by have := HGD.out; omega)).trans hs2
     have hu3 := (hb3.block _ (heap_lt hu2) (by have := HCD.out; omega)).trans hu2
     have hp3 := (hb3.block _ (heap_lt hp2) (by have := HCD.out; omega)).trans hp2
     have hT3 := hT2.but hb3 (fun h => h.2 rfl)
     have hU3 := hU2.but hb3 (fun h => h.2 rfl)
     have gw3 := hb3.grow gw2 (by have := HGD.out; have := HGW.out; omega)
     obtain ⟨n0, n1, n2, n3, n4, n5⟩ := HC.out
     simp only [Int.reduceEq, if_true, if_false, Int.add_zero] at n0 n1 n2 n3 n4 n5
     have HN : Hid _ := And.intro n0 (And.intro n1 (And.intro n2 (And.intro n3 (And.intro n4 n5))))
     clear n0 n1 n2 n3 n4 n5 HC hq2 hs2 hu2 hp2 hT2 hU2 gw2 hb3
     go_wp2_with fail
     go_roundw
     case rel => exact ⟨k + 1, by omega, by go_num, gw3, ⟨_, _, _, _, _, _, by rw [HT.out]; exact hs3, by rw [HT.out]; exact hT3⟩, hu3, hU3, hp3, by unfold repA; obtain ⟨n0, n1, n2, n3, n4, n5⟩ := HN.out; rw [n0, n1, n2, n3, n4, n5]; exact hr3⟩
     case measure => simp [intOf]; omega
    ·have hr3 : (W2.setCell ⟨D, 2, none⟩ (.int .i64 (c2 + 1))).heap[D]? = some (.cells #[.int .i64 (c0), .int .i64 (c1), .int .i64 (c2 + 1), .int .i64 (c3), .int .i64 (c4), .int .i64 (c5)] 39 (0, 0)) := heap_set hq2 2 _
     have hb3 := (GrowBut.refl D W2).set 2 none (.int .i64 (c2 + 1))
     have y0 := box_cell hq2 2 _ rfl
     have f0 := box_frozen hq2 2
     have hs3 := (hb3.block _ (heap_lt hs2) (by have := HGD.out; omega)).trans hs2
     have hu3 := (hb3.block _ (heap_lt hu2) (by have := HCD.out; omega)).trans hu2
     have hp3 := (hb3.block _ (heap_lt hp2) (by have := HCD.out; omega)).trans hp2
     have hT3 := hT2.but hb3 (fun h => h.2 rfl)
     have hU3 := hU2.but hb3 (fun h => h.2 rfl)
     have gw3 := hb3.grow gw2 (by have := HGD.out; have := HGW.out; omega)
     obtain ⟨n0, n1, n2, n3, n4, n5⟩ := HC.out
     simp only [Int.reduceEq, if_true, if_false, Int.add_zero] at n0 n1 n2 n3 n4 n5
     have HN : Hid _ := And.intro n0 (And.intro n1 (And.intro n2 (And.intro n3 (And.intro n4 n5))))
     clear n0 n1 n2 n3 n4 n5 HC hq2 hs2 hu2 hp2 hT2 hU2 gw2 hb3
     go_wp2_with fail
     go_roundw
     case rel => exact ⟨k + 1, by omega, by go_num, gw3, ⟨_, _, _, _, _, _, by rw [HT.out]; exact hs3, by rw [HT.out]; exact hT3⟩, hu3, hU3, hp3, by unfold repA; obtain ⟨n0, n1, n2, n3, n4, n5⟩ := HN.out; rw [n0, n1, n2, n3, n4, n5]; exact hr3⟩
     case measure => simp [intOf]; omega
    ·have hr3 : (W2.setCell ⟨D, 3, none⟩ (.int .i64 (c3 + 1))).heap[D]? = some (.cells #[.int .i64 (c0), .int .i64 (c1), .int .i64 (c2), .int .i64 (c3 + 1), .int .i64 (c4), .int .i64 (c5)] 39 (0, 0)) := heap_set hq2 3 _
     have hb3 := (GrowBut.refl D W2).set 3 none (.int .i64 (c3 + 1))
     have y0 := box_cell hq2 3 _ rfl
     have f0 := box_frozen hq2 3
     have hs3 := (hb3.block _ (heap_lt hs2) (by have := HGD.out; omega)).trans hs2
     have hu3 := (hb3.block _ (heap_lt hu2) (by have := HCD.out; omega)).trans hu2
     have hp3 := (hb3.block _ (heap_lt hp2) (by have := HCD.out; omega)).trans hp2
     have hT3 := hT2.but hb3 (fun h => h.2 rfl)
     have hU3 := hU2.but hb3 (fun h => h.2 rfl)
     have gw3 := hb3.grow gw2 (by have := HGD.out; have := HGW.out; omega)
     obtain ⟨n0, n1, n2, n3, n4, n5⟩ := HC.out
     simp only [Int.reduceEq, if_true, if_false, Int.add_zero] at n0 n1 n2 n3 n4 n5
     have HN : Hid _ := And.intro n0 (And.intro n1 (And.intro n2 (And.intro n3 (And.intro n4 n5))))
     clear n0 n1 n2 n3 n4 n5 HC hq2 hs2 hu2 hp2 hT2 hU2 gw2 hb3
     go_wp2_with fail
     go_roundw
     case rel => exact ⟨k + 1, by omega, by go_num, gw3, ⟨_, _, _, _, _, _, by rw [HT.out]; exact hs3, by rw [HT.out]; exact hT3⟩, hu3, hU3, hp3, by unfold repA; obtain ⟨n0, n1, n2, n3, n4, n5⟩ := HN.out; rw [n0, n1, n2, n3, n4, n5]; exact hr3⟩
     case measure => simp [intOf]; omega
    ·have hr3 : (W2.setCell ⟨D, 4, none⟩ (.int .i64 (c4 + 1))).heap[D]? = some (.cells #[.int .i64 (c0), .int .i64 (c1), .int .i64 (c2), .int .i64 (c3), .int .i64 (c4 + 1), .int .i64 (c5)] 39 (0, 0)) := heap_set hq2 4 _
     have hb3 := (GrowBut.refl D W2).set 4 none (.int .i64 (c4 + 1))
     have y0 := box_cell hq2 4 _ rfl
     have f0 := box_frozen hq2 4
     have hs3 := (hb3.block _ (heap_lt hs2) (by have := HGD.out; omega)).trans hs2
     have hu3 := (hb3.block _ (heap_lt hu2) (by have := HCD.out; omega)).trans hu2
     have hp3 := (hb3.block _ (heap_lt hp2) (by have := HCD.out; omega)).trans hp2
     have hT3 := hT2.but hb3 (fun h => h.2 rfl)
     have hU3 := hU2.but hb3 (fun h => h.2 rfl)
     have gw3 := hb3.grow gw2 (by have := HGD.out; have := HGW.out; omega)
     obtain ⟨n0, n1, n2, n3, n4, n5⟩ := HC.out
     simp only [Int.reduceEq, if_true, if_false, Int.add_zero] at n0 n1 n2 n3 n4 n5
     have HN : Hid _ := And.intro n0 (And.intro n1 (And.intro n2 (And.intro n3 (And.intro n4 n5))))
     clear n0 n1 n2 n3 n4 n5 HC hq2 hs2 hu2 hp2 hT2 hU2 gw2 hb3
     go_wp2_with fail
     go_roundw
     case rel => exact ⟨k + 1, by omega, by go_num, gw3, ⟨_, _, _, _, _, _, by rw [HT.out]; exact hs3, by rw [HT.out]; exact hT3⟩, hu3, hU3, hp3, by unfold repA; obtain ⟨n0, n1, n2, n3, n4, n5⟩ := HN.out; rw [n0, n1, n2, n3, n4, n5]; exact hr3⟩
     case measure => simp [intOf]; omega
    ·have hr3 : (W2.setCell ⟨D, 5, none⟩ (.int .i64 (c5 + 1))).heap[D]? = some (.cells #[.int .i64 (c0), .int .i64 (c1), .int .i64 (c2), .int .i64 (c3), .int .i64 (c4), .int .i64 (c5 + 1)] 39 (0, 0)) := heap_set hq2 5 _
     have hb3 := (GrowBut.refl D W2).set 5 none (.int .i64 (c5 + 1))
     have y0 := box_cell hq2 5 _ rfl
     have f0 := box_frozen hq2 5
     have hs3 := (hb3.block _ (heap_lt hs2) (by have := HGD.out; omega)).trans hs2
     have hu3 := (hb3.block _ (heap_lt hu2) (by have := HCD.out; omega)).trans hu2
     have hp3 := (hb3.block _ (heap_lt hp2) (by have := HCD.out; omega)).trans hp2
     have hT3 := hT2.but hb3 (fun h => h.2 rfl)
     have hU3 := hU2.but hb3 (fun h => h.2 rfl)
     have gw3 := hb3.grow gw2 (by have := HGD.out; have := HGW.out; omega)
     obtain ⟨n0, n1, n2, n3, n4, n5⟩ := HC.out
     simp only [Int.reduceEq, if_true, if_false, Int.add_zero] at n0 n1 n2 n3 n4 n5
     have HN : Hid _ := And.intro n0 (And.intro n1 (And.intro n2 (And.intro n3 (And.intro n4 n5))))
     clear n0 n1 n2 n3 n4 n5 HC hq2 hs2 hu2 hp2 hT2 hU2 gw2 hb3
     go_wp2_with fail
     go_roundw
     case rel => exact ⟨k + 1, by omega, by go_num, gw3, ⟨_, _, _, _, _, _, by rw [HT.out]; exact hs3, by rw [HT.out]; exact hT3⟩, hu3, hU3, hp3, by unfold repA; obtain ⟨n0, n1, n2, n3, n4, n5⟩ := HN.out; rw [n0, n1, n2, n3, n4, n5]; exact hr3⟩
     case measure => simp [intOf]; omega
   ·obtain rfl : k = 6 := by omega
    rw [← HU.out] at hs1 hT1
    unfold repA at hp1 hq1
    have HAU : Hid (U.At) := by rw [HU.out]; exact scrubN_at HAT.out 6
    clear HU hlt
    generalize wasN s 6 0 = c0 at *
    generalize wasN s 6 1 = c1 at *
    generalize wasN s 6 2 = c2 at *
    generalize wasN s 6 3 = c3 at *
    generalize wasN s 6 4 = c4 at *
    generalize wasN s 6 5 = c5 at *
    have he := eq_rep c0 c1 c2 c3 c4 c5 wr
    obtain ⟨p0, p1, p2, p3, p4⟩ := box5 hp1 rfl rfl rfl rfl rfl
    have p5 := box_cell hp1 5 _ rfl
    obtain ⟨q0, q1, q2, q3, q4⟩ := box5 hq1 rfl rfl rfl rfl rfl
    have q5 := box_cell hq1 5 _ rfl
    obtain ⟨y0, y1, y2, y3⟩ := box4 hs1 rfl rfl rfl rfl
    obtain ⟨z0, z1, z2, z3⟩ := box4 hu1 rfl rfl rfl rfl
    obtain ⟨a1, a2, a3⟩ := at_same9 HAU.out
    have HQ : Hid _ := And.intro a1 (And.intro a2 a3)
    have HSM : Hid (U.same U = true) := St.same_refl U
    clear a1 a2 a3
    go_wp2_with fail
    refine (rsameS_any U U _ _ _ _ wr hU1 hT1 HQ.out.1 HQ.out.2.1 HQ.out.2.2).mono ?_
    rw [HSM.out]
    rintro r w9 ⟨rfl, g9⟩
    have gE := gw.trans g9
    clear p0 p1 p2 p3 p4 p5 q0 q1 q2 q3 q4 q5 y0 y1 y2 y3 z0 z1 z2 z3 he hs1 hT1 hu1 hU1 hp1 hq1 g9
    go_wp2_with fail
    go_ret
    exact ⟨rfl, gE⟩
end Go.Proofs.YtlickojpmffmiacGreat
