import Derived.Test.YtlickojpmffmiacInv
import Derived.Test.YtlickojpmffmiacIdxH
set_option maxHeartbeats 8000000
namespace Go.Proofs.Ytlickojpmffmiac
set_option maxRecDepth 100000
open Go.RowKit
open Plain Reg
theorem pbehind_any (p : Int) (w : World) (h0 : 0 ≤ p) (h1 : p < 6) :
  Calls Try.prog 39 #[.int .i64 p] w fun r w' => r = .returned (.int .i64 ((p + 1) % 6)) ∧ Grow w w' := by
 by_cases h5 : p < 5
 ·have e : (p + 1) % 6 = p + 1 := by omega
  rw [e]
  go_enter Try.func39, Try.ntmps39
  go_wp2_with fail
  go_ret
  exact ⟨rfl, Grow.refl w⟩
 ·have e : (p + 1) % 6 = 0 := by omega
  rw [e]
  go_enter Try.func39, Try.ntmps39
  go_wp2_with fail
  go_ret
  exact ⟨rfl, Grow.refl w⟩
theorem pscOne_any (S : Nat → Prop) (s : St) (v : Value) (w : World) (hS : ∀ b, S b → b < w.heap.size) (hs : StoreS S s v w) (hA : s.At) :
  Calls Try.prog 23 #[v] w fun r w' => ∃ v', r = .returned (.tuple #[v', .int .i64 (s.dk.how s.next)]) ∧ StoreS (Upon S w.heap.size) s.scrub v' w' ∧ Grow w w' := by
 obtain ⟨ab, cb, al, cl, ai, ci, rfl, hb, hl, -⟩ := hs.form
 have g0 := grow_alloc2 w (.cells #[.slice ab s.dk.blocks.length cb, .slice al s.dk.late.length cl, .slice ai s.idx.length ci, .int .i64 s.next] 30) zeroS
 have hs0 := heap_new w #[.slice ab s.dk.blocks.length cb, .slice al s.dk.late.length cl, .slice ai s.idx.length ci, .int .i64 s.next] 30
 have hz0 := heap_new (w.alloc (.cells #[.slice ab s.dk.blocks.length cb, .slice al s.dk.late.length cl, .slice ai s.idx.length ci, .int .i64 s.next] 30)) #[.slice none 0 0, .slice none 0 0, .slice none 0 0, .int .i64 0] 30
 have hss := ((grow_alloc (w.alloc (.cells #[.slice ab s.dk.blocks.length cb, .slice al s.dk.late.length cl, .slice ai s.idx.length ci, .int .i64 s.next] 30)) zeroS).block _ (heap_lt hs0)).trans hs0
 rw [World.size_alloc] at hz0
 clear hs0 hs
 have HF : Hid (s.dk.Fine 0) := hA.ok.disk
 have hx0 := hA.low
 have hx6 := hA.high
 have HFM : Hid ((s.dk.mendD s.next).Fine 2) := HF.out.mend s.next
 obtain ⟨MD, hMD⟩ : ∃ MD, MD = s.dk.mendD s.next := ⟨_, rfl⟩
 obtain ⟨FD, hFD⟩ : ∃ FD, FD = MD.flush := ⟨_, rfl⟩
 obtain ⟨H, hH⟩ : ∃ H, H = s.dk.how s.next := ⟨_, rfl⟩
 have HSC : Hid (s.scrub = ⟨FD, scanE FD 6, (s.next + 1) % 6⟩) := by show _ = _; rw [hFD, hMD]; rfl
 rw [HSC.out, ← hH]
 rw [← hMD] at HFM
 have HFF : Hid (FD.Fine 0) := by rw [hFD]; exact HFM.out.flush
 have HMD : Hid _ := hMD
 have HFD : Hid _ := hFD
 have HH : Hid _ := hH
 clear hMD hFD hH HSC hA
 go_enter Try.func23, Try.ntmps23
 obtain ⟨s0, s1⟩ := box2 hss rfl rfl
 have s3 := box_cell hss 3 _ rfl
 go_wp2_with fail
 obtain ⟨W, hW⟩ : ∃ W, W = (w.alloc (.cells #[.slice ab s.dk.blocks.length cb, .slice al s.dk.late.length cl, .slice ai s.idx.length ci, .int .i64 s.next] 30)).alloc zeroS := ⟨_, rfl⟩
 have hWs : W.heap.size = w.heap.size + 2 := by rw [hW]; simp
 rw [← hW] at g0 hss hz0 s0 s1 s3 ⊢
 clear hW
 refine (mendC S s.dk s.next _ W (fun b h => by have := hS b h; omega) (HF.out.mono (by omega)) ⟨_, _, rfl, hb.grow g0, hl.grow g0⟩).mono ?_
 rintro r w1 ⟨D1, v1, h9, rfl, h1, g1, hD1, -, -⟩
 obtain ⟨e9, e8⟩ := hD1 hx0 hx6
 rw [← HH.out] at e9
 rw [← HMD.out] at e8
 replace e9 := e9.symm
 replace e8 := e8.symm
 subst e9
 subst e8
 rw [hWs] at h1
 obtain ⟨b1, e1, l1, m1, rfl, h1b, h1l⟩ := h1.form
 have hs1 := (g1.block _ (heap_lt hss)).trans hss
 have hz1 := (g1.block _ (heap_lt hz0)).trans hz0
 have gw1 := g0.trans g1
 have g2 := grow_alloc w1 (.cells #[.slice b1 MD.blocks.length e1, .slice l1 MD.late.length m1] 27)
 have hD2 := heap_new w1 #[.slice b1 MD.blocks.length e1, .slice l1 MD.late.length m1] 27
 have hs2 := (g2.block _ (heap_lt hs1)).trans hs1
 have hz2 := (g2.block _ (heap_lt hz1)).trans hz1
 have gw2 := gw1.trans g2
 have v1 := h1b.p.grow g2
 have v2 := h1l.p.grow g2
 have HW1 : Hid (w.heap.size + 2 ≤ w1.heap.size) := heap_lt hz1
 clear s0 s1 s3 hss hz0 g0 g1 h1 h1b h1l hs1 hz1 gw1 hb hl hD1 HF HH HMD
 obtain ⟨y0, y1⟩ := box2 hD2 rfl rfl
 go_wp2_with fail
 have HW2 : Hid (w.heap.size + 2 ≤ (w1.alloc (.cells #[.slice b1 MD.blocks.length e1, .slice l1 MD.late.length m1] 27)).heap.size) := Nat.le_trans HW1.out g2.size
 generalize World.alloc w1 _ = W2 at *
 refine (flushP_any MD _ _ W2 v1 v2 (by rw [HFM.out.len]; omega) (by rw [HFM.out.len]; omega) (Nat.le_trans HFM.out.few (by omega)) HFM.out.b16 HFM.out.l16 HFM.out.pl).mono ?_
 rw [← HFD.out]
 rintro r w3 ⟨v3, rfl, hQ3, g3⟩
 have h3 := hQ3.s S
 obtain ⟨b3, e3, l3, m3, rfl, h3b, h3l⟩ := h3.form
 have g4 := grow_alloc w3 (.cells #[.slice b3 FD.blocks.length e3, .slice l3 FD.late.length m3] 27)
 have ht1 := heap_new w3 #[.slice b3 FD.blocks.length e3, .slice l3 FD.late.length m3] 27
 have hs4 := ((g3.trans g4).block _ (heap_lt hs2)).trans hs2
 have hz4 := ((g3.trans g4).block _ (heap_lt hz2)).trans hz2
 have gw4 := gw2.trans (g3.trans g4)
 have p1 := (h3b.grow g4).mono (upon_le (B := w.heap.size + 2) HW2.out)
 have p2 := (h3l.grow g4).mono (upon_le (B := w.heap.size + 2) HW2.out)
 have HW3 : Hid (w.heap.size + 2 ≤ w3.heap.size) := Nat.le_trans HW2.out g3.size
 clear y0 y1 hD2 hs2 hz2 gw2 g2 g3 g4 h3 hQ3 h3b h3l v1 v2 HFM
 go_wp2_with fail
 obtain ⟨gd, hgd⟩ : ∃ gd, gd = w3.heap.size := ⟨_, rfl⟩
 rw [← hgd] at HW3 ht1 ⊢
 clear hgd
 generalize World.alloc w3 _ = W4 at *
 refine wp_region_v [pl (ex (.agg #[.slice b3 FD.blocks.length e3, .slice l3 FD.late.length m3])), pl (ex (.agg #[.slice b3 FD.blocks.length e3, .slice l3 FD.late.length m3])), pl ((fun v w' => EntsS (Upon S (w.heap.size + 2)) w' v (scanE FD 6))), pl (ex (.pointer (some ⟨w.heap.size, 3, none⟩))), pl (ex (.int .i64 s.next)), pl (ex (.int .i64 ((s.next + 1) % 6))), pl ((fun v w' => ∃ ai ci, v = .agg #[.slice b3 FD.blocks.length e3, .slice l3 FD.late.length m3, .slice ai (scanE FD 6).length ci, .int .i64 ((s.next + 1) % 6)] ∧ EntsS (Upon S (w.heap.size + 2)) w' (.slice ai (scanE FD 6).length ci) (scanE FD 6))), pl (ex (.int .i64 H)), pl ((fun _ w' => ∃ ai ci, w'.heap[w.heap.size + 1]? = some (.cells #[.slice b3 FD.blocks.length e3, .slice l3 FD.late.length m3, .slice ai (scanE FD 6).length ci, .int .i64 ((s.next + 1) % 6)] 30 (0, 0)) ∧ EntsS (Upon S (w.heap.size + 2)) w' (.slice ai (scanE FD 6).length ci) (scanE FD 6))), pl (ex (.int .i64 H))] [none, none, none, none, none, none, none, none, some ((ButStep (w.heap.size + 1)))] (fun dn w' => Grow w w' ∧ w.heap.size + 2 ≤ w'.heap.size ∧ w'.heap[gd]? = some (.cells #[.slice b3 FD.blocks.length e3, .slice l3 FD.late.length m3] 27 (0, 0)) ∧ w'.heap[w.heap.size]? = some (.cells #[.slice ab s.dk.blocks.length cb, .slice al s.dk.late.length cl, .slice ai s.idx.length ci, .int .i64 s.next] 30 (0, 0)) ∧ BlocksS (Upon S (w.heap.size + 2)) w' (.slice b3 FD.blocks.length e3) FD.blocks ∧ LateS (Upon S (w.heap.size + 2)) w' (.slice l3 FD.late.length m3) FD.late ∧ (dn 8 = false → w'.heap[w.heap.size + 1]? = some zeroS)) (by kernel_rfl) (by kernel_rfl) ⟨st_pl (st_ex _), st_pl (st_ex _), st_pl ((fun _ _ _ hg h => SliceS.grow h hg)), st_pl (st_ex _), st_pl (st_ex _), st_pl (st_ex _), st_pl ((fun _ _ _ hg ⟨ai, ci, h1, h2⟩ => ⟨ai, ci, h1, SliceS.grow h2 hg⟩)), st_pl (st_ex _), st_pl ((fun _ _ _ hg ⟨ai, ci, h1, h2⟩ => ⟨ai, ci, (hg.block _ (heap_lt h1)).trans h1, SliceS.grow h2 hg⟩)), st_pl (st_ex _), trivial⟩ ⟨⟨(fun w => GrowBut.refl _ w), ⟨.inr (fun _ _ _ _ _ h => h), .inr (fun _ _ _ _ _ h => h), .inr ((fun v _ w1 w' hs hq => SliceS.but hq hs (upon_not (fun b h => Nat.lt_succ_of_lt (hS b h)) (Nat.lt_succ_self _)))), .inr (fun _ _ _ _ _ h => h), .inr (fun _ _ _ _ _ h => h), .inr (fun _ _ _ _ _ h => h), .inr ((fun v _ w1 w' hs ⟨ai, ci, h1, h2⟩ => ⟨ai, ci, h1, SliceS.but h2 hs (upon_not (fun b h => Nat.lt_succ_of_lt (hS b h)) (Nat.lt_succ_self _))⟩)), .inr (fun _ _ _ _ _ h => h), .inl (by kernel_rfl), .inl (by kernel_rfl), trivial⟩⟩, trivial⟩ ⟨(fun h => by cases h), (fun h => by cases h), (fun h => by cases h), (fun h => by cases h), (fun h => by cases h), (fun h => by cases h), (fun h => by cases h), (fun h => by cases h), fun _ _ _ _ h => h, (fun h => by cases h), trivial⟩ ⟨gw4.drew, heap_lt hz4, ht1, hs4, p1, p2, fun _ => hz4⟩ ?_ ?_
 ·refine ⟨?_, ?_, ?_, ?_, ?_, ?_, ?_, ?_, ?_, ?_, trivial⟩
  ·refine needv_plain rfl (fun a w' dn hr hg hin => ?_)
   have e6 : a.eval (.tmp 6) = .pointer (some ⟨gd, 0, none⟩) := insw_ext hin 6 (by kernel_rfl)
   have z0 := box_cell hg.2.2.1 0 _ rfl
   have z1 := box_cell hg.2.2.1 1 _ rfl
   refine uponw_val ?_ hg rfl
   clear hin hg hr
   obtain ⟨ek, ef⟩ := evs a
   generalize a.eval = ev at *
   go_simp
   all_goals first | omega | (intro _; omega) | go_arith
  ·refine needv_plain rfl (fun a w' dn hr hg hin => ?_)
   have e6 : a.eval (.tmp 6) = .pointer (some ⟨gd, 0, none⟩) := insw_ext hin 6 (by kernel_rfl)
   have z0 := box_cell hg.2.2.1 0 _ rfl
   have z1 := box_cell hg.2.2.1 1 _ rfl
   refine uponw_val ?_ hg rfl
   clear hin hg hr
   obtain ⟨ek, ef⟩ := evs a
   generalize a.eval = ev at *
   go_simp
   all_goals first | omega | (intro _; omega) | go_arith
  ·refine needv_plain rfl (fun a w' dn hr hg hin => ?_)
   have e18 : a.eval (.tmp 18) = _ := insw_on hin 1 (by kernel_rfl)
   refine uponw_call (f := 38) (args := #[.agg #[.slice b3 FD.blocks.length e3, .slice l3 FD.late.length m3]]) ?_ ((pscan_any FD _ w' (HFF.out.mono (by omega)) ⟨_, _, rfl, hg.2.2.2.2.1.p, hg.2.2.2.2.2.1.p⟩).mono ?_)
   ·clear hin hg hr
    obtain ⟨ek, ef⟩ := evs a
    generalize a.eval = ev at *
    go_simp
    all_goals first | omega | (intro _; omega) | go_arith
   ·rintro e w2 ⟨v2, rfl, hE, g2⟩
    exact ⟨_, rfl, g2, ⟨hg.1.trans g2, Nat.le_trans hg.2.1 g2.size, (g2.block _ (heap_lt hg.2.2.1)).trans hg.2.2.1, (g2.block _ (heap_lt hg.2.2.2.1)).trans hg.2.2.2.1, hg.2.2.2.2.1.grow g2, hg.2.2.2.2.2.1.grow g2, fun h => (g2.block _ (heap_lt (hg.2.2.2.2.2.2 h))).trans (hg.2.2.2.2.2.2 h)⟩, hE.mono fun b h => .inr (Nat.le_trans hg.2.1 h)⟩
  ·refine needv_plain rfl (fun a w' dn hr hg hin => ?_)
   have e1 : a.eval (.tmp 1) = .pointer (some ⟨w.heap.size, 0, none⟩) := insw_ext hin 1 (by kernel_rfl)
   refine uponw_val ?_ hg rfl
   clear hin hg
   obtain ⟨ek, ef⟩ := evs a
   generalize a.eval = ev at *
   go_simp
   all_goals first | omega | (intro _; omega) | go_arith
  ·refine needv_plain rfl (fun a w' dn hr hg hin => ?_)
   have e20 : a.eval (.tmp 20) = _ := insw_on hin 3 (by kernel_rfl)
   have z3 := box_cell hg.2.2.2.1 3 _ rfl
   refine uponw_val ?_ hg rfl
   clear hin hg hr
   obtain ⟨ek, ef⟩ := evs a
   generalize a.eval = ev at *
   go_simp
   all_goals first | omega | (intro _; omega) | go_arith
  ·refine needv_plain rfl (fun a w' dn hr hg hin => ?_)
   have e21 : a.eval (.tmp 21) = _ := insw_on hin 4 (by kernel_rfl)
   refine uponw_call (f := 39) (args := #[.int .i64 s.next]) ?_ ((pbehind_any s.next w' hx0 hx6).mono ?_)
   ·clear hin hg hr
    obtain ⟨ek, ef⟩ := evs a
    generalize a.eval = ev at *
    go_simp
    all_goals first | omega | (intro _; omega) | go_arith
   ·rintro e w2 ⟨rfl, g2⟩
    exact ⟨_, rfl, g2, ⟨hg.1.trans g2, Nat.le_trans hg.2.1 g2.size, (g2.block _ (heap_lt hg.2.2.1)).trans hg.2.2.1, (g2.block _ (heap_lt hg.2.2.2.1)).trans hg.2.2.2.1, hg.2.2.2.2.1.grow g2, hg.2.2.2.2.2.1.grow g2, fun h => (g2.block _ (heap_lt (hg.2.2.2.2.2.2 h))).trans (hg.2.2.2.2.2.2 h)⟩, rfl⟩
  ·refine needv_plain rfl (fun a w' dn hr hg hin => ?_)
   have e17 : a.eval (.tmp 17) = _ := insw_on hin 0 (by kernel_rfl)
   have e19 : ((fun v w' => EntsS (Upon S (w.heap.size + 2)) w' v (scanE FD 6))) (a.eval (.tmp 19)) w' := insw_on hin 2 (by kernel_rfl)
   have e22 : a.eval (.tmp 22) = _ := insw_on hin 5 (by kernel_rfl)
   obtain ⟨ai, ci, h7⟩ := SliceS.form e19
   rw [h7] at e19
   refine uponw_val (v := .agg #[.slice b3 FD.blocks.length e3, .slice l3 FD.late.length m3, .slice ai (scanE FD 6).length ci, .int .i64 ((s.next + 1) % 6)]) ?_ hg ⟨ai, ci, rfl, e19⟩
   clear hin hg hr e19
   obtain ⟨ek, ef⟩ := evs a
   generalize a.eval = ev at *
   go_simp
   all_goals first | omega | (intro _; omega) | go_arith
  ·refine needv_plain rfl (fun a w' dn hr hg hin => ?_)
   have e : a.eval (.tmp 5) = .int .i64 H := insw_ext hin 5 (by kernel_rfl)
   exact uponw_move rfl hg e
  ·refine needv_plain rfl (fun a w' dn hr hg hin => ?_)
   have e2 : a.eval (.tmp 2) = .pointer (some ⟨w.heap.size + 1, 0, none⟩) := insw_ext hin 2 (by kernel_rfl)
   have e23 : ((fun v w' => ∃ ai ci, v = .agg #[.slice b3 FD.blocks.length e3, .slice l3 FD.late.length m3, .slice ai (scanE FD 6).length ci, .int .i64 ((s.next + 1) % 6)] ∧ EntsS (Upon S (w.heap.size + 2)) w' (.slice ai (scanE FD 6).length ci) (scanE FD 6))) (a.eval (.tmp 23)) w' := insw_on hin 6 (by kernel_rfl)
   obtain ⟨ai, ci, h8, hE⟩ := e23
   have hh := hg.2.2.2.2.2.2 hr.un
   obtain ⟨hq1, hq2⟩ := box_put hh (.slice b3 FD.blocks.length e3) (.slice l3 FD.late.length m3) (.slice ai (scanE FD 6).length ci) (.int .i64 ((s.next + 1) % 6))
   obtain ⟨y0, y1, y2, y3⟩ := box4 hh rfl rfl rfl rfl
   obtain ⟨f0, f1, f2, f3⟩ := boxf4 hh
   have cs := cell_set
   have hnu : ¬ Upon S (w.heap.size + 2) (w.heap.size + 1) := upon_not (fun b h => Nat.lt_succ_of_lt (hS b h)) (Nat.lt_succ_self _)
   refine uponw_skip (w' := _) ?_ hq2 ⟨hq2.grow hg.1 (by omega), Nat.le_trans hg.2.1 hq2.size, (hq2.block _ (heap_lt hg.2.2.1) (by have := HW3.out; omega)).trans hg.2.2.1, (hq2.block _ (heap_lt hg.2.2.2.1) (by omega)).trans hg.2.2.2.1, hg.2.2.2.2.1.but hq2 hnu, hg.2.2.2.2.2.1.but hq2 hnu, fun h => by simp [upd] at h⟩ ⟨ai, ci, hq1, hE.but hq2 hnu⟩
   clear hin hg hr hq1 hq2 hh hE hnu
   obtain ⟨ek, ef⟩ := evs a
   generalize a.eval = ev at *
   go_simp
   all_goals first | omega | (intro _; omega) | go_arith
  ·refine needv_plain rfl (fun a w' dn hr hg hin => ?_)
   have e : a.eval (.tmp 24) = _ := insw_on hin 7 (by kernel_rfl)
   exact uponw_assign rfl hg e
 ·intro vs w' dn hdn hg ht
  obtain ⟨q17, q18, q19, q20, q21, q22, q23, q24, qo8, q3, -⟩ := ht
  have r17 : vs 0 = .agg #[.slice b3 FD.blocks.length e3, .slice l3 FD.late.length m3] := q17
  have r18 : vs 1 = .agg #[.slice b3 FD.blocks.length e3, .slice l3 FD.late.length m3] := q18
  replace q19 : ((fun v w' => EntsS (Upon S (w.heap.size + 2)) w' v (scanE FD 6))) (vs 2) w' := q19
  have r20 : vs 3 = .pointer (some ⟨w.heap.size, 3, none⟩) := q20
  have r21 : vs 4 = .int .i64 s.next := q21
  have r22 : vs 5 = .int .i64 ((s.next + 1) % 6) := q22
  replace q23 : ((fun v w' => ∃ ai ci, v = .agg #[.slice b3 FD.blocks.length e3, .slice l3 FD.late.length m3, .slice ai (scanE FD 6).length ci, .int .i64 ((s.next + 1) % 6)] ∧ EntsS (Upon S (w.heap.size + 2)) w' (.slice ai (scanE FD 6).length ci) (scanE FD 6))) (vs 6) w' := q23
  have r24 : vs 7 = .int .i64 H := q24
  replace qo8 : ((fun _ w' => ∃ ai ci, w'.heap[w.heap.size + 1]? = some (.cells #[.slice b3 FD.blocks.length e3, .slice l3 FD.late.length m3, .slice ai (scanE FD 6).length ci, .int .i64 ((s.next + 1) % 6)] 30 (0, 0)) ∧ EntsS (Upon S (w.heap.size + 2)) w' (.slice ai (scanE FD 6).length ci) (scanE FD 6))) (vs 8) w' := qo8
  have r3 : vs 9 = .int .i64 H := q3
  clear q17 q18 q20 q21 q22 q24 q3
  simp only [putAll, Act.put, List.setIfInBounds_toArray, List.set_cons_zero, List.set_cons_succ, Nat.reduceAdd, r17, r18, r20, r21, r22, r24, r3]
  clear r17 r18 r20 r21 r22 r24 r3
  obtain ⟨a9, c9, hp, hE⟩ := qo8
  obtain ⟨y0, y1, y2, y3⟩ := box4 hp rfl rfl rfl rfl
  have gE := hg.1
  have hSt : StoreS (Upon S w.heap.size) ⟨FD, scanE FD 6, (s.next + 1) % 6⟩ (.agg #[.slice b3 FD.blocks.length e3, .slice l3 FD.late.length m3, .slice a9 (scanE FD 6).length c9, .int .i64 ((s.next + 1) % 6)]) w' := ⟨_, _, _, rfl, hg.2.2.2.2.1.mono (upon_le (by omega)), hg.2.2.2.2.2.1.mono (upon_le (by omega)), hE.mono (upon_le (by omega))⟩
  clear q19 q23 hdn hg hp hE ht1 hz4 hs4 p1 p2 gw4
  go_wp2_with fail
  exact bodyPost_ret (v := .tuple #[.agg #[.slice b3 FD.blocks.length e3, .slice l3 FD.late.length m3, .slice a9 (scanE FD 6).length c9, .int .i64 ((s.next + 1) % 6)], .int .i64 H]) (by simp [results, Try.results23, go_sem, y0, y1, y2, y3]) rfl ⟨_, rfl, hSt, gE⟩
end Go.Proofs.Ytlickojpmffmiac
