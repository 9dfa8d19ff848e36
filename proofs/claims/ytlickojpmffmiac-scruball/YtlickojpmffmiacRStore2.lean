import Derived.Test.YtlickojpmffmiacRSameR
set_option maxHeartbeats 8000000
namespace Go.Proofs.Ytlickojpmffmiac
set_option maxRecDepth 100000
open Go.RowKit
open Plain Reg
theorem box_two {w : World} {g : Nat} {T : TypeId} {f} {c0 c1 : Value} (h : w.heap[g]? = some (.cells #[c0, c1] T f)) (x0 x1 : Value) :
  ((w.setCell ⟨g, 0, none⟩ x0).setCell ⟨g, 1, none⟩ x1).heap[g]? = some (.cells #[x0, x1] T f) ∧ GrowBut g w ((w.setCell ⟨g, 0, none⟩ x0).setCell ⟨g, 1, none⟩ x1) :=
 ⟨heap_set (heap_set h 0 x0) 1 x1, ((GrowBut.refl g w).set _ _ _).set _ _ _⟩
abbrev zeroS : Obj := .cells #[.slice none 0 0, .slice none 0 0, .slice none 0 0, .int .i64 0] 30 (0, 0)
/-- Block g alone may be written. -/
def ButStep (g : Nat) (w w' : World) : Prop := GrowBut g w w'
theorem upon_not {S : Nat → Prop} {B g : Nat} (hS : ∀ b, S b → b < g) (hB : g < B) : ¬ Upon S B g := fun h => h.elim (fun x => by have := hS g x; omega) (fun x => by omega)
theorem rmount_any (S : Nat → Prop) (n : Nat) (d : Dk) (v : Value) (w : World) (hS : ∀ b, S b → b < w.heap.size) (hd : DiskS S d v w) (hF : d.Fine n) (hn : n ≤ 1000) :
  Calls Try.prog 34 #[v] w fun r w' => ∃ v', r = .returned v' ∧ StoreS (Upon S w.heap.size) (mountS d) v' w' ∧ Grow w w' := by
 obtain ⟨ab, cb, al, cl, rfl, hb, hl⟩ := hd.form
 have g0 := grow_alloc2 w (.cells #[.slice ab d.blocks.length cb, .slice al d.late.length cl] 27) zeroS
 have hD0 := heap_new w #[.slice ab d.blocks.length cb, .slice al d.late.length cl] 27
 have hZ0 := heap_new (w.alloc (.cells #[.slice ab d.blocks.length cb, .slice al d.late.length cl] 27)) #[.slice none 0 0, .slice none 0 0, .slice none 0 0, .int .i64 0] 30
 have hDD := ((grow_alloc (w.alloc (.cells #[.slice ab d.blocks.length cb, .slice al d.late.length cl] 27)) zeroS).block _ (heap_lt hD0)).trans hD0
 rw [World.size_alloc] at hZ0
 clear hD0 hb hl
 have HF : Hid (d.Fine n) := hF
 have HFK : Hid ((d.keep 0).Fine 0) := hF.kept 0
 obtain ⟨K, hK⟩ : ∃ K, K = d.keep 0 := ⟨_, rfl⟩
 have HM : Hid (mountS d = ⟨K, scanE K 6, 0⟩) := by show _ = _; rw [hK]; rfl
 rw [HM.out]
 rw [← hK] at HFK
 have HK : Hid _ := hK
 clear hK hF HM
 go_enter Try.func34, Try.ntmps34
 go_wp2_with fail
 obtain ⟨W, hW⟩ : ∃ W, W = (w.alloc (.cells #[.slice ab d.blocks.length cb, .slice al d.late.length cl] 27)).alloc zeroS := ⟨_, rfl⟩
 have hWs : W.heap.size = w.heap.size + 2 := by rw [hW]; simp
 rw [← hW] at g0 hDD hZ0 ⊢
 clear hW
 refine (rkeep_c S n d 0 _ W (fun b h => by have := hS b h; omega) (hd.grow g0) HF.out hn).mono ?_
 rw [← HK.out, hWs]
 rintro r w1 ⟨v1, rfl, h1, g1⟩
 obtain ⟨b1, e1, l1, m1, rfl, h1b, h1l⟩ := h1.form
 have hD1 := (g1.block _ (heap_lt hDD)).trans hDD
 have hZ1 := (g1.block _ (heap_lt hZ0)).trans hZ0
 have gw1 := g0.trans g1
 obtain ⟨y0, y1⟩ := box2 hD1 rfl rfl
 have f0 := box_frozen hD1 0
 have f1 := box_frozen hD1 1
 obtain ⟨hp1, hp2⟩ := box_two hD1 (.slice b1 K.blocks.length e1) (.slice l1 K.late.length m1)
 have hZ2 := (hp2.block _ (heap_lt hZ1) (by omega)).trans hZ1
 have hbb := h1b.but hp2 (upon_not hS (by omega))
 have hll := h1l.but hp2 (upon_not hS (by omega))
 have gw2 := hp2.grow gw1 (Nat.le_refl _)
 have HSZ : Hid (w.heap.size + 2 ≤ ((w1.setCell ⟨w.heap.size, 0, none⟩ (.slice b1 K.blocks.length e1)).setCell ⟨w.heap.size, 1, none⟩ (.slice l1 K.late.length m1)).heap.size) := heap_lt hZ2
 have cs := cell_set
 clear h1 h1b h1l hD1 hZ1 hp2 gw1 g1 g0 hDD hZ0 hd HF
 go_wp2_with fail
 clear y0 y1 f0 f1 cs
 generalize (w1.setCell ⟨w.heap.size, 0, none⟩ (.slice b1 K.blocks.length e1)).setCell ⟨w.heap.size, 1, none⟩ (.slice l1 K.late.length m1) = W2 at *
 have hsm := HFK.out.small (by omega)
 refine wp_region_v [pl (ex (.agg #[.slice b1 K.blocks.length e1, .slice l1 K.late.length m1])), pl (ex (.agg #[.slice b1 K.blocks.length e1, .slice l1 K.late.length m1])), pl ((fun v w' => EntsS (Upon S (w.heap.size + 2)) w' v (scanE K 6))), pl ((fun v w' => ∃ ai ci, v = .agg #[.slice b1 K.blocks.length e1, .slice l1 K.late.length m1, .slice ai (scanE K 6).length ci, .int .i64 0] ∧ EntsS (Upon S (w.heap.size + 2)) w' (.slice ai (scanE K 6).length ci) (scanE K 6))), pl ((fun _ w' => ∃ ai ci, w'.heap[w.heap.size + 1]? = some (.cells #[.slice b1 K.blocks.length e1, .slice l1 K.late.length m1, .slice ai (scanE K 6).length ci, .int .i64 0] 30 (0, 0)) ∧ EntsS (Upon S (w.heap.size + 2)) w' (.slice ai (scanE K 6).length ci) (scanE K 6)))] [none, none, none, none, some ((ButStep (w.heap.size + 1)))] (fun dn w' => Grow w w' ∧ w.heap.size + 2 ≤ w'.heap.size ∧ w'.heap[w.heap.size]? = some (.cells #[.slice b1 K.blocks.length e1, .slice l1 K.late.length m1] 27 (0, 0)) ∧ BlocksS (Upon S (w.heap.size + 2)) w' (.slice b1 K.blocks.length e1) K.blocks ∧ LateS (Upon S (w.heap.size + 2)) w' (.slice l1 K.late.length m1) K.late ∧ (dn 4 = false → w'.heap[w.heap.size + 1]? = some zeroS)) (by kernel_rfl) (by kernel_rfl) ⟨st_pl (st_ex _), st_pl (st_ex _), st_pl ((fun _ _ _ hg h => SliceS.grow h hg)), st_pl ((fun _ _ _ hg ⟨ai, ci, h1, h2⟩ => ⟨ai, ci, h1, SliceS.grow h2 hg⟩)), st_pl ((fun _ _ _ hg ⟨ai, ci, h1, h2⟩ => ⟨ai, ci, (hg.block _ (heap_lt h1)).trans h1, SliceS.grow h2 hg⟩)), trivial⟩ ⟨⟨(fun w => GrowBut.refl _ w), ⟨.inr (fun _ _ _ _ _ h => h), .inr (fun _ _ _ _ _ h => h), .inr ((fun v _ w1 w' hs hq => SliceS.but hq hs (upon_not (fun b h => Nat.lt_succ_of_lt (hS b h)) (Nat.lt_succ_self _)))), .inr ((fun v _ w1 w' hs ⟨ai, ci, h1, h2⟩ => ⟨ai, ci, h1, SliceS.but h2 hs (upon_not (fun b h => Nat.lt_succ_of_lt (hS b h)) (Nat.lt_succ_self _))⟩)), .inl (by kernel_rfl), trivial⟩⟩, trivial⟩ ⟨(fun h => by cases h), (fun h => by cases h), (fun h => by cases h), (fun h => by cases h), fun _ _ _ _ h => h, trivial⟩ ⟨gw2.drew, HSZ.out, hp1, hbb, hll, fun _ => hZ2⟩ ?_ ?_
 ·refine ⟨?_, ?_, ?_, ?_, ?_, trivial⟩
  ·refine needv_plain rfl (fun a w' dn hr hg hin => ?_)
   have e1 : a.eval (.tmp 1) = .pointer (some ⟨w.heap.size, 0, none⟩) := insw_ext hin 1 (by kernel_rfl)
   have z0 := box_cell hg.2.2.1 0 _ rfl
   have z1 := box_cell hg.2.2.1 1 _ rfl
   refine uponw_val ?_ hg rfl
   clear hin hg hr
   obtain ⟨ek, ef⟩ := evs a
   generalize a.eval = ev at *
   go_simp
   all_goals first | omega | (intro _; omega) | go_arith
  ·refine needv_plain rfl (fun a w' dn hr hg hin => ?_)
   have e1 : a.eval (.tmp 1) = .pointer (some ⟨w.heap.size, 0, none⟩) := insw_ext hin 1 (by kernel_rfl)
   have z0 := box_cell hg.2.2.1 0 _ rfl
   have z1 := box_cell hg.2.2.1 1 _ rfl
   refine uponw_val ?_ hg rfl
   clear hin hg hr
   obtain ⟨ek, ef⟩ := evs a
   generalize a.eval = ev at *
   go_simp
   all_goals first | omega | (intro _; omega) | go_arith
  ·refine needv_plain rfl (fun a w' dn hr hg hin => ?_)
   have e6 : a.eval (.tmp 6) = _ := insw_on hin 1 (by kernel_rfl)
   refine uponw_call (f := 10) (args := #[.agg #[.slice b1 K.blocks.length e1, .slice l1 K.late.length m1]]) ?_ ((rscan_any (Upon S (w.heap.size + 2)) K _ _ w' hg.2.2.2.1 hg.2.2.2.2.1 hsm.1 hsm.2).mono ?_)
   ·clear hin hg hr
    obtain ⟨ek, ef⟩ := evs a
    generalize a.eval = ev at *
    go_simp
    all_goals first | omega | (intro _; omega) | go_arith
   ·rintro e w2 ⟨v2, rfl, hE, g2⟩
    refine ⟨_, rfl, g2, ⟨hg.1.trans g2, Nat.le_trans hg.2.1 g2.size, (g2.block _ (heap_lt hg.2.2.1)).trans hg.2.2.1, hg.2.2.2.1.grow g2, hg.2.2.2.2.1.grow g2, fun h => (g2.block _ (heap_lt (hg.2.2.2.2.2 h))).trans (hg.2.2.2.2.2 h)⟩, ?_⟩
    rw [show K.blocks.length / 2 = 6 from by rw [HFK.out.len]] at hE
    exact hE.mono (upon_two hg.2.1)
  ·refine needv_plain rfl (fun a w' dn hr hg hin => ?_)
   have e5 : a.eval (.tmp 5) = _ := insw_on hin 0 (by kernel_rfl)
   have e7 : ((fun v w' => EntsS (Upon S (w.heap.size + 2)) w' v (scanE K 6))) (a.eval (.tmp 7)) w' := insw_on hin 2 (by kernel_rfl)
   obtain ⟨ai, ci, h7⟩ := SliceS.form e7
   rw [h7] at e7
   refine uponw_val (v := .agg #[.slice b1 K.blocks.length e1, .slice l1 K.late.length m1, .slice ai (scanE K 6).length ci, .int .i64 0]) ?_ hg ⟨ai, ci, rfl, e7⟩
   clear hin hg hr e7
   obtain ⟨ek, ef⟩ := evs a
   generalize a.eval = ev at *
   go_simp
   all_goals first | omega | (intro _; omega) | go_arith
  ·refine needv_plain rfl (fun a w' dn hr hg hin => ?_)
   have e2 : a.eval (.tmp 2) = .pointer (some ⟨w.heap.size + 1, 0, none⟩) := insw_ext hin 2 (by kernel_rfl)
   have e8 : ((fun v w' => ∃ ai ci, v = .agg #[.slice b1 K.blocks.length e1, .slice l1 K.late.length m1, .slice ai (scanE K 6).length ci, .int .i64 0] ∧ EntsS (Upon S (w.heap.size + 2)) w' (.slice ai (scanE K 6).length ci) (scanE K 6))) (a.eval (.tmp 8)) w' := insw_on hin 3 (by kernel_rfl)
   obtain ⟨ai, ci, h8, hE⟩ := e8
   have hh := hg.2.2.2.2.2 hr.un
   obtain ⟨hq1, hq2⟩ := box_put hh (.slice b1 K.blocks.length e1) (.slice l1 K.late.length m1) (.slice ai (scanE K 6).length ci) (.int .i64 0)
   obtain ⟨y0, y1, y2, y3⟩ := box4 hh rfl rfl rfl rfl
   obtain ⟨f0, f1, f2, f3⟩ := boxf4 hh
   have cs := cell_set
   have hnu : ¬ Upon S (w.heap.size + 2) (w.heap.size + 1) := upon_not (fun b h => Nat.lt_succ_of_lt (hS b h)) (Nat.lt_succ_self _)
   refine uponw_skip (w' := _) ?_ hq2 ⟨hq2.grow hg.1 (by omega), Nat.le_trans hg.2.1 hq2.size, (hq2.block _ (heap_lt hg.2.2.1) (by omega)).trans hg.2.2.1, hg.2.2.2.1.but hq2 hnu, hg.2.2.2.2.1.but hq2 hnu, fun h => by simp [upd] at h⟩ ⟨ai, ci, hq1, hE.but hq2 hnu⟩
   clear hin hg hr hq1 hq2 hh hE hnu
   obtain ⟨ek, ef⟩ := evs a
   generalize a.eval = ev at *
   go_simp
   all_goals first | omega | (intro _; omega) | go_arith
 ·intro vs w' dn hdn hg ht
  obtain ⟨q5, q6, q7, q8, qo4, -⟩ := ht
  have r5 : vs 0 = .agg #[.slice b1 K.blocks.length e1, .slice l1 K.late.length m1] := q5
  have r6 : vs 1 = .agg #[.slice b1 K.blocks.length e1, .slice l1 K.late.length m1] := q6
  replace q7 : ((fun v w' => EntsS (Upon S (w.heap.size + 2)) w' v (scanE K 6))) (vs 2) w' := q7
  replace q8 : ((fun v w' => ∃ ai ci, v = .agg #[.slice b1 K.blocks.length e1, .slice l1 K.late.length m1, .slice ai (scanE K 6).length ci, .int .i64 0] ∧ EntsS (Upon S (w.heap.size + 2)) w' (.slice ai (scanE K 6).length ci) (scanE K 6))) (vs 3) w' := q8
  replace qo4 : ((fun _ w' => ∃ ai ci, w'.heap[w.heap.size + 1]? = some (.cells #[.slice b1 K.blocks.length e1, .slice l1 K.late.length m1, .slice ai (scanE K 6).length ci, .int .i64 0] 30 (0, 0)) ∧ EntsS (Upon S (w.heap.size + 2)) w' (.slice ai (scanE K 6).length ci) (scanE K 6))) (vs 4) w' := qo4
  clear q5 q6
  simp only [putAll, Act.put, List.setIfInBounds_toArray, List.set_cons_zero, List.set_cons_succ, Nat.reduceAdd, r5, r6]
  clear r5 r6
  obtain ⟨ai, ci, hp, hE⟩ := qo4
  obtain ⟨y0, y1, y2, y3⟩ := box4 hp rfl rfl rfl rfl
  have gE := hg.1
  have hSt : StoreS (Upon S w.heap.size) ⟨K, scanE K 6, 0⟩ (.agg #[.slice b1 K.blocks.length e1, .slice l1 K.late.length m1, .slice ai (scanE K 6).length ci, .int .i64 0]) w' := ⟨_, _, _, rfl, hg.2.2.2.1.mono (upon_le (by omega)), hg.2.2.2.2.1.mono (upon_le (by omega)), hE.mono (upon_le (by omega))⟩
  clear q7 q8 hdn hg hp hE hp1 hZ2 hbb hll gw2
  go_wp2_with fail
  exact bodyPost_ret (v := .agg #[.slice b1 K.blocks.length e1, .slice l1 K.late.length m1, .slice ai (scanE K 6).length ci, .int .i64 0]) (by simp [results, Try.results34, go_sem, y0, y1, y2, y3]) rfl ⟨_, rfl, hSt, gE⟩
theorem rnewS_any (S : Nat → Prop) (w : World) (hS : ∀ b, S b → b < w.heap.size) :
  Calls Try.prog 21 #[] w fun r w' => ∃ v', r = .returned v' ∧ StoreS (Upon S w.heap.size) newS v' w' ∧ Grow w w' := by
 have g0 := grow_alloc w zeroS
 have hZ0 := heap_new w #[.slice none 0 0, .slice none 0 0, .slice none 0 0, .int .i64 0] 30
 have s0 := World.size_alloc w zeroS
 go_enter Try.func21, Try.ntmps21
 go_wp2_with fail
 generalize World.alloc w _ = W at *
 refine (rnew_c S W).mono ?_
 rintro r w1 ⟨v1, rfl, h1, g1⟩
 have hZ1 := (g1.block _ (heap_lt hZ0)).trans hZ0
 have gw1 := g0.trans g1
 obtain ⟨ab, cb, al, cl, hv, -, -⟩ := h1.form
 subst hv
 clear hZ0 g0
 go_wp2_with fail
 have HSZ : Hid (W.heap.size ≤ w1.heap.size) := g1.size
 refine (rmount_any (fun b => Upon S W.heap.size b ∧ b < w1.heap.size) 0 Dk.new _ w1 (fun b h => h.2) ?_ new_fine (by omega)).mono ?_
 ·obtain ⟨vb, vl, h2, h3, h4⟩ := h1
  exact ⟨vb, vl, h2, h3.capd, h4.capd⟩
 ·rintro r w2 ⟨v2, rfl, h2, g2⟩
  have hZ2 := (g2.block _ (heap_lt hZ1)).trans hZ1
  have gw2 := gw1.trans g2
  have h3 : StoreS (Upon S W.heap.size) newS v2 w2 := h2.mono fun b h => h.elim (fun x => x.1) (fun x => .inr (Nat.le_trans HSZ.out x))
  obtain ⟨ab, cb, al, cl, ai, ci, hv, -, -, -⟩ := h3.form
  subst hv
  obtain ⟨hq1, hq2⟩ := box_put hZ2 (.slice ab newS.dk.blocks.length cb) (.slice al newS.dk.late.length cl) (.slice ai newS.idx.length ci) (.int .i64 newS.next)
  obtain ⟨y0, y1, y2, y3⟩ := box4 hZ2 rfl rfl rfl rfl
  obtain ⟨f0, f1, f2, f3⟩ := boxf4 hZ2
  have cs := cell_set
  obtain ⟨x0, x1, x2, x3⟩ := box4 hq1 rfl rfl rfl rfl
  have gE := hq2.grow gw2 (Nat.le_refl _)
  have hE := (h3.but hq2 (upon_not hS (by omega))).mono (upon_le (B := w.heap.size) (by omega))
  clear hq1 hq2 h3 h2 hZ2 hZ1 gw2 gw1 g1 g2 h1
  go_wp2_with fail
  exact bodyPost_ret (v := .agg #[.slice ab newS.dk.blocks.length cb, .slice al newS.dk.late.length cl, .slice ai newS.idx.length ci, .int .i64 newS.next]) (by simp [results, Try.results21, go_sem, x0, x1, x2, x3]) rfl ⟨_, rfl, hE, gE⟩
end Go.Proofs.Ytlickojpmffmiac
