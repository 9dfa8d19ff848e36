/-
  What the program's disk.New makes: a disk all blocks of which are free.
  No condition.
-/
import Derived.Test.YtgpfflfdigekeaaPFlush
namespace Go.Proofs.Ytgpfflfdigekeaa
set_option maxRecDepth 100000
open Go.RowKit
open Go.Proofs.Ytgpfflfdigekeaa.Plain Go.Proofs.Ytgpfflfdigekeaa.Reg

theorem new_len : Dk.new.blocks.length = 12 := rfl
theorem new_at (k : Nat) (h : k < Dk.new.blocks.length) : Dk.new.blocks[k] = blk ⟨1, 0, 0, []⟩ (k : Int) := by
  simp [Dk.new]
theorem free_right : wrong ⟨1, 0, 0, []⟩ = 0 := by decide
theorem bytes_nil (w : World) : Bytes w (.slice none 0 0) [] := .inl ⟨none, 0, rfl, rfl, fun _ => rfl⟩

theorem CopyL.land {B k : Nat} {bs : List (List UInt8)} {us : List Value} {w w' : World} {u : Value} (h : CopyL B bs k us w) (hk : k < bs.length) (hB : B ≤ w.heap.size) (hg : GrowBut B w w') (hQ : LandQ B B bs.length bs.length k w.heap.size us bs[k] u w') : CopyL B bs (k + 1) (us.set k u) w' := by
  obtain ⟨cur, hcur⟩ := own_block h.row
  refine ⟨by rw [List.length_set]; exact h.len, hQ.1, fun i hi hik => ?_, fun i j x x' p hij hjk hx hx' hp => ?_⟩
  · by_cases e : k = i
    · subst e
      exact ⟨u, by rw [List.getElem?_set]; simp [h.len, hi], own_mono hQ.2 hB⟩
    · obtain ⟨x, h1, h2⟩ := h.each i hi (by omega)
      exact ⟨x, by rw [List.getElem?_set]; simp [e, h1], own_other2 hg hcur (by decide) h2⟩
  · have hi : i < bs.length := by omega
    rw [List.getElem?_set, if_neg (by omega)] at hx
    by_cases e : k = j
    · subst e
      rw [List.getElem?_set, if_pos rfl, if_pos (by rw [h.len]; exact hk)] at hx'
      cases hx'
      obtain ⟨y, h1, h2⟩ := h.each i hi (by omega)
      rw [hx] at h1; cases h1
      intro hq
      have a1 := (h2.lt p hp).2
      have a2 := (hQ.2.lt p hq).1
      omega
    · rw [List.getElem?_set, if_neg e] at hx'
      exact h.apart i j x x' p hij (by omega) hx hx' hp

/-- What holds while a block is made. -/
def NewJ (w wr : World) (us : List Value) (dn : Nat → Bool) (w' : World) : Prop :=
  GrowBut (w.heap.size + 1) wr w' ∧ w'.heap[w.heap.size]? = some (.cells #[.slice none 0 0, .slice none 0 0] 46 (0, 0)) ∧ w'.heap[w.heap.size + 1 + 1]? = some (.cells #[.slice (some ⟨w.heap.size + 1, 0, none⟩) 12 12, .slice none 0 0] 46 (0, 0)) ∧
    (dn 7 = false → Grow wr w' ∧ w'.ownsRow (w.heap.size + 1) 22 1 (.slice (some ⟨w.heap.size + 1, 0, none⟩) 12 12) 12 us)
theorem NewJ.grow {w wr : World} {us : List Value} {dn : Nat → Bool} {w' w'' : World} (h : NewJ w wr us dn w') (hg : Grow w' w'') : NewJ w wr us dn w'' :=
  ⟨h.1.trans (GrowBut.of hg), (hg.block _ (heap_lt h.2.1)).trans h.2.1, (hg.block _ (heap_lt h.2.2.1)).trans h.2.2.1, fun hd => ⟨(h.2.2.2 hd).1.trans hg, own_grow (h.2.2.2 hd).2 hg⟩⟩
def NewL (w : World) (k : Nat) (wr : World) : Prop :=
  Grow w wr ∧ wr.heap[w.heap.size]? = some (.cells #[.slice none 0 0, .slice none 0 0] 46 (0, 0)) ∧ wr.heap[w.heap.size + 1 + 1]? = some (.cells #[.slice (some ⟨w.heap.size + 1, 0, none⟩) 12 12, .slice none 0 0] 46 (0, 0)) ∧ ∃ us, CopyL (w.heap.size + 1) Dk.new.blocks k us wr

set_option maxHeartbeats 4000000 in
theorem new_any (w : World) : Calls Try.prog 34 #[] w fun e w' => ∃ v, e = .returned v ∧ DiskQ w.heap.size Dk.new v w' ∧ Grow w w' := by
  have mk := fun w => makeBlocks w 12 (by omega)
  have mk2 : ∀ w, (Instr.makeSlice 43 (.int .i64 12) (.int .i64 12)).run Try.prog w = .ok (.slice (some ⟨w.heap.size, 0, none⟩) 12 12) (w.alloc (.cells (Array.replicate 12 (.slice none 0 0)) 22)) := mk
  clear mk
  have hstart : NewL w 0 (((w.alloc (.cells #[.slice none 0 0, .slice none 0 0] 46)).alloc (.cells (Array.replicate 12 (.slice none 0 0)) 22)).alloc (.cells #[.slice (some ⟨w.heap.size + 1, 0, none⟩) 12 12, .slice none 0 0] 46)) := by
    have h2 := heap_new ((w.alloc (.cells #[.slice none 0 0, .slice none 0 0] 46)).alloc (.cells (Array.replicate 12 (.slice none 0 0)) 22)) #[.slice (some ⟨w.heap.size + 1, 0, none⟩) 12 12, .slice none 0 0] 46
    rw [World.size_alloc, World.size_alloc] at h2
    refine ⟨(grow_alloc2 _ _ _).trans (grow_alloc _ _), ((grow_alloc2 _ _ _).block _ (by simp)).trans (heap_new _ _ _), h2, List.replicate 12 (.slice none 0 0), by simp [new_len], ?_, fun i _ h => by omega, fun i j _ _ _ _ h => by omega⟩
    have h3 := World.ownsRow_lit (e := 22) (base := w.heap.size + 1) (size := 1) (w.alloc (.cells #[.slice none 0 0, .slice none 0 0] 46)) (Array.replicate 12 (.slice none 0 0)) 12 (by simp) (by unfold maxLen; omega) (by simp)
    rw [World.size_alloc] at h3
    have h4 := own_grow h3 (grow_alloc _ (.cells #[.slice (some ⟨w.heap.size + 1, 0, none⟩) 12 12, .slice none 0 0] 46))
    simpa [new_len] using h4
  go_enter Try.func34, Try.ntmps34
  go_wp2_with fail
  clear mk2
  generalize World.alloc (World.alloc (World.alloc w _) _) _ = W at *
  go_loopw [8] (fun i wr => ∃ k : Nat, k ≤ 12 ∧ i = .int .i64 k ∧ NewL w k wr) (fun i _ => 12 - (intOf i).toNat)
  case atStart => exact ⟨0, Nat.zero_le _, rfl, hstart⟩
  case round =>
    clear hstart
    obtain ⟨k, hk, rfl, gL, hLr, hLg, us, hL⟩ := hrel
    by_cases hlt : k < 12
    · have hkb : k < Dk.new.blocks.length := hlt
      have hrow := hL.row
      rw [new_len] at hrow
      have hz := heap_lt hLg
      have hul : us.length = 12 := hL.len
      have HN : Hid (Dk.new.blocks[k] = blk ⟨1, 0, 0, []⟩ (k : Int)) := new_at k hkb
      have HL16 : Hid ((blk ⟨1, 0, 0, []⟩ (k : Int)).length = 16) := blk_length _ _ (by simp)
      generalize hbe : blk ⟨1, 0, 0, []⟩ (k : Int) = bl at *
      have HBE : Hid _ := hbe
      clear hbe
      go_wp2_with fail
      refine wp_region_v [pl (ex (.pointer (some ⟨w.heap.size + 1 + 1, 0, none⟩))), pl (ex (.slice (some ⟨w.heap.size + 1, 0, none⟩) 12 12)), pl (ex (.int .i64 (k : Int))), pl (ex (.agg #[.int .i64 1, .int .i64 0, .int .i64 0, .slice none 0 0])), pl (ex (.int .i64 (k : Int))), pl ((fun v w' => w'.ownsRow wr.heap.size 5 1 v bl.length (bl.map bv))), pl (ex (.pointer (some ⟨w.heap.size + 1, k, none⟩))), pl1 5 ((fun _ v w' => LandQ (w.heap.size + 1) (w.heap.size + 1) 12 12 k wr.heap.size us bl v w'))] [none, none, none, none, none, none, none, some ((fun w1 w2 => GrowBut (w.heap.size + 1) w1 w2))] (NewJ w wr us) (by kernel_rfl) (by kernel_rfl) ⟨st_pl (st_ex _), st_pl (st_ex _), st_pl (st_ex _), st_pl (st_ex _), st_pl (st_ex _), st_pl (st_ownb _ _), st_pl (st_ex _), st_landq _ _ _ _ _ _ _ _ _, trivial⟩ ⟨⟨(fun w1 => GrowBut.refl _ w1), ⟨.inr (fun _ _ _ _ _ h => h), .inr (fun _ _ _ _ _ h => h), .inr (fun _ _ _ _ _ h => h), .inr (fun _ _ _ _ _ h => h), .inr (fun _ _ _ _ _ h => h), .inr ((fun v _ w1 w' hs hq => own_other hs (by omega) hq)), .inr (fun _ _ _ _ _ h => h), .inl (by kernel_rfl), trivial⟩⟩, trivial⟩ ⟨(fun h => by cases h), (fun h => by cases h), (fun h => by cases h), (fun h => by cases h), (fun h => by cases h), (fun h => by cases h), (fun h => by cases h), fun _ _ _ _ h => h, trivial⟩ ⟨GrowBut.of (Grow.refl _).drew, hLr, hLg, fun _ => ⟨(Grow.refl _).drew, hrow⟩⟩ ?_ ?_
      · refine ⟨?_, ?_, ?_, ?_, ?_, ?_, ?_, ?_, trivial⟩
        · refine needv_plain rfl (fun a w' dn hr hg hin => ?_)
          have e1 : a.eval (.tmp 1) = .pointer (some ⟨w.heap.size + 1 + 1, 0, none⟩) := insw_ext hin 1 (by kernel_rfl)
          refine uponw_val ?_ hg rfl
          clear hin hg
          have ek : ∀ x, a.eval (.const x) = x := fun _ => rfl
          have ef : ∀ f, a.eval (.func f) = .func (.func f) #[] #[] := fun _ => rfl
          generalize a.eval = ev at *
          go_simp
          all_goals first | done | omega | (intro _; omega) | go_arith
        · refine needv_plain rfl (fun a w' dn hr hg hin => ?_)
          have e11 : a.eval (.tmp 11) = .pointer (some ⟨w.heap.size + 1 + 1, 0, none⟩) := insw_on hin 0 (by kernel_rfl)
          have z0 := box_cell hg.2.2.1 0 _ rfl
          refine uponw_val ?_ hg rfl
          clear hin hg hr
          have ek : ∀ x, a.eval (.const x) = x := fun _ => rfl
          have ef : ∀ f, a.eval (.func f) = .func (.func f) #[] #[] := fun _ => rfl
          generalize a.eval = ev at *
          go_simp
          all_goals first | done | omega | (intro _; omega) | go_arith
        · refine needv_plain rfl (fun a w' dn hr hg hin => ?_)
          have e : a.eval (.tmp 2) = .int .i64 (k : Int) := insw_ext hin 2 (by kernel_rfl)
          exact uponw_move rfl hg e
        · refine needv_plain rfl (fun a w' dn hr hg hin => ?_)
          refine uponw_val ?_ hg rfl
          clear hin hg
          have ek : ∀ x, a.eval (.const x) = x := fun _ => rfl
          have ef : ∀ f, a.eval (.func f) = .func (.func f) #[] #[] := fun _ => rfl
          generalize a.eval = ev at *
          go_simp
          all_goals first | done | omega | (intro _; omega) | go_arith
        · refine needv_plain rfl (fun a w' dn hr hg hin => ?_)
          have e : a.eval (.tmp 2) = .int .i64 (k : Int) := insw_ext hin 2 (by kernel_rfl)
          exact uponw_move rfl hg e
        · refine needv_plain rfl (fun a w' dn hr hg hin => ?_)
          have e14 : a.eval (.tmp 14) = .agg #[.int .i64 1, .int .i64 0, .int .i64 0, .slice none 0 0] := insw_on hin 3 (by kernel_rfl)
          have e15 : a.eval (.tmp 15) = .int .i64 (k : Int) := insw_on hin 4 (by kernel_rfl)
          have n7 := hr.not1 7 (by kernel_rfl)
          refine uponw_call (f := 28) (args := #[.agg #[.int .i64 1, .int .i64 0, .int .i64 0, .slice none 0 0], .int .i64 (k : Int)]) ?_ ((bbytes_ok 1 0 0 (k : Int) [] _ w' (bytes_nil _) free_right (by omega) (by omega)).mono ?_)
          · clear hin hg hr
            have ek : ∀ x, a.eval (.const x) = x := fun _ => rfl
            have ef : ∀ f, a.eval (.func f) = .func (.func f) #[] #[] := fun _ => rfl
            generalize a.eval = ev at *
            go_simp
            all_goals first | done | omega | (intro _; omega) | go_arith
          · rintro e w2 ⟨v', rfl, ho, g2⟩
            rw [HBE.out] at ho
            exact ⟨_, rfl, g2, NewJ.grow hg g2, by rw [HL16.out]; exact own_mono ho (hg.2.2.2 n7).1.size⟩
        · refine needv_plain rfl (fun a w' dn hr hg hin => ?_)
          have e12 : a.eval (.tmp 12) = .slice (some ⟨w.heap.size + 1, 0, none⟩) 12 12 := insw_on hin 1 (by kernel_rfl)
          have e13 : a.eval (.tmp 13) = .int .i64 (k : Int) := insw_on hin 2 (by kernel_rfl)
          refine uponw_val ?_ hg rfl
          clear hin hg
          have ek : ∀ x, a.eval (.const x) = x := fun _ => rfl
          have ef : ∀ f, a.eval (.func f) = .func (.func f) #[] #[] := fun _ => rfl
          generalize a.eval = ev at *
          go_simp
          all_goals first | done | omega | (intro _; omega) | go_arith
        · refine needv_plain rfl (fun a w' dn hr hg hin => ?_)
          have e17 : a.eval (.tmp 17) = .pointer (some ⟨w.heap.size + 1, k, none⟩) := insw_on hin 6 (by kernel_rfl)
          have e16 : ((fun v w' => w'.ownsRow wr.heap.size 5 1 v bl.length (bl.map bv))) (a.eval (.tmp 16)) w' := insw_on hin 5 (by kernel_rfl)
          have hro := (hg.2.2.2 hr.un).2
          obtain ⟨a4, c4, h16⟩ := own_slice e16
          have fq := hro.frozenAt k
          have cq := hro.cellAt k (by omega)
          rw [List.getElem?_eq_getElem (by omega)] at cq
          generalize us[k]'(by omega) = xm at cq
          have hst := (hro.stored k (a.eval (.tmp 16))).1
          have hbut : GrowBut (w.heap.size + 1) w' (w'.setCell ⟨w.heap.size + 1, k, none⟩ (a.eval (.tmp 16))) := (GrowBut.refl _ _).set _ _ _
          refine uponw_skip (w' := w'.setCell ⟨w.heap.size + 1, k, none⟩ (a.eval (.tmp 16))) ?_ hbut ⟨hg.1.trans hbut, (hbut.block _ (heap_lt hg.2.1) (by omega)).trans hg.2.1, (hbut.block _ (heap_lt hg.2.2.1) (by omega)).trans hg.2.2.1, fun h => by simp [upd] at h⟩ ⟨hst, own_other hbut (by omega) e16⟩
          clear hin hg hr hst hbut hro e16
          have ek : ∀ x, a.eval (.const x) = x := fun _ => rfl
          have ef : ∀ f, a.eval (.func f) = .func (.func f) #[] #[] := fun _ => rfl
          generalize a.eval = ev at *
          go_simp
          all_goals first | done | omega | (intro _; omega) | go_arith
      · intro vs w' dn hdn hg ht
        obtain ⟨q11, q12, q13, q14, q15, q16, q17, qo7, -⟩ := ht
        have r11 : vs 0 = .pointer (some ⟨w.heap.size + 1 + 1, 0, none⟩) := q11
        have r12 : vs 1 = .slice (some ⟨w.heap.size + 1, 0, none⟩) 12 12 := q12
        have r13 : vs 2 = .int .i64 (k : Int) := q13
        have r14 : vs 3 = .agg #[.int .i64 1, .int .i64 0, .int .i64 0, .slice none 0 0] := q14
        have r15 : vs 4 = .int .i64 (k : Int) := q15
        replace q16 : ((fun v w' => w'.ownsRow wr.heap.size 5 1 v bl.length (bl.map bv))) (vs 5) w' := q16
        have r17 : vs 6 = .pointer (some ⟨w.heap.size + 1, k, none⟩) := q17
        replace qo7 : ((fun _ v w' => LandQ (w.heap.size + 1) (w.heap.size + 1) 12 12 k wr.heap.size us bl v w')) (vs 7) (vs 5) w' := qo7
        clear q11 q12 q13 q14 q15 q17
        simp only [putAll, Act.put, List.setIfInBounds_toArray, List.set_cons_zero, List.set_cons_succ, Nat.reduceAdd, r11, r12, r13, r14, r15, r17]
        clear r11 r12 r13 r14 r15 r17
        have hb1 := hg.1
        rw [← HN.out] at qo7
        have hL2 := hL.land hkb (by omega) hb1 qo7
        have hend : NewL w (k + 1) w' := ⟨hb1.grow gL (by omega), hg.2.1, hg.2.2.1, _, hL2⟩
        clear hg hdn q16 hL hL2 hb1 qo7 hrow hLr hLg gL
        generalize vs 5 = u5
        go_wp2_with fail
        go_roundw
        case rel => exact ⟨k + 1, by omega, by simp, hend⟩
        case measure => simp [intOf]; omega
    · have hk' : k = 12 := by omega
      subst hk'
      have hU : OwnU (w.heap.size + 1) (.slice (some ⟨w.heap.size + 1, 0, none⟩) 12 12) Dk.new.blocks us wr := ⟨hL.len, hL.row, fun i hi => hL.each i hi hi⟩
      have y0 := box_cell hLg 0 _ rfl
      have y1 := box_cell hLg 1 _ rfl
      have z0 := box_cell hLr 0 _ rfl
      have z1 := box_cell hLr 1 _ rfl
      have f0 := box_frozen hLr 0
      have f1 := box_frozen hLr 1
      have cs := cell_set
      obtain ⟨hp1, hp2⟩ := box_put2 hLr (.slice (some ⟨w.heap.size + 1, 0, none⟩) 12 12) (.slice none 0 0)
      have hstep : BoxStep 46 wr _ := .inr ⟨_, _, _, hp2, hLr, hp1, rfl⟩
      have gE := hp2.grow gL (by omega)
      have hE := (hU.box hstep).mono (B' := w.heap.size) (by omega)
      clear hp1 hp2 hstep hU hL hLg hLr gL
      go_wp2_with fail
      exact bodyPost_ret (v := .agg #[.slice (some ⟨w.heap.size + 1, 0, none⟩) 12 12, .slice none 0 0]) (by simp [results, Try.results34, go_sem, z0, z1, cs]) rfl ⟨_, rfl, ⟨_, _, rfl, ⟨us, hE⟩, OwnLt.nil _ _⟩, gE⟩
end Go.Proofs.Ytgpfflfdigekeaa
