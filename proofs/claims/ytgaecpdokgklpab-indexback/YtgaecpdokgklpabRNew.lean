/-
  What the document's NewDisk makes: a disk all blocks of which are free.
  No condition.
-/
import Derived.Test.YtgaecpdokgklpabJPd
namespace Go.Proofs.Ytgaecpdokgklpab
set_option maxRecDepth 100000
open Go.RowKit
open Go.Proofs.Ytgaecpdokgklpab.Plain Go.Proofs.Ytgaecpdokgklpab.Reg

/-- One block more. -/
theorem OwnU.snoc {B : Nat} {v v' u : Value} {bs : List (List UInt8)} {us : List Value} {l : List UInt8} {w w' : World} (h : OwnU B v bs us w) (hr : w'.ownsRow B 31 1 v' (bs.length + 1) (us ++ [u]))
  (he : ∀ i (hi : i < bs.length), ∃ u, us[i]? = some u ∧ w'.ownsRow B 5 1 u bs[i].length (bs[i].map bv)) (hu : w'.ownsRow B 5 1 u l.length (l.map bv)) : OwnU B v' (bs ++ [l]) (us ++ [u]) w' := by
 refine ⟨by simp [h.len], by simpa using hr, fun i hi => ?_⟩
 by_cases hi2 : i < bs.length
 ·obtain ⟨y, h1, h2⟩ := he i hi2
  refine ⟨y, by rw [List.getElem?_append_left (by have := h.len; omega)]; exact h1, ?_⟩
  rw [List.getElem_append_left hi2]; exact h2
 ·have e : i = bs.length := by simp at hi; omega
  subst e
  exact ⟨u, by rw [← h.len]; simp, by simpa using hu⟩

/-- 'append' of one block. -/
theorem app_block (w : World) (B n b0 : Nat) (d : Value) (us : List Value) (u : Value) (ty : TypeId) (hown : w.ownsRow B 31 1 d n us) (hx : w.heap[b0]? = some (.cells #[u] 31 (0, 0))) (hu : u.oneCell' = true) (hm : n < 1000) (hB : B ≤ w.heap.size) :
  ∃ v' w', (Builtin.append_ #[22, 22] ty #[d, .slice (some ⟨b0, 0, none⟩) 1 1]).run Try.prog w = .ok v' w' ∧ w'.ownsRow B 31 1 v' (n + 1) (us ++ [u]) ∧ w.grownBy w' d.ownBlock := by
 obtain ⟨i0, hif, hz0, hz1, hz2⟩ := info_parts info_bytes
 obtain ⟨v', w', h1, h2, h3, _⟩ := run_append_own (P := Try.prog) w B 22 ty 31 i0 (.slice none 0 0) 1 24 Try.underlying22 hif hz0 hz1 hz2 rfl (by decide) d n us hown ⟨b0, 0, none⟩ 1 1 [u] rfl
  (fun j z hj => by
   match j, hj with
   | 0, hj => simp at hj; subst hj; simp [Addr.add, World.cell?, hx]
   | j + 1, hj => simp at hj) (by intro z hz; simp at hz; subst hz; exact hu) (by unfold maxLen; omega) (by omega) hB
 exact ⟨v', w', h1, h2, h3⟩

theorem own_sep {w w' : World} {base size : Nat} {e : TypeId} {d v : Value} {n : Nat} {xs : List Value} (hs : AppStep d w w') (hd : ∀ q, d.ownBlock = some q → v.ownBlock ≠ some q) (h : w.ownsRow base e size v n xs) : w'.ownsRow base e size v n xs := by
 rcases hs with rfl | hs
 ·exact h
 ·refine ⟨h.1, or_map h.2 (fun x => x) fun ⟨q, cap, cur, h1, h2, h3, r⟩ => ⟨q, cap, cur, h1, h2, ?_, r⟩⟩
  rw [hs.block _ (heap_lt h3) (fun e => by subst h1; exact hd q e.symm rfl)]
  exact h3
/-- A row of these bytes, another one than d. -/
def SepB (B : Nat) (d : Value) (l : List UInt8) (v : Value) (w : World) : Prop := w.ownsRow B 5 1 v l.length (l.map bv) ∧ ∀ q, d.ownBlock = some q → v.ownBlock ≠ some q
theorem st_sepb (B : Nat) (d : Value) (l : List UInt8) : Stable (SepB B d l) := fun _ _ _ hg h => ⟨own_grow h.1 hg, h.2⟩
theorem sp_sepb {B : Nat} {d : Value} {l : List UInt8} {v : Value} {w w' : World} (hs : AppStep d w w') (h : SepB B d l v w) : SepB B d l v w' := ⟨own_sep hs h.2 h.1, h.2⟩
theorem sb_sepb {B : Nat} {d : Value} {l : List UInt8} {v : Value} {w w' : World} (hs : BoxStep 25 w w') (h : SepB B d l v w) : SepB B d l v w' := ⟨own_box (by decide) hs h.1, h.2⟩
/-- A row of one such. -/
def OneB (B : Nat) (d : Value) (l : List UInt8) (v : Value) (w : World) : Prop := ∃ b0 u, v = .slice (some ⟨b0, 0, none⟩) 1 1 ∧ w.heap[b0]? = some (.cells #[u] 31 (0, 0)) ∧ (∀ q, d.ownBlock = some q → b0 ≠ q) ∧ SepB B d l u w
theorem st_oneb (B : Nat) (d : Value) (l : List UInt8) : Stable (OneB B d l) := by
 rintro v w w' hg ⟨b0, u, h1, h2, h3, h4⟩; exact ⟨b0, u, h1, (hg.block _ (heap_lt h2)).trans h2, h3, st_sepb _ _ _ _ _ _ hg h4⟩
theorem sp_oneb {B : Nat} {d : Value} {l : List UInt8} {v : Value} {w w' : World} (hs : AppStep d w w') (h : OneB B d l v w) : OneB B d l v w' := by
 obtain ⟨b0, u, h1, h2, h3, h4⟩ := h
 refine ⟨b0, u, h1, ?_, h3, sp_sepb hs h4⟩
 rcases hs with rfl | hs
 ·exact h2
 ·exact (hs.block _ (heap_lt h2) (fun e => h3 b0 e.symm rfl)).trans h2
theorem sb_oneb {B : Nat} {d : Value} {l : List UInt8} {v : Value} {w w' : World} (hs : BoxStep 25 w w') (h : OneB B d l v w) : OneB B d l v w' := by
 obtain ⟨b0, u, h1, h2, h3, h4⟩ := h
 refine ⟨b0, u, h1, ?_, h3, sb_sepb hs h4⟩
 rcases hs with rfl | ⟨g', c1, c2, hb, h5, h6, h7⟩
 ·exact h2
 ·exact (hb.block _ (heap_lt h2) (by rintro rfl; rw [h5] at h2; cases h2)).trans h2
/-- The row with one block more. -/
def AppB (B n : Nat) (us : List Value) (l : List UInt8) (v : Value) (w : World) : Prop := ∃ u, w.ownsRow B 31 1 v (n + 1) (us ++ [u]) ∧ w.ownsRow B 5 1 u l.length (l.map bv)
theorem st_appb (B n : Nat) (us : List Value) (l : List UInt8) : Stable (AppB B n us l) := by
 rintro v w w' hg ⟨u, h1, h2⟩; exact ⟨u, own_grow h1 hg, own_grow h2 hg⟩
theorem sb_appb {B n : Nat} {us : List Value} {l : List UInt8} {v : Value} {w w' : World} (hs : BoxStep 25 w w') (h : AppB B n us l v w) : AppB B n us l v w' := by
 obtain ⟨u, h1, h2⟩ := h; exact ⟨u, own_box (by decide) hs h1, own_box (by decide) hs h2⟩
def PutB (B g n : Nat) (us : List Value) (l : List UInt8) (v : Value) (w : World) : Prop := w.heap[g]? = some (.cells #[v, .slice none 0 0] 25 (0, 0)) ∧ AppB B n us l v w
theorem st_putb (B g n : Nat) (us : List Value) (l : List UInt8) (i : Nat) : StableW (pl1 i (fun _ v w => PutB B g n us l v w)) := by
 rintro v ds w w' hg ⟨h1, h2⟩
 exact ⟨(hg.block _ (heap_lt h1)).trans h1, st_appb _ _ _ _ _ _ _ hg h2⟩

/-- What holds while a block is appended. -/
def RNewJ (w : World) (v : Value) (bs : List (List UInt8)) (us : List Value) (dn : Nat → Bool) (w' : World) : Prop :=
 Grow w w' ∧ w'.heap[w.heap.size]? = some (.cells #[.slice none 0 0, .slice none 0 0] 25 (0, 0)) ∧ w.heap.size + 1 + 1 ≤ w'.heap.size ∧ (dn 8 = false → w'.heap[w.heap.size + 1]? = some (.cells #[v, .slice none 0 0] 25 (0, 0))) ∧
  (dn 6 = false → w'.ownsRow (w.heap.size + 1 + 1) 31 1 v bs.length us) ∧ (∀ i (hi : i < bs.length), ∃ u, us[i]? = some u ∧ w'.ownsRow (w.heap.size + 1 + 1) 5 1 u bs[i].length (bs[i].map bv))
theorem RNewJ.grow {w : World} {v : Value} {bs : List (List UInt8)} {us : List Value} {dn : Nat → Bool} {w' w'' : World} (h : RNewJ w v bs us dn w') (hg : Grow w' w'') : RNewJ w v bs us dn w'' :=
 ⟨h.1.trans hg, (hg.block _ (heap_lt h.2.1)).trans h.2.1, Nat.le_trans h.2.2.1 hg.size, fun h8 => (hg.block _ (heap_lt (h.2.2.2.1 h8))).trans (h.2.2.2.1 h8), fun h6 => own_grow (h.2.2.2.2.1 h6) hg, fun i hi => (h.2.2.2.2.2 i hi).imp fun _ hu => ⟨hu.1, own_grow hu.2 hg⟩⟩
def RNewL (w : World) (bs : List (List UInt8)) (wr : World) : Prop :=
 Grow w wr ∧ wr.heap[w.heap.size]? = some (.cells #[.slice none 0 0, .slice none 0 0] 25 (0, 0)) ∧ ∃ v us, wr.heap[w.heap.size + 1]? = some (.cells #[v, .slice none 0 0] 25 (0, 0)) ∧ OwnU (w.heap.size + 1 + 1) v bs us wr

/-- A row is no block of another type; nor does a row of another type share its block. -/
theorem own_differ {w : World} {B B' n m size size' : Nat} {e T : TypeId} {v u : Value} {xs ys : List Value} (h : w.ownsRow B e size v n xs) (h' : w.ownsRow B' T size' u m ys) (hT : e ≠ T) : ∀ q, u.ownBlock = some q → v.ownBlock ≠ some q := by
 intro q h1 h2
 rcases h.2 with ⟨rfl, _⟩ | ⟨g, cap, cur, rfl, _, hh, _⟩
 ·cases h2
 ·rcases h'.2 with ⟨rfl, _⟩ | ⟨g', cap', cur', rfl, _, hh', _⟩
  ·cases h1
  ·cases h1; cases h2; rw [hh] at hh'; cases hh'; exact hT rfl

set_option maxHeartbeats 4000000 in
theorem newDisk_any (w : World) : Calls Try.prog 33 #[] w fun e w' => ∃ v, e = .returned v ∧ DiskQ w.heap.size Dk.new v w' ∧ Grow w w' := by
 have hstart : RNewL w [] ((w.alloc (.cells #[.slice none 0 0, .slice none 0 0] 25)).alloc (.cells #[.slice none 0 0, .slice none 0 0] 25)) :=
  ⟨grow_alloc2 _ _ _, hx1 _ _ _, .slice none 0 0, [], hy1 _ _ _, rfl, World.ownsRow_nil _ _ _ _, fun i hi => by simp at hi⟩
 go_enter Try.func33, Try.ntmps33
 go_wp2_with fail
 generalize World.alloc (World.alloc w _) _ = W at *
 go_loopw [4] (fun i wr => ∃ k : Nat, k ≤ 12 ∧ i = .int .i64 k ∧ RNewL w (Dk.new.blocks.take k) wr) (fun i _ => 12 - (intOf i).toNat)
 case atStart => exact ⟨0, Nat.zero_le _, rfl, hstart⟩
 case round =>
  clear hstart
  obtain ⟨k, hk, rfl, gL, hLr, v, us, hLg, hU⟩ := hrel
  by_cases hlt : k < 12
  ·have hkb : k < Dk.new.blocks.length := hlt
   have HT : Hid (Dk.new.blocks.take (k + 1) = Dk.new.blocks.take k ++ [blk ⟨1, 0, 0, []⟩ (k : Int)]) := by
    show _ = _; rw [List.take_succ_eq_append_getElem hkb, new_at k hkb]
   have hpl : (Dk.new.blocks.take k).length = k := by rw [List.length_take, new_len]; omega
   have HL16 : Hid ((blk ⟨1, 0, 0, []⟩ (k : Int)).length = 16) := blk_length _ _ (by simp)
   generalize hbe : blk ⟨1, 0, 0, []⟩ (k : Int) = bl at *
   have HBE : Hid _ := hbe
   clear hbe
   generalize Dk.new.blocks.take k = bs at *
   have hz : w.heap.size + 1 < wr.heap.size := heap_lt hLg
   obtain ⟨av, cv, rfl⟩ := hU.p.form
   go_wp2_with fail
   refine wp_region_v [pl (ex (.pointer (some ⟨w.heap.size + 1, 0, none⟩))), pl (ex (.slice av bs.length cv)), pl (ex (.agg #[.int .i64 1, .int .i64 0, .int .i64 0, .slice none 0 0])), pl (ex (.int .i64 (k : Int))), pl (SepB (w.heap.size + 1 + 1) (.slice av bs.length cv) bl), pl (OneB (w.heap.size + 1 + 1) (.slice av bs.length cv) bl), pl (AppB (w.heap.size + 1 + 1) bs.length us bl), pl (ex (.pointer (some ⟨w.heap.size + 1, 0, none⟩))), pl1 6 ((fun _ v w' => PutB (w.heap.size + 1 + 1) (w.heap.size + 1) bs.length us bl v w'))] [none, none, none, none, none, none, some ((AppStep (.slice av bs.length cv))), none, some ((BoxStep 25))] (RNewJ w (.slice av bs.length cv) bs us) (by kernel_rfl) (by kernel_rfl) ⟨st_pl (st_ex _), st_pl (st_ex _), st_pl (st_ex _), st_pl (st_ex _), st_pl (st_sepb _ _ _), st_pl (st_oneb _ _ _), st_pl (st_appb _ _ _ _), st_pl (st_ex _), st_putb _ _ _ _ _ _, trivial⟩ ⟨⟨(fun w => .inl rfl), ⟨.inr (fun _ _ _ _ _ h => h), .inr (fun _ _ _ _ _ h => h), .inr (fun _ _ _ _ _ h => h), .inr (fun _ _ _ _ _ h => h), .inr ((fun v _ w w' hs hq => sp_sepb hs hq)), .inr ((fun v _ w w' hs hq => sp_oneb hs hq)), .inl (by kernel_rfl), .inl (by kernel_rfl), .inl (by kernel_rfl), trivial⟩⟩, ⟨(fun w => .inl rfl), ⟨.inr (fun _ _ _ _ _ h => h), .inr (fun _ _ _ _ _ h => h), .inr (fun _ _ _ _ _ h => h), .inr (fun _ _ _ _ _ h => h), .inr ((fun v _ w w' hs hq => sb_sepb hs hq)), .inr ((fun v _ w w' hs hq => sb_oneb hs hq)), .inr ((fun v _ w w' hs hq => sb_appb hs hq)), .inr (fun _ _ _ _ _ h => h), .inl (by kernel_rfl), trivial⟩⟩, trivial⟩ ⟨(fun h => by cases h), (fun h => by cases h), (fun h => by cases h), (fun h => by cases h), (fun h => by cases h), (fun h => by cases h), (fun h => by cases h), (fun h => by cases h), fun _ _ _ _ h => h, trivial⟩ ⟨gL.drew, hLr, by show _ ≤ wr.heap.size; omega, fun _ => hLg, fun _ => hU.row, hU.each⟩ ?_ ?_
   ·refine ⟨?_, ?_, ?_, ?_, ?_, ?_, ?_, ?_, ?_, trivial⟩
    ·refine needv_plain rfl (fun a w' dn hr hg hin => ?_)
     have e1 : a.eval (.tmp 1) = .pointer (some ⟨w.heap.size + 1, 0, none⟩) := insw_ext hin 1 (by kernel_rfl)
     refine uponw_val ?_ hg rfl
     clear hin hg
     obtain ⟨ek, ef⟩ := evs a
     generalize a.eval = ev at *
     go_simp
     all_goals first | omega | (intro _; omega) | go_arith
    ·refine needv_plain rfl (fun a w' dn hr hg hin => ?_)
     have e7 : a.eval (.tmp 7) = _ := insw_on hin 0 (by kernel_rfl)
     have n6 := hr.not1 6 (by kernel_rfl)
     have n8 := hr.notBy 8 6 n6 (by kernel_rfl)
     have z0 := box_cell (hg.2.2.2.1 n8) 0 _ rfl
     refine uponw_val ?_ hg rfl
     clear hin hg hr
     obtain ⟨ek, ef⟩ := evs a
     generalize a.eval = ev at *
     go_simp
     all_goals first | omega | (intro _; omega) | go_arith
    ·refine needv_plain rfl (fun a w' dn hr hg hin => ?_)
     refine uponw_call (f := 42) (args := #[]) ?_ ((free_any w').mono ?_)
     ·clear hin hg hr
      obtain ⟨ek, ef⟩ := evs a
      generalize a.eval = ev at *
      go_simp
      all_goals first | omega | (intro _; omega) | go_arith
     ·rintro e w2 ⟨rfl, g2⟩
      exact ⟨_, rfl, g2, RNewJ.grow hg g2, rfl⟩
    ·refine needv_plain rfl (fun a w' dn hr hg hin => ?_)
     have e : a.eval (.tmp 2) = .int .i64 (k : Int) := insw_ext hin 2 (by kernel_rfl)
     exact uponw_move rfl hg e
    ·refine needv_plain rfl (fun a w' dn hr hg hin => ?_)
     have e9 : a.eval (.tmp 9) = _ := insw_on hin 2 (by kernel_rfl)
     have e10 : a.eval (.tmp 10) = _ := insw_on hin 3 (by kernel_rfl)
     have n6 := hr.not1 6 (by kernel_rfl)
     refine uponw_call (f := 66) (args := #[.agg #[.int .i64 1, .int .i64 0, .int .i64 0, .slice none 0 0], .int .i64 (k : Int)]) ?_ ((rbytes_ok 1 0 0 (k : Int) [] _ w' (bytes_nil _) free_right (by omega) (by omega)).mono ?_)
     ·clear hin hg hr
      obtain ⟨ek, ef⟩ := evs a
      generalize a.eval = ev at *
      go_simp
      all_goals first | omega | (intro _; omega) | go_arith
     ·rintro e w2 ⟨v', rfl, ho, g2⟩
      rw [HBE.out, ← HL16.out] at ho
      have hJ2 := RNewJ.grow hg g2
      exact ⟨_, rfl, g2, hJ2, own_mono ho hg.2.2.1, own_differ ho (hJ2.2.2.2.2.1 n6) (by decide)⟩
    ·refine needv_plain rfl (fun a w' dn hr hg hin => ?_)
     have e11 : (SepB (w.heap.size + 1 + 1) (.slice av bs.length cv) bl) (a.eval (.tmp 11)) w' := insw_on hin 4 (by kernel_rfl)
     have n6 := hr.not1 6 (by kernel_rfl)
     obtain ⟨a1, c1, h11⟩ := own_slice e11.1
     rw [h11] at e11
     refine uponw_step (v := .slice (some ⟨w'.heap.size, 0, none⟩) 1 1) (w' := w'.alloc (.cells #[.slice a1 bl.length c1] 31)) ?_ (grow_alloc _ _) (RNewJ.grow hg (grow_alloc _ _)) ⟨_, _, rfl, heap_new _ _ _, fun q hq => by have := ((hg.2.2.2.2.1 n6).lt q hq).2; omega, st_sepb _ _ _ _ _ _ (grow_alloc _ _) e11⟩
     clear hin hg hr e11
     obtain ⟨ek, ef⟩ := evs a
     generalize a.eval = ev at *
     go_simp
     all_goals first | omega | (intro _; omega) | go_arith
    ·refine needv_plain rfl (fun a w' dn hr hg hin => ?_)
     have e8 : a.eval (.tmp 8) = _ := insw_on hin 1 (by kernel_rfl)
     have e12 : (OneB (w.heap.size + 1 + 1) (.slice av bs.length cv) bl) (a.eval (.tmp 12)) w' := insw_on hin 5 (by kernel_rfl)
     obtain ⟨b0, u, h12, hh0, hb0, ho⟩ := e12
     have hrow := hg.2.2.2.2.1 hr.un
     obtain ⟨v', w2, hrun, ho2, hg2⟩ := app_block w' (w.heap.size + 1 + 1) bs.length b0 _ us u 22 hrow hh0 (by obtain ⟨a4, c4, rfl⟩ := own_slice ho.1; rfl) (by omega) hg.2.2.1
     have hst : AppStep (.slice av bs.length cv) w' w2 := .inr hg2
     refine uponw_step (v := v') (w' := w2) ?_ hst ⟨grow_of_grown hg.1 hg2 (fun k hk => by have := (hrow.lt k hk).1; omega), (hg2.block _ (heap_lt hg.2.1) (out_ne hrow (by decide) hg.2.1)).trans hg.2.1, Nat.le_trans hg.2.2.1 hg2.size, fun h8 => ?_, fun h => by simp [upd] at h, fun i hi => (hg.2.2.2.2.2 i hi).imp fun _ hu => ⟨hu.1, own_sep hst (own_differ hu.2 hrow (by decide)) hu.2⟩⟩ ⟨u, ho2, own_sep hst ho.2 ho.1⟩
     ·exact exec_append (.tmp 8) (.tmp 12) 22 rfl _ _ e8 h12 hrun
     ·have h8' := hg.2.2.2.1 h8
      exact (hg2.block _ (heap_lt h8') (out_ne hrow (by decide) h8')).trans h8'
    ·refine needv_plain rfl (fun a w' dn hr hg hin => ?_)
     have e1 : a.eval (.tmp 1) = .pointer (some ⟨w.heap.size + 1, 0, none⟩) := insw_ext hin 1 (by kernel_rfl)
     refine uponw_val ?_ hg rfl
     clear hin hg
     obtain ⟨ek, ef⟩ := evs a
     generalize a.eval = ev at *
     go_simp
     all_goals first | omega | (intro _; omega) | go_arith
    ·refine needv_plain rfl (fun a w' dn hr hg hin => ?_)
     have e14 : a.eval (.tmp 14) = _ := insw_on hin 7 (by kernel_rfl)
     have e13 : (AppB (w.heap.size + 1 + 1) bs.length us bl) (a.eval (.tmp 13)) w' := insw_on hin 6 (by kernel_rfl)
     obtain ⟨u, ho, hu⟩ := e13
     obtain ⟨a3, c3, h13⟩ := own_slice ho
     have hh8 := hg.2.2.2.1 hr.un
     have y3 := box_cell hh8 0 _ rfl
     have f3 := box_frozen hh8 0
     have hp1 := heap_set hh8 0 (a.eval (.tmp 13))
     have hp2 : (w'.setCell ⟨w.heap.size + 1, 0, none⟩ (a.eval (.tmp 13))).heap[w.heap.size + 1]? = some (.cells #[a.eval (.tmp 13), .slice none 0 0] 25 (0, 0)) := by simpa using hp1
     have hstep : BoxStep 25 w' (w'.setCell ⟨w.heap.size + 1, 0, none⟩ (a.eval (.tmp 13))) := .inr ⟨w.heap.size + 1, _, _, (GrowBut.refl _ _).set _ _ _, hh8, hp1, by simp⟩
     refine uponw_skip (w' := w'.setCell ⟨w.heap.size + 1, 0, none⟩ (a.eval (.tmp 13))) ?_ hstep ⟨grow_set hg.1 (by show w.heap.size ≤ w.heap.size + 1; omega) _, ?_, by simpa using hg.2.2.1, fun h => by simp [upd] at h, fun h => ?_, fun i hi => (hg.2.2.2.2.2 i hi).imp fun _ hu => ⟨hu.1, own_box (by decide) hstep hu.2⟩⟩ ⟨hp2, u, own_box (by decide) hstep ho, own_box (by decide) hstep hu⟩
     ·clear hin hg hh8 hp1 hp2 hstep ho hu hr
      obtain ⟨ek, ef⟩ := evs a
      generalize a.eval = ev at *
      go_simp
      all_goals first | omega | (intro _; omega) | go_arith
     ·rw [Below.heap_setCell _ _ _ _ (by show w.heap.size ≠ w.heap.size + 1; omega)]; exact hg.2.1
     ·have := hr.rd 6 (by kernel_rfl)
      have h' : dn 6 = false := h
      rw [this] at h'; cases h'
   ·intro vs w' dn hdn hg ht
    obtain ⟨q7, q8, q9, q10, q11, q12, q13, q14, qo8, -⟩ := ht
    have r7 : vs 0 = .pointer (some ⟨w.heap.size + 1, 0, none⟩) := q7
    have r8 : vs 1 = .slice av bs.length cv := q8
    have r9 : vs 2 = .agg #[.int .i64 1, .int .i64 0, .int .i64 0, .slice none 0 0] := q9
    have r10 : vs 3 = .int .i64 (k : Int) := q10
    replace q11 : (SepB (w.heap.size + 1 + 1) (.slice av bs.length cv) bl) (vs 4) w' := q11
    replace q12 : (OneB (w.heap.size + 1 + 1) (.slice av bs.length cv) bl) (vs 5) w' := q12
    replace q13 : (AppB (w.heap.size + 1 + 1) bs.length us bl) (vs 6) w' := q13
    have r14 : vs 7 = .pointer (some ⟨w.heap.size + 1, 0, none⟩) := q14
    replace qo8 : ((fun _ v w' => PutB (w.heap.size + 1 + 1) (w.heap.size + 1) bs.length us bl v w')) (vs 8) (vs 6) w' := qo8
    clear q7 q8 q9 q10 q14
    simp only [putAll, Act.put, List.setIfInBounds_toArray, List.set_cons_zero, List.set_cons_succ, Nat.reduceAdd, r7, r8, r9, r10, r14]
    clear r7 r8 r9 r10 r14
    obtain ⟨hp2, u, ho, hu⟩ := qo8
    have hL2 := OwnU.snoc hU ho hg.2.2.2.2.2 hu
    rw [← HT.out] at hL2
    have hend : RNewL w (Dk.new.blocks.take (k + 1)) w' := ⟨hg.1, hg.2.1, _, _, hp2, hL2⟩
    clear hg hdn q11 q12 q13 hL2 hp2 ho hu hU hLr hLg gL
    generalize vs 4 = u4
    generalize vs 5 = u5
    generalize vs 6 = u6
    go_wp2_with fail
    go_roundw
    case rel => exact ⟨k + 1, by omega, by simp, hend⟩
    case measure => simp [intOf]; omega
  ·have hk' : k = 12 := by omega
   subst hk'
   have hte : Dk.new.blocks.take 12 = Dk.new.blocks := List.take_of_length_le (by rw [new_len]; omega)
   rw [hte] at hU
   obtain ⟨av, cv, rfl⟩ := hU.p.form
   obtain ⟨y0, y1⟩ := box2 hLg rfl rfl
   obtain ⟨z0, z1⟩ := box2 hLr rfl rfl
   have f0 := box_frozen hLr 0
   have f1 := box_frozen hLr 1
   have cs := cell_set
   obtain ⟨hp1, hp2⟩ := box_put2 hLr (.slice av Dk.new.blocks.length cv) (.slice none 0 0)
   have hstep : BoxStep 25 wr _ := .inr ⟨_, _, _, hp2, hLr, hp1, rfl⟩
   have gE := hp2.grow gL (by omega)
   have hE := (hU.box hstep).mono (B' := w.heap.size) (by omega)
   clear hp1 hp2 hstep hU hLg hLr gL hte
   generalize Dk.new.blocks.length = nn at *
   go_wp2_with fail
   exact bodyPost_ret (v := .agg #[.slice av nn cv, .slice none 0 0]) (by simp [results, Try.results33, go_sem, z0, z1, cs]) rfl ⟨_, rfl, ⟨_, _, rfl, ⟨us, hE⟩, OwnLt.nil _ _⟩, gE⟩
end Go.Proofs.Ytgaecpdokgklpab
