/-
  What the program's own, chosen, Own and Drop make of entries: copies of those that are wanted, in memory of their own.
  Condition: the entries lie in memory, each with at most eight bytes, at most a million of them.
-/
import Derived.Test.YtgaecpdokgklpabIdxO
namespace Go.Proofs.Ytgaecpdokgklpab
set_option maxRecDepth 100000
open Go.RowKit
open Go.Proofs.Ytgaecpdokgklpab.Plain Go.Proofs.Ytgaecpdokgklpab.Reg

theorem box_put5 {w : World} {g : Nat} {T : TypeId} {f} {c0 c1 c2 c3 c4 : Value} (h : w.heap[g]? = some (.cells #[c0, c1, c2, c3, c4] T f)) (x0 x1 x2 x3 x4 : Value) :
  (((((w.setCell ⟨g, 0, none⟩ x0).setCell ⟨g, 1, none⟩ x1).setCell ⟨g, 2, none⟩ x2).setCell ⟨g, 3, none⟩ x3).setCell ⟨g, 4, none⟩ x4).heap[g]? = some (.cells #[x0, x1, x2, x3, x4] T f) ∧ GrowBut g w (((((w.setCell ⟨g, 0, none⟩ x0).setCell ⟨g, 1, none⟩ x1).setCell ⟨g, 2, none⟩ x2).setCell ⟨g, 3, none⟩ x3).setCell ⟨g, 4, none⟩ x4) := by
 refine ⟨?_, (((((GrowBut.refl g w).set _ _ _).set _ _ _).set _ _ _).set _ _ _).set _ _ _⟩
 have h1 := heap_set (heap_set (heap_set (heap_set (heap_set h 0 x0) 1 x1) 2 x2) 3 x3) 4 x4
 simpa using h1
/-- A record whose bytes lie in memory of their own. -/
def OwnRc (B : Nat) (r : Rec) (v : Value) (w : World) : Prop := ∃ a c, v = .agg #[.int .i64 r.kind, .int .i64 r.key, .int .i64 r.ver, .slice a r.data.length c] ∧ w.ownsRow B 5 1 (.slice a r.data.length c) r.data.length (r.data.map bv)
theorem st_ownrc (B : Nat) (r : Rec) : Stable (OwnRc B r) := by
 rintro v w w' hg ⟨a, c, h1, h2⟩; exact ⟨a, c, h1, own_grow h2 hg⟩
theorem sp_ownrc {B : Nat} {r : Rec} {v : Value} {w w' : World} (hs : BoxStep 37 w w') (h : OwnRc B r v w) : OwnRc B r v w' := by
 obtain ⟨a, c, h1, h2⟩ := h; exact ⟨a, c, h1, own_box (by decide) hs h2⟩
/-- An entry whose bytes lie in memory of their own. -/
def OwnE (B : Nat) (x : Ent) (v : Value) (w : World) : Prop := ∃ a c, v = .agg #[.int .i64 x.rc.kind, .int .i64 x.rc.key, .int .i64 x.rc.ver, .slice a x.rc.data.length c, .int .i64 x.pair] ∧ w.ownsRow B 5 1 (.slice a x.rc.data.length c) x.rc.data.length (x.rc.data.map bv)
theorem st_owne (B : Nat) (x : Ent) : Stable (OwnE B x) := by
 rintro v w w' hg ⟨a, c, h1, h2⟩; exact ⟨a, c, h1, own_grow h2 hg⟩
theorem sp_owne {B : Nat} {x : Ent} {v : Value} {w w' : World} (hs : BoxStep 37 w w') (h : OwnE B x v w) : OwnE B x v w' := by
 obtain ⟨a, c, h1, h2⟩ := h; exact ⟨a, c, h1, own_box (by decide) hs h2⟩
/-- A variable holds the entry that v is. -/
def HeldE (B g : Nat) (x : Ent) (w : World) : Prop := ∃ a c, w.heap[g]? = some (.cells #[.int .i64 x.rc.kind, .int .i64 x.rc.key, .int .i64 x.rc.ver, .slice a x.rc.data.length c, .int .i64 x.pair] 37 (0, 0)) ∧ w.ownsRow B 5 1 (.slice a x.rc.data.length c) x.rc.data.length (x.rc.data.map bv)
theorem st_helde (B g : Nat) (x : Ent) : Stable (fun _ w => HeldE B g x w) := by
 rintro v w w' hg ⟨a, c, h1, h2⟩; exact ⟨a, c, (hg.block _ (heap_lt h1)).trans h1, own_grow h2 hg⟩

set_option maxHeartbeats 4000000 in
theorem iown_any (x : Ent) (a0 : Option Addr) (c0 : Nat) (w : World) (hm : x.rc.data.length ≤ 140737488355328) (hb : Bytes w (.slice a0 x.rc.data.length c0) x.rc.data) :
  Calls Try.prog 51 #[.agg #[.int .i64 x.rc.kind, .int .i64 x.rc.key, .int .i64 x.rc.ver, .slice a0 x.rc.data.length c0, .int .i64 x.pair]] w fun e w' => ∃ v, e = .returned v ∧ OwnE w.heap.size x v w' ∧ Grow w w' := by
 have g0 := grow_alloc2 w (.cells #[.int .i64 x.rc.kind, .int .i64 x.rc.key, .int .i64 x.rc.ver, .slice a0 x.rc.data.length c0, .int .i64 x.pair] 37) (.cells #[.int .i64 0, .int .i64 0, .int .i64 0, .slice none 0 0, .int .i64 0] 37)
 have hx0 := heap_new w #[.int .i64 x.rc.kind, .int .i64 x.rc.key, .int .i64 x.rc.ver, .slice a0 x.rc.data.length c0, .int .i64 x.pair] 37
 have hy0 := heap_new (w.alloc (.cells #[.int .i64 x.rc.kind, .int .i64 x.rc.key, .int .i64 x.rc.ver, .slice a0 x.rc.data.length c0, .int .i64 x.pair] 37)) #[.int .i64 0, .int .i64 0, .int .i64 0, .slice none 0 0, .int .i64 0] 37
 have hx1 := ((grow_alloc (w.alloc (.cells #[.int .i64 x.rc.kind, .int .i64 x.rc.key, .int .i64 x.rc.ver, .slice a0 x.rc.data.length c0, .int .i64 x.pair] 37)) (.cells #[.int .i64 0, .int .i64 0, .int .i64 0, .slice none 0 0, .int .i64 0] 37)).block _ (heap_lt hx0)).trans hx0
 rw [World.size_alloc] at hy0
 clear hx0
 go_enter Try.func51, Try.ntmps51
 go_wp2_with fail
 generalize World.alloc (World.alloc w _) _ = W at *
 refine wp_region_v [pl (ex (.pointer (some ⟨w.heap.size, 0, none⟩))), pl (ex (.agg #[.int .i64 x.rc.kind, .int .i64 x.rc.key, .int .i64 x.rc.ver, .slice a0 x.rc.data.length c0])), pl ((OwnRc (w.heap.size + 2) x.rc)), pl (ex (.pointer (some ⟨w.heap.size, 4, none⟩))), pl (ex (.int .i64 x.pair)), pl ((OwnE (w.heap.size + 2) x)), pl ((fun _ w' => HeldE (w.heap.size + 2) (w.heap.size + 1) x w'))] [none, none, none, none, none, none, some ((BoxStep 37))] (fun dn w' => Grow w w' ∧ w.heap.size + 2 ≤ w'.heap.size ∧ w'.heap[w.heap.size]? = some (.cells #[.int .i64 x.rc.kind, .int .i64 x.rc.key, .int .i64 x.rc.ver, .slice a0 x.rc.data.length c0, .int .i64 x.pair] 37 (0, 0)) ∧ (dn 6 = false → w'.heap[w.heap.size + 1]? = some (.cells #[.int .i64 0, .int .i64 0, .int .i64 0, .slice none 0 0, .int .i64 0] 37 (0, 0)))) (by kernel_rfl) (by kernel_rfl) ⟨st_pl (st_ex _), st_pl (st_ex _), st_pl (st_ownrc _ _), st_pl (st_ex _), st_pl (st_ex _), st_pl (st_owne _ _), st_pl (st_helde _ _ _), trivial⟩ ⟨⟨(fun w => .inl rfl), ⟨.inr (fun _ _ _ _ _ h => h), .inr (fun _ _ _ _ _ h => h), .inr ((fun v _ w1 w' hs hq => sp_ownrc hs hq)), .inr (fun _ _ _ _ _ h => h), .inr (fun _ _ _ _ _ h => h), .inr ((fun v _ w1 w' hs hq => sp_owne hs hq)), .inl (by kernel_rfl), trivial⟩⟩, trivial⟩ ⟨(fun h => by cases h), (fun h => by cases h), (fun h => by cases h), (fun h => by cases h), (fun h => by cases h), (fun h => by cases h), fun _ _ _ _ h => h, trivial⟩ ⟨g0.drew, heap_lt hy0, hx1, fun _ => hy0⟩ ?_ ?_
 ·refine ⟨?_, ?_, ?_, ?_, ?_, ?_, ?_, trivial⟩
  ·refine needv_plain rfl (fun a w' dn hr hg hin => ?_)
   have e1 : a.eval (.tmp 1) = .pointer (some ⟨w.heap.size, 0, none⟩) := insw_ext hin 1 (by kernel_rfl)
   refine uponw_val ?_ hg rfl
   clear hin hg
   obtain ⟨ek, ef⟩ := evs a
   generalize a.eval = ev at *
   go_simp
   all_goals first | omega | (intro _; omega) | go_arith
  ·refine needv_plain rfl (fun a w' dn hr hg hin => ?_)
   have e3 : a.eval (.tmp 3) = _ := insw_on hin 0 (by kernel_rfl)
   have z0 := box_cell hg.2.2.1 0 _ rfl
   have z1 := box_cell hg.2.2.1 1 _ rfl
   have z2 := box_cell hg.2.2.1 2 _ rfl
   have z3 := box_cell hg.2.2.1 3 _ rfl
   refine uponw_val ?_ hg rfl
   clear hin hg hr
   obtain ⟨ek, ef⟩ := evs a
   generalize a.eval = ev at *
   go_simp
   all_goals first | omega | (intro _; omega) | go_arith
  ·refine needv_plain rfl (fun a w' dn hr hg hin => ?_)
   have e4 : a.eval (.tmp 4) = _ := insw_on hin 1 (by kernel_rfl)
   refine uponw_call (f := 57) (args := #[.agg #[.int .i64 x.rc.kind, .int .i64 x.rc.key, .int .i64 x.rc.ver, .slice a0 x.rc.data.length c0]]) ?_ ((own_any x.rc.kind x.rc.key x.rc.ver x.rc.data _ w' hm (bytes_grow hb hg.1)).mono ?_)
   ·clear hin hg hr
    obtain ⟨ek, ef⟩ := evs a
    generalize a.eval = ev at *
    go_simp
    all_goals first | omega | (intro _; omega) | go_arith
   ·rintro e w2 ⟨v', rfl, ho, g2⟩
    obtain ⟨a9, c9, rfl⟩ := own_slice ho
    exact ⟨_, rfl, g2, ⟨hg.1.trans g2, Nat.le_trans hg.2.1 g2.size, (g2.block _ (heap_lt hg.2.2.1)).trans hg.2.2.1, fun h => (g2.block _ (heap_lt (hg.2.2.2 h))).trans (hg.2.2.2 h)⟩, a9, c9, rfl, own_mono ho hg.2.1⟩
  ·refine needv_plain rfl (fun a w' dn hr hg hin => ?_)
   have e1 : a.eval (.tmp 1) = .pointer (some ⟨w.heap.size, 0, none⟩) := insw_ext hin 1 (by kernel_rfl)
   refine uponw_val ?_ hg rfl
   clear hin hg
   obtain ⟨ek, ef⟩ := evs a
   generalize a.eval = ev at *
   go_simp
   all_goals first | omega | (intro _; omega) | go_arith
  ·refine needv_plain rfl (fun a w' dn hr hg hin => ?_)
   have e6 : a.eval (.tmp 6) = _ := insw_on hin 3 (by kernel_rfl)
   have z4 := box_cell hg.2.2.1 4 _ rfl
   refine uponw_val ?_ hg rfl
   clear hin hg hr
   obtain ⟨ek, ef⟩ := evs a
   generalize a.eval = ev at *
   go_simp
   all_goals first | omega | (intro _; omega) | go_arith
  ·refine needv_plain rfl (fun a w' dn hr hg hin => ?_)
   have e5 : ((OwnRc (w.heap.size + 2) x.rc)) (a.eval (.tmp 5)) w' := insw_on hin 2 (by kernel_rfl)
   have e7 : a.eval (.tmp 7) = _ := insw_on hin 4 (by kernel_rfl)
   obtain ⟨a9, c9, h5, ho⟩ := e5
   refine uponw_val (v := .agg #[.int .i64 x.rc.kind, .int .i64 x.rc.key, .int .i64 x.rc.ver, .slice a9 x.rc.data.length c9, .int .i64 x.pair]) ?_ hg ⟨a9, c9, rfl, ho⟩
   clear hin hg hr ho
   obtain ⟨ek, ef⟩ := evs a
   generalize a.eval = ev at *
   go_simp
   all_goals first | omega | (intro _; omega) | go_arith
  ·refine needv_plain rfl (fun a w' dn hr hg hin => ?_)
   have e2 : a.eval (.tmp 2) = .pointer (some ⟨w.heap.size + 1, 0, none⟩) := insw_ext hin 2 (by kernel_rfl)
   have e8 : ((OwnE (w.heap.size + 2) x)) (a.eval (.tmp 8)) w' := insw_on hin 5 (by kernel_rfl)
   obtain ⟨a9, c9, h8, ho⟩ := e8
   have hh := hg.2.2.2 hr.un
   obtain ⟨hp1, hp2⟩ := box_put5 hh (.int .i64 x.rc.kind) (.int .i64 x.rc.key) (.int .i64 x.rc.ver) (.slice a9 x.rc.data.length c9) (.int .i64 x.pair)
   have hstep : BoxStep 37 w' _ := .inr ⟨_, _, _, hp2, hh, hp1, rfl⟩
   obtain ⟨y0, y1, y2, y3, y4⟩ := box5 hh rfl rfl rfl rfl rfl
   obtain ⟨f0, f1, f2, f3⟩ := boxf4 hh
   have f4 := box_frozen hh 4
   have cs := cell_set
   refine uponw_skip (w' := _) ?_ hstep ⟨hp2.grow hg.1 (by omega), Nat.le_trans hg.2.1 hp2.size, (hp2.block _ (heap_lt hg.2.2.1) (by omega)).trans hg.2.2.1, fun h => by simp [upd] at h⟩ ⟨a9, c9, hp1, own_box (by decide) hstep ho⟩
   clear hin hg hr hp1 hp2 hh ho hstep
   obtain ⟨ek, ef⟩ := evs a
   generalize a.eval = ev at *
   go_simp
   all_goals first | omega | (intro _; omega) | go_arith
 ·intro vs w' dn hdn hg ht
  obtain ⟨q3, q4, q5, q6, q7, q8, qo6, -⟩ := ht
  have r3 : vs 0 = .pointer (some ⟨w.heap.size, 0, none⟩) := q3
  have r4 : vs 1 = .agg #[.int .i64 x.rc.kind, .int .i64 x.rc.key, .int .i64 x.rc.ver, .slice a0 x.rc.data.length c0] := q4
  replace q5 : ((OwnRc (w.heap.size + 2) x.rc)) (vs 2) w' := q5
  have r6 : vs 3 = .pointer (some ⟨w.heap.size, 4, none⟩) := q6
  have r7 : vs 4 = .int .i64 x.pair := q7
  replace q8 : ((OwnE (w.heap.size + 2) x)) (vs 5) w' := q8
  replace qo6 : ((fun _ w' => HeldE (w.heap.size + 2) (w.heap.size + 1) x w')) (vs 6) w' := qo6
  clear q3 q4 q6 q7
  simp only [putAll, Act.put, List.setIfInBounds_toArray, List.set_cons_zero, List.set_cons_succ, Nat.reduceAdd, r3, r4, r6, r7]
  clear r3 r4 r6 r7
  obtain ⟨a9, c9, hp, ho⟩ := qo6
  obtain ⟨y0, y1, y2, y3, y4⟩ := box5 hp rfl rfl rfl rfl rfl
  have gE := hg.1
  have hoE := own_mono ho (base' := w.heap.size) (by omega)
  clear q5 q8 hdn hg hp ho hx1 hy0 g0
  go_wp2_with fail
  exact bodyPost_ret (v := .agg #[.int .i64 x.rc.kind, .int .i64 x.rc.key, .int .i64 x.rc.ver, .slice a9 x.rc.data.length c9, .int .i64 x.pair]) (by simp [results, Try.results51, go_sem, y0, y1, y2, y3, y4]) rfl ⟨_, rfl, ⟨a9, c9, rfl, hoE⟩, gE⟩

theorem filter_next (Pr : Ent → Bool) {l : List Ent} {k : Nat} (h : k < l.length) : (l.take (k + 1)).filter Pr = (l.take k).filter Pr ++ (if Pr l[k] = true then [l[k]] else []) := by
 rw [List.take_succ_eq_append_getElem h, List.filter_append]
 congr 1
 by_cases hp : Pr l[k] = true
 ·rw [if_pos hp, List.filter_cons_of_pos hp]; rfl
 ·rw [if_neg hp, List.filter_cons_of_neg hp]; rfl
theorem OutR.made {α : Type} {sh : Shape α} {S0 : Nat → Prop} {B : Nat} {v : Value} {w : World} (h : w.ownsRow B sh.T sh.size v 0 []) : OutR sh S0 B v [] [] w := ⟨rfl, fun i hi => by simp at hi, h⟩
/-- Nothing that was there is leant on. -/
abbrev NoS : Nat → Prop := fun _ => False
set_option maxHeartbeats 4000000 in
theorem chosen_any (K : Nat) (caps : Array Value) (Pr : Ent → Bool) (S : Nat → Prop) (l : List Ent) (v : Value) (w : World) (hK : ∀ (args : Array Value) (w : World), (callFunc K args).run Try.prog w = .ok (.enter K args) w) (hl : EntsS S w v l) (hn : l.length ≤ 1000000) (h8 : ∀ x ∈ l, x.rc.data.length ≤ 8)
  (hc : ∀ (x : Ent) (a : Option Addr) (c : Nat) (w' : World), x ∈ l → Grow w w' → Calls Try.prog K (#[.agg #[.int .i64 x.rc.kind, .int .i64 x.rc.key, .int .i64 x.rc.ver, .slice a x.rc.data.length c, .int .i64 x.pair]] ++ caps) w' fun e w2 => e = .returned (.bool (Pr x)) ∧ Grow w' w2) :
  Calls Try.prog 47 #[v, .func (.func K) #[] caps] w fun e w' => ∃ v' css, e = .returned v' ∧ OutR entShape NoS w.heap.size v' (l.filter Pr) css w' ∧ Grow w w' := by
 obtain ⟨i0, hif, hz0, hz1, hz2⟩ := info_parts info_ent
 obtain ⟨ao, cp, rfl⟩ := hl.form
 obtain ⟨F, hF⟩ : ∃ F, F = l.filter Pr := ⟨_, rfl⟩
 rw [← hF]
 have HF : Hid _ := hF
 clear hF
 go_enter Try.func47, Try.ntmps47
 go_wp2_with (at_make; refine wpList_make_own _ rfl _ _ 28 rfl w.heap.size 37 i0 (.agg #[.int .i64 0, .int .i64 0, .int .i64 0, .slice none 0 0, .int .i64 0]) 5 Try.underlying28 hif hz0 hz1 .i64 .i64 _ l.length rfl rfl rfl (by rw [hz2]; omega) (by unfold maxLen; omega) (Nat.le_refl _) ?_; intro w1 hown1 hgrow1)
 have hR0 : OutR entShape NoS w.heap.size (.slice (some ⟨w.heap.size, 0, none⟩) 0 l.length) [] [] w1 := OutR.made hown1
 have g0 : Grow w w1 := grow_of_grown (Grow.refl _) hgrow1 (fun k e => by cases e)
 clear hown1 hgrow1
 go_loopw [5, 13] (fun o i wr => ∃ (k : Nat) (css : List (List Value)), k ≤ l.length ∧ i = .int .i64 k ∧ OutR entShape NoS w.heap.size o ((l.take k).filter Pr) css wr ∧ Grow w wr) (fun _ i _ => l.length - (intOf i).toNat)
 case atStart => exact ⟨0, [], Nat.zero_le _, rfl, hR0, g0⟩
 case round =>
  clear hR0 g0
  obtain ⟨k, css, hk, rfl, hR, hg⟩ := hrel
  by_cases hlt : k < l.length
  ·obtain ⟨b, off, a1, c1, hv1, q0, q1, q2, q3, q4, hu⟩ := ents_at (hl.grow hg) k hlt
   cases hv1
   have HT : Hid ((l.take (k + 1)).filter Pr = (l.take k).filter Pr ++ (if Pr l[k] = true then [l[k]] else [])) := filter_next Pr hlt
   have hxl : ((l.take k).filter Pr).length ≤ 1000000 := Nat.le_trans (List.length_filter_le _ _) (by rw [List.length_take]; omega)
   have HM : Hid (l[k] ∈ l) := List.getElem_mem hlt
   have HB : Hid (l[k].rc.data.length ≤ 8) := h8 _ (List.getElem_mem hlt)
   generalize l[k] = x at *
   generalize (l.take k).filter Pr = xs at *
   obtain ⟨a0, c0, rfl⟩ := hR.form
   have g1 := grow_alloc wr (.cells #[.int .i64 x.rc.kind, .int .i64 x.rc.key, .int .i64 x.rc.ver, .slice a1 x.rc.data.length c1, .int .i64 x.pair] 37)
   have hX1 := heap_new wr #[.int .i64 x.rc.kind, .int .i64 x.rc.key, .int .i64 x.rc.ver, .slice a1 x.rc.data.length c1, .int .i64 x.pair] 37
   have hR1 := hR.grow g1
   have hu1 := hu.grow g1
   have gw1 := hg.trans g1
   clear hR hu hg g1
   obtain ⟨x0, x1, x2, x3, x4⟩ := box5 hX1 rfl rfl rfl rfl rfl
   go_wp2_with fail
   refine (hc x a1 c1 _ HM.out gw1).mono ?_
   rintro e w2 ⟨rfl, g2⟩
   have hR2 := hR1.grow g2
   have hu2 := hu1.grow g2
   have hX2 := (g2.block _ (heap_lt hX1)).trans hX1
   have gw2 := gw1.trans g2
   clear hR1 hu1 hX1 gw1 g2 x0 x1 x2 x3 x4 q0 q1 q2 q3 q4
   generalize wr.heap.size = gx at *
   obtain ⟨P, hP⟩ : ∃ P, P = Pr x := ⟨_, rfl⟩
   rw [← hP]
   have HP : Hid _ := hP
   clear hP
   obtain ⟨x0, x1, x2, x3, x4⟩ := box5 hX2 rfl rfl rfl rfl rfl
   cases P with
   | false =>
    have HT2 : Hid ((l.take (k + 1)).filter Pr = xs) := by show _ = _; rw [HT.out, ← HP.out]; simp
    clear HT HP hX2 hu2
    go_wp2_with fail
    go_roundw
    case rel => exact ⟨k + 1, _, by omega, by go_num, by rw [HT2.out]; exact hR2, gw2⟩
    case measure => simp [intOf]; omega
   | true =>
    have HT2 : Hid ((l.take (k + 1)).filter Pr = xs ++ [x]) := by show _ = _; rw [HT.out, ← HP.out]; simp
    clear HT HP
    go_wp2_with fail
    refine (iown_any x a1 c1 _ (by have := HB.out; omega) hu2.p).mono ?_
    rintro e w3 ⟨v3, rfl, ⟨a3, c3, rfl, ho3⟩, g3⟩
    have hR3 := hR2.grow g3
    have gw3 := gw2.trans g3
    have HO3 : Hid (w3.ownsRow w.heap.size 5 1 (.slice a3 x.rc.data.length c3) x.rc.data.length (x.rc.data.map bv)) := own_mono ho3 gw2.size
    have HSZ : Hid (w.heap.size ≤ w3.heap.size) := gw3.size
    have hnew : ∀ (j : Nat) u, ([.int .i64 x.rc.kind, .int .i64 x.rc.key, .int .i64 x.rc.ver, .slice a3 x.rc.data.length c3, .int .i64 x.pair] : List Value)[j]? = some u → (w3.alloc (.cells #[.int .i64 x.rc.kind, .int .i64 x.rc.key, .int .i64 x.rc.ver, .slice a3 x.rc.data.length c3, .int .i64 x.pair] 37)).cell? ((⟨w3.heap.size, 0, none⟩ : Addr).add j) = some u := fun j u hj => news_five w3 _ _ _ _ _ 37 j u hj
    clear hR2 hu2 hX2 gw2 g3 ho3 x0 x1 x2 x3 x4
    go_wp2_with (first | (at_builtin; refine wpList_append_own _ rfl (.tmp 20) (.tmp 23) 28 rfl (w.heap.size) 37 i0 (.agg #[.int .i64 0, .int .i64 0, .int .i64 0, .slice none 0 0, .int .i64 0]) 5 56 Try.underlying28 hif hz0 hz1 hz2 rfl (by decide) (.slice a0 xs.length c0) _ _ rfl (hR3.row.alloc _) ⟨w3.heap.size, 0, none⟩ 1 1 [.int .i64 x.rc.kind, .int .i64 x.rc.key, .int .i64 x.rc.ver, .slice a3 x.rc.data.length c3, .int .i64 x.pair] rfl rfl hnew (by intro u hu; simp at hu; rcases hu with rfl | rfl | rfl | rfl | rfl <;> rfl) (by unfold maxLen; omega) (by omega) (by have := HSZ.out; simp; omega) ?_; intro v4 w4 hown4 hgrow4 _; have hR6 := hR3.step (x := x) (by decide) (fun b h => h.elim) ⟨_, rfl, own_in _ (Nat.le_refl _) HO3.out⟩ hgrow4 hown4; have g6 : Grow w w4 := grow_of_grown (gw3.trans (grow_alloc _ _)) hgrow4 (fun k hk => (hR3.row.lt k hk).1); have hsl := own_slice2 hown4; obtain ⟨a4, c4, hv4⟩ := hsl; subst hv4; clear hgrow4 hown4 hR3 hnew gw3))
    go_roundw
    case rel => exact ⟨k + 1, _, by omega, by go_num, by rw [HT2.out]; exact hR6, g6⟩
    case measure => simp [intOf]; omega
  ·have HE : Hid (F = (l.take k).filter Pr) := by show F = _; rw [HF.out, List.take_of_length_le (by omega)]
   rw [← HE.out] at hR
   obtain ⟨a0, c0, rfl⟩ := hR.form
   go_wp2_with fail
   go_ret
   exact ⟨_, _, rfl, hR, hg⟩
end Go.Proofs.Ytgaecpdokgklpab
