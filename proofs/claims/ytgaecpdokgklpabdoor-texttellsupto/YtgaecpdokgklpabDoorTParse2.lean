/-
  What the program's Parse reads of a text, walked.
  Condition: strconv's and strings' functions answer as they should (premises).
-/
import Derived.Test.YtgaecpdokgklpabDoorTParse
namespace Go.Proofs.YtgaecpdokgklpabDoor
set_option maxRecDepth 100000
open Go.RowKit
open Go.Proofs.YtgaecpdokgklpabDoor.Plain Go.Proofs.YtgaecpdokgklpabDoor.Reg

theorem shape_form (u : List UInt8) : ∃ (K N : Int) (B : Bool), shapeV u = .tuple #[.agg #[.int .i64 K, .int .i64 N], .bool B] ∧ ((B = false ∧ shapeOf u = none) ∨ (B = true ∧ shapeOf u = some (K, N))) := by
 unfold shapeV
 cases h : shapeOf u with
 | none => exact ⟨0, 0, false, rfl, .inl ⟨rfl, rfl⟩⟩
 | some kn => exact ⟨kn.1, kn.2, true, rfl, .inr ⟨rfl, rfl⟩⟩
theorem shape_small {u : List UInt8} {K N : Int} (h : shapeOf u = some (K, N)) : (K = 1 ∧ N = 3) ∨ (K = 2 ∧ N = 2) ∨ (K = 3 ∧ N = 3) := by
 unfold shapeOf at h
 split at h
 ·cases h; simp
 ·split at h
  ·cases h; simp
  ·split at h
   ·cases h; simp
   ·cases h
theorem parts_cons {s : List UInt8} {ws : List (List UInt8)} (h : Parts s ws) : ∃ u0 us rest, ws = u0 :: us ∧ wordsB s = u0 :: rest ∧ (us = rest ∨ (us.length = 3 ∧ 3 < rest.length)) := by
 obtain ⟨_, h | ⟨h1, h2, h3⟩⟩ := h
 ·cases hw : wordsB s with
  | nil => exact absurd hw (words_ne s)
  | cons u0 us => exact ⟨u0, us, us, by rw [h, hw], rfl, .inl rfl⟩
 ·cases hw : wordsB s with
  | nil => exact absurd hw (words_ne s)
  | cons u0 rest =>
   cases ws with
   | nil => simp at h1
   | cons u us =>
    rw [hw] at h3 h2
    simp at h3 h1 h2
    subst h3
    exact ⟨u, us, rest, rfl, rfl, .inr ⟨by omega, by omega⟩⟩

theorem tdataR_len {w l : List UInt8} (h : dataR w = some l) : l.length ≤ w.length := by
 unfold dataR at h
 split at h
 ·cases h; simp
 ·split at h
  ·cases h
  ·have := unhex_len2 w l h; omega
theorem read_len {K : Int} {us : List (List UInt8)} {d : Dd} {n : Nat} (h : readW K us = some d) (hu : ∀ x ∈ us, x.length ≤ n) : d.data.length ≤ n := by
 unfold readW at h
 split at h
 ·split at h
  ·split at h
   ·cases h; simp
   ·cases h
  ·cases h
 ·split at h
  ·split at h
   ·rename_i h1 h2
    cases h
    exact Nat.le_trans (tdataR_len h2) (hu _ (by simp))
   ·cases h
  ·split at h
   ·split at h
    ·cases h; simp
    ·cases h
   ·cases h
 ·cases h
set_option maxHeartbeats 8000000 in
theorem tparse_any (V : World → Prop) (hV : ∀ w w', V w → Grow w w' → V w') (IT : ItoaC V) (AT : AtoiC V) (IX : IndexC) (SP : SplitC V) (s : List UInt8) (w : World) (hw : V w) (hs : s.length ≤ 140737488355328) :
  Calls Tryd.prog 6 #[.string ⟨s.toArray⟩] w fun r w' => ∃ v, r = .returned v ∧ DeedQ (parseD s) v w' ∧ Grow w w' := by
 obtain ⟨PD, hPD⟩ : ∃ PD, PD = parseD s := ⟨_, rfl⟩
 rw [← hPD]
 have HPD : Hid _ := hPD
 clear hPD
 have g0 := grow_alloc w (.cells #[.int .i64 0, .int .i64 0, .int .i64 0, .slice none 0 0] 24)
 have hZ0 := heap_new w #[.int .i64 0, .int .i64 0, .int .i64 0, .slice none 0 0] 24
 go_enter Tryd.func6, Tryd.ntmps6
 go_wp2_with fail
 refine (SP s _ (hV _ _ hw g0) hs).mono ?_
 rintro r W ⟨ws, g, c, hP, rfl, hcap, hcell, g1⟩
 obtain ⟨u0, us, rest, rfl, hws, hrest⟩ := parts_cons hP
 have hZ := (g1.block _ (heap_lt hZ0)).trans hZ0
 have gW := g0.trans g1
 have hc0 : W.cell? ⟨g, 0, none⟩ = some (.string ⟨u0.toArray⟩) := hcell 0 (by simp)
 have HCELL : Hid (∀ (i : Nat) (h : i < us.length), W.cell? ⟨g, i + 1, none⟩ = some (.string ⟨us[i].toArray⟩)) := fun i h => hcell (i + 1) (by simpa using h)
 have hpd := tparse_read hws
 rw [← HPD.out] at hpd
 have HWL : Hid (∀ x ∈ rest, x.length ≤ 140737488355328) := fun x hx => Nat.le_trans (twords_len s x (by rw [hws]; simp [hx])) hs
 have HRE : Hid _ := hrest
 obtain ⟨K, N, B, hSV, hKN⟩ := shape_form u0
 have HKN : Hid _ := hKN
 have HPR : Hid _ := hpd
 simp only [List.length_cons] at hcap ⊢
 clear g0 hZ0 g1 hP hcell hws hrest hKN hpd HPD
 go_wp2_with fail
 refine wp_region_x [pl ((fun _ _ => True)), pl (ex (.slice (some ⟨g, 0, none⟩) (us.length + 1) c)), pl (ex (.pointer (some ⟨g, 0, none⟩))), pl (ex (.string ⟨u0.toArray⟩)), pl (ex (.tuple #[.agg #[.int .i64 K, .int .i64 N], .bool B])), pl (ex (.tuple #[.agg #[.int .i64 K, .int .i64 N], .bool B])), pl (ex (.agg #[.int .i64 K, .int .i64 N])), pl (ex (.bool B)), pl ((fun _ _ => True)), pl ((fun _ _ => True)), pl (ex (.bool B))] [none, none, none, none, none, none, none, none, none, some ((fun _ _ => True))] (ShJ W K N) (by kernel_rfl) (by kernel_rfl) ⟨st_pl ((fun _ _ _ _ _ => trivial)), st_pl (st_ex _), st_pl (st_ex _), st_pl (st_ex _), st_pl (st_ex _), st_pl (st_ex _), st_pl (st_ex _), st_pl (st_ex _), st_pl ((fun _ _ _ _ _ => trivial)), st_pl ((fun _ _ _ _ _ => trivial)), st_pl (st_ex _), trivial⟩ ⟨⟨(fun _ => trivial), ⟨.inr ((fun _ _ _ _ _ _ => trivial)), .inr (fun _ _ _ _ _ h => h), .inr (fun _ _ _ _ _ h => h), .inr (fun _ _ _ _ _ h => h), .inr (fun _ _ _ _ _ h => h), .inr (fun _ _ _ _ _ h => h), .inr (fun _ _ _ _ _ h => h), .inr (fun _ _ _ _ _ h => h), .inr ((fun _ _ _ _ _ _ => trivial)), .inl (by kernel_rfl), .inl (by kernel_rfl), trivial⟩⟩, trivial⟩ ⟨(fun h => by cases h), (fun h => by cases h), (fun h => by cases h), (fun h => by cases h), (fun h => by cases h), (fun h => by cases h), (fun h => by cases h), (fun h => by cases h), (fun h => by cases h), fun _ _ _ _ h => h, (fun h => by cases h), trivial⟩ (fun f => ShJ.start _ _ _ f) ?_ ?_
 ·refine ⟨?_, ?_, ?_, ?_, ?_, ?_, ?_, ?_, ?_, ?_, ?_, trivial⟩
  ·refine needx_plain rfl (fun a w' dn hr hg hin => ?_)
   refine uponw_call (f := 14) (args := #[]) ?_ ((tshapes_any w').mono ?_)
   ·clear hin hg hr
    obtain ⟨ek, ef⟩ := evs a
    generalize a.eval = ev at *
    go_simp
    all_goals first | omega | (intro _; omega) | go_arith
   ·rintro e w2 ⟨b, rfl, hb1, hb2, g2⟩
    exact ⟨_, rfl, g2, trivial, ShJ.call hg g2 hb2, trivial⟩
  ·refine needx_plain rfl (fun a w' dn hr hg hin => ?_)
   have e : a.eval (.tmp 4) = .slice (some ⟨g, 0, none⟩) (us.length + 1) c := insw_ext hin 4 (by kernel_rfl)
   exact uponx_move rfl hg e
  ·refine needx_plain rfl (fun a w' dn hr hg hin => ?_)
   have e13 : a.eval (.tmp 13) = _ := insw_on hin 1 (by kernel_rfl)
   refine uponx_val ?_ hg rfl
   clear hin hg
   obtain ⟨ek, ef⟩ := evs a
   generalize a.eval = ev at *
   go_simp
   all_goals first | omega | (intro _; omega) | go_arith
  ·refine needx_plain rfl (fun a w' dn hr hg hin => ?_)
   have e14 : a.eval (.tmp 14) = _ := insw_on hin 2 (by kernel_rfl)
   have h1 := (Below.cell hg.1 (cell_lt hc0)).trans hc0
   refine uponx_val ?_ hg rfl
   clear hin hg hr
   obtain ⟨ek, ef⟩ := evs a
   generalize a.eval = ev at *
   go_simp
   all_goals first | omega | (intro _; omega) | go_arith
  ·refine needx_plain rfl (fun a w' dn hr hg hin => ?_)
   have e12 : ((fun _ _ => True)) (a.eval (.tmp 12)) w' := insw_on hin 0 (by kernel_rfl)
   have e15 : a.eval (.tmp 15) = _ := insw_on hin 3 (by kernel_rfl)
   obtain ⟨b, hf, hb⟩ := hg.2.1 (hr.rd 0 (by kernel_rfl)) (hr.not1 9 (by kernel_rfl))
   replace hf : a.eval (.tmp 12) = .map (some b) := hf
   have hl := shape_ask u0 hb
   rw [hSV] at hl
   refine uponx_val ?_ hg rfl
   clear hin hg hr hb
   obtain ⟨ek, ef⟩ := evs a
   generalize a.eval = ev at *
   go_simp
   all_goals first | omega | (intro _; omega) | go_arith
  ·refine needx_plain rfl (fun a w' dn hr hg hin => ?_)
   have e : a.eval (.tmp 16) = _ := insw_on hin 4 (by kernel_rfl)
   exact uponx_move rfl hg e
  ·refine needx_plain rfl (fun a w' dn hr hg hin => ?_)
   have e11 : a.eval (.tmp 11) = _ := insw_on hin 5 (by kernel_rfl)
   refine uponx_val ?_ hg rfl
   clear hin hg
   obtain ⟨ek, ef⟩ := evs a
   generalize a.eval = ev at *
   go_simp
   all_goals first | omega | (intro _; omega) | go_arith
  ·refine needx_plain rfl (fun a w' dn hr hg hin => ?_)
   have e11 : a.eval (.tmp 11) = _ := insw_on hin 5 (by kernel_rfl)
   refine uponx_val ?_ hg rfl
   clear hin hg
   obtain ⟨ek, ef⟩ := evs a
   generalize a.eval = ev at *
   go_simp
   all_goals first | omega | (intro _; omega) | go_arith
  ·refine needx_plain rfl (fun a w' dn hr hg hin => ?_)
   refine uponx_step (v := .pointer (some ⟨w'.heap.size, 0, none⟩)) (w' := w'.alloc nilSh) ?_ (grow_alloc _ _) (ShJ.alloc hg (hr.not1 9 (by kernel_rfl))) trivial
   clear hin hg hr
   unfold nilSh
   obtain ⟨ek, ef⟩ := evs a
   generalize a.eval = ev at *
   go_simp
   all_goals first | omega | (intro _; omega) | go_arith
  ·refine needx_plain rfl (fun a w' dn hr hg hin => ?_)
   have e5 : ((fun _ _ => True)) (a.eval (.tmp 5)) w' := insw_on hin 8 (by kernel_rfl)
   have e17 : a.eval (.tmp 17) = _ := insw_on hin 6 (by kernel_rfl)
   obtain ⟨q, hf, hz, hJ'⟩ := ShJ.store hg (hr.rd 8 (by kernel_rfl)) hr.un
   have h5 : a.eval (.tmp 5) = .pointer (some ⟨q, 0, none⟩) := hf
   refine uponx_skip (w' := _) ?_ trivial hJ' trivial
   obtain ⟨y0, y1⟩ := box2 hz rfl rfl
   have f0 := box_frozen hz 0
   have f1 := box_frozen hz 1
   have cs := cell_set
   clear hin hg hr hz hJ' hf e5
   obtain ⟨ek, ef⟩ := evs a
   generalize a.eval = ev at *
   go_simp
   all_goals first | omega | (intro _; omega) | go_arith
  ·refine needx_plain rfl (fun a w' dn hr hg hin => ?_)
   have e : a.eval (.tmp 18) = _ := insw_on hin 7 (by kernel_rfl)
   exact uponx_assign rfl hg e
 ·intro vs w' dn hdn hg ht
  obtain ⟨q12, q13, q14, q15, q16, q11, q17, q18, q5, qo9, q6, -⟩ := ht
  replace q12 : ((fun _ _ => True)) (vs 0) w' := q12
  have r13 : vs 1 = .slice (some ⟨g, 0, none⟩) (us.length + 1) c := q13
  have r14 : vs 2 = .pointer (some ⟨g, 0, none⟩) := q14
  have r15 : vs 3 = .string ⟨u0.toArray⟩ := q15
  have r16 : vs 4 = .tuple #[.agg #[.int .i64 K, .int .i64 N], .bool B] := q16
  have r11 : vs 5 = .tuple #[.agg #[.int .i64 K, .int .i64 N], .bool B] := q11
  have r17 : vs 6 = .agg #[.int .i64 K, .int .i64 N] := q17
  have r18 : vs 7 = .bool B := q18
  replace q5 : ((fun _ _ => True)) (vs 8) w' := q5
  replace qo9 : ((fun _ _ => True)) (vs 9) w' := qo9
  have r6 : vs 10 = .bool B := q6
  clear q13 q14 q15 q16 q11 q17 q18 q6
  simp only [putAll, Act.put, List.setIfInBounds_toArray, List.set_cons_zero, List.set_cons_succ, Nat.reduceAdd, r13, r14, r15, r16, r11, r17, r18, r6]
  clear r13 r14 r15 r16 r11 r17 r18 r6
  obtain ⟨q, hfq, hqW, -, hq0⟩ := hg.2.2 (hdn 8 (by decide))
  have hq := hq0 (hdn 9 (by decide))
  have gq := hg.1
  rw [hfq]
  clear hg hdn hfq hq0 q12 q5 qo9
  generalize vs 0 = m0
  have hZq := (gq.block _ (heap_lt hZ)).trans hZ
  have gw := gW.trans gq
  have gW0 := gW
  have y1 := box_cell hq 1 _ rfl
  clear hZ gW
  rcases HKN.out with ⟨rfl, hk⟩ | ⟨rfl, hk⟩
  ·clear gW0
   obtain rfl : PD = (noDd, 1) := by have h := HPR.out; rw [hk] at h; exact h
   clear hk HKN HPR HRE HWL HCELL hq gq y1 hc0 hSV
   obtain ⟨hp1, hp2⟩ := box_put hZq (.int .i64 0) (.int .i64 0) (.int .i64 0) (.slice none 0 0)
   have gE := hp2.grow gw (Nat.le_refl _)
   obtain ⟨z0, z1, z2, z3⟩ := box4 hZq rfl rfl rfl rfl
   obtain ⟨f0, f1, f2, f3⟩ := boxf4 hZq
   have cs := cell_set
   obtain ⟨x0, x1, x2, x3⟩ := box4 hp1 rfl rfl rfl rfl
   clear hp1 hp2 hZq gw
   go_wp2_with fail
   exact bodyPost_ret (v := .tuple #[.agg #[.int .i64 0, .int .i64 0, .int .i64 0, .slice none 0 0], .int .i64 1]) (by simp [results, Tryd.results6, go_sem, x0, x1, x2, x3]) rfl ⟨_, rfl, ⟨none, 0, rfl, tbytes_none _⟩, gE⟩
  ·have hsm := shape_small hk
   have hpr := HPR.out
   rw [hk] at hpr
   simp only at hpr
   by_cases hlen : (us.length : Int) + 1 = N
   ·have hus : us = rest := by
     rcases HRE.out with h | ⟨h1, h2⟩
     ·exact h
     ·omega
    subst hus
    rw [if_pos hlen] at hpr
    have HPW : Hid (∀ w2, Grow W w2 → Calls Tryd.prog 15 #[.int .i64 K, .slice (some ⟨g, 1, none⟩) us.length (c - 1)] w2 fun r w3 => ∃ v, r = .returned v ∧ WordQ (readW K us) v w3 ∧ Grow w2 w3) := by
     intro w2 gw2
     have hw2 := hV _ _ hw (gW0.trans gw2)
     have hcl : ∀ (i : Nat) (h : i < us.length), w2.cell? ⟨g, i + 1, none⟩ = some (.string ⟨us[i].toArray⟩) := fun i h => (Below.cell gw2 (cell_lt (HCELL.out i h))).trans (HCELL.out i h)
     have hwl := HWL.out
     clear HKN HPR HRE HWL HCELL hpr
     rcases hsm with ⟨rfl, rfl⟩ | ⟨rfl, rfl⟩ | ⟨rfl, rfl⟩
     ·match us, hlen, hcl, hwl with
      | [a, b], _, hcl, hwl => exact twords_put V hV IT AT IX a b g 1 (c - 1) w2 hw2 (hwl a (by simp)) (hwl b (by simp)) (hcl 0 (by simp)) (hcl 1 (by simp))
      | [], h, _, _ => simp at h
      | [_], h, _, _ => simp at h
      | _ :: _ :: _ :: r, h, _, _ => simp at h; omega
     ·match us, hlen, hcl, hwl with
      | [a], _, hcl, hwl => exact twords_del V hV IT AT a g 1 (c - 1) w2 hw2 (hwl a (by simp)) (hcl 0 (by simp))
      | [], h, _, _ => simp at h
      | _ :: _ :: r, h, _, _ => simp at h; omega
     ·match us, hlen, hcl, hwl with
      | [a, b], _, hcl, hwl => exact twords_purge V hV IT AT a b g 1 (c - 1) w2 hw2 (hwl a (by simp)) (hwl b (by simp)) (hcl 0 (by simp)) (hcl 1 (by simp))
      | [], h, _, _ => simp at h
      | [_], h, _, _ => simp at h
      | _ :: _ :: _ :: r, h, _, _ => simp at h; omega
    have dL : (((us.length : Int) + 1) == N) = true := by simp [hlen]
    obtain ⟨o, ho⟩ : ∃ o, o = readW K us := ⟨_, rfl⟩
    have HOD : Hid (∀ d, o = some d → d.data.length ≤ 140737488355328) := fun d h => read_len (ho ▸ h) HWL.out
    rw [← ho] at hpr HPW
    have HPR2 : Hid _ := hpr
    have hcl : ¬ c = 1 := by omega
    clear hk HKN HPR HRE HWL HCELL hc0 hSV hsm hpr hlen ho gW0
    go_wp2_with fail
    clear y1 dL
    obtain ⟨W1, rfl⟩ : ∃ W1 : World, W1 = w' := ⟨_, rfl⟩
    refine wp_region_x [pl (ex (.pointer (some ⟨q, 0, none⟩))), pl (ex (.int .i64 K)), pl (ex (.slice (some ⟨g, 0, none⟩) (us.length + 1) c)), pl (ex (.slice (some ⟨g, 1, none⟩) us.length (c - 1))), pl ((fun _ _ => True)), pl1 4 ((fun v u _ => v = u)), pl1 5 ((fun v u _ => ∃ e, u = .tuple #[v, e])), pl (ex (.bool o.isSome)), pl ((fun _ _ => True)), pl ((fun _ _ => True)), pl (ex (.bool o.isSome))] [none, none, none, none, none, none, none, none, none, some ((fun _ _ => True))] (PwJ W1 o) (by kernel_rfl) (by kernel_rfl) ⟨st_pl (st_ex _), st_pl (st_ex _), st_pl (st_ex _), st_pl (st_ex _), st_pl ((fun _ _ _ _ _ => trivial)), (fun _ _ _ _ _ h => h), (fun _ _ _ _ _ h => h), st_pl (st_ex _), st_pl ((fun _ _ _ _ _ => trivial)), st_pl ((fun _ _ _ _ _ => trivial)), st_pl (st_ex _), trivial⟩ ⟨⟨(fun _ => trivial), ⟨.inr (fun _ _ _ _ _ h => h), .inr (fun _ _ _ _ _ h => h), .inr (fun _ _ _ _ _ h => h), .inr (fun _ _ _ _ _ h => h), .inr ((fun _ _ _ _ _ _ => trivial)), .inr ((fun _ _ _ _ _ h => h)), .inr ((fun _ _ _ _ _ h => h)), .inr (fun _ _ _ _ _ h => h), .inr ((fun _ _ _ _ _ _ => trivial)), .inl (by kernel_rfl), .inl (by kernel_rfl), trivial⟩⟩, trivial⟩ ⟨(fun h => by cases h), (fun h => by cases h), (fun h => by cases h), (fun h => by cases h), (fun h => by cases h), (fun h => by cases h), (fun h => by cases h), (fun h => by cases h), (fun h => by cases h), fun _ _ _ _ h => h, (fun h => by cases h), trivial⟩ (fun f => PwJ.start _ _ f) ?_ ?_
    ·refine ⟨?_, ?_, ?_, ?_, ?_, ?_, ?_, ?_, ?_, ?_, ?_, trivial⟩
     ·refine needx_plain rfl (fun a w' dn hr hg hin => ?_)
      have e5 : a.eval (.tmp 5) = .pointer (some ⟨q, 0, none⟩) := insw_ext hin 5 (by kernel_rfl)
      refine uponx_val ?_ hg rfl
      clear hin hg
      obtain ⟨ek, ef⟩ := evs a
      generalize a.eval = ev at *
      go_simp
      all_goals first | omega | (intro _; omega) | go_arith
     ·refine needx_plain rfl (fun a w' dn hr hg hin => ?_)
      have e29 : a.eval (.tmp 29) = _ := insw_on hin 0 (by kernel_rfl)
      have y0 := box_cell ((hg.1.block _ (heap_lt hq)).trans hq) 0 _ rfl
      refine uponx_val ?_ hg rfl
      clear hin hg hr
      obtain ⟨ek, ef⟩ := evs a
      generalize a.eval = ev at *
      go_simp
      all_goals first | omega | (intro _; omega) | go_arith
     ·refine needx_plain rfl (fun a w' dn hr hg hin => ?_)
      have e : a.eval (.tmp 4) = .slice (some ⟨g, 0, none⟩) (us.length + 1) c := insw_ext hin 4 (by kernel_rfl)
      exact uponx_move rfl hg e
     ·refine needx_plain rfl (fun a w' dn hr hg hin => ?_)
      have e31 : a.eval (.tmp 31) = _ := insw_on hin 2 (by kernel_rfl)
      have v1 : (1 : Int) ≤ (us.length : Int) + 1 := by omega
      refine uponx_val ?_ hg rfl
      clear hin hg hr
      obtain ⟨ek, ef⟩ := evs a
      generalize a.eval = ev at *
      go_simp
      all_goals first | omega | (intro _; omega) | go_arith
     ·refine needx_plain rfl (fun a w' dn hr hg hin => ?_)
      have e30 : a.eval (.tmp 30) = _ := insw_on hin 1 (by kernel_rfl)
      have e32 : a.eval (.tmp 32) = _ := insw_on hin 3 (by kernel_rfl)
      refine uponw_call (f := 15) (args := #[.int .i64 K, .slice (some ⟨g, 1, none⟩) us.length (c - 1)]) ?_ ((HPW.out w' (gq.trans hg.1)).mono ?_)
      ·clear hin hg hr
       obtain ⟨ek, ef⟩ := evs a
       generalize a.eval = ev at *
       go_simp
       all_goals first | omega | (intro _; omega) | go_arith
      ·rintro r w2 ⟨v, rfl, hq2, g2⟩
       exact ⟨_, rfl, g2, trivial, PwJ.call hg g2 (hr.not1 9 (by kernel_rfl)) hq2, trivial⟩
     ·refine needx_plain rfl (fun a w' dn hr hg hin => ?_)
      have e33 : ((fun _ _ => True)) (a.eval (.tmp 33)) w' := insw_on hin 4 (by kernel_rfl)
      exact uponx_move rfl hg rfl
     ·refine needx_plain rfl (fun a w' dn hr hg hin => ?_)
      have e28 : ((fun v u _ => v = u)) (a.eval (.tmp 28)) (a.eval (.tmp 33)) w' := insw_on hin 5 (by kernel_rfl)
      obtain ⟨x0, x1, x2, ax, lx, cx, hf2, -, -⟩ := hg.2.1 (hr.cl 5 4 (by kernel_rfl) (hr.rd 5 (by kernel_rfl)))
      have h15 : a.eval (.tmp 33) = .tuple #[.agg #[.int .i64 x0, .int .i64 x1, .int .i64 x2, .slice ax lx cx], .bool o.isSome] := hf2
      have h12 : a.eval (.tmp 28) = .tuple #[.agg #[.int .i64 x0, .int .i64 x1, .int .i64 x2, .slice ax lx cx], .bool o.isSome] := e28.trans h15
      refine uponx_val (v := .agg #[.int .i64 x0, .int .i64 x1, .int .i64 x2, .slice ax lx cx]) ?_ hg ⟨_, h12⟩
      clear hin hg hr e28 hf2 h15
      obtain ⟨ek, ef⟩ := evs a
      generalize a.eval = ev at *
      go_simp
      all_goals first | omega | (intro _; omega) | go_arith
     ·refine needx_plain rfl (fun a w' dn hr hg hin => ?_)
      have e28 : ((fun v u _ => v = u)) (a.eval (.tmp 28)) (a.eval (.tmp 33)) w' := insw_on hin 5 (by kernel_rfl)
      obtain ⟨x0, x1, x2, ax, lx, cx, hf2, -, -⟩ := hg.2.1 (hr.cl 5 4 (by kernel_rfl) (hr.rd 5 (by kernel_rfl)))
      have h15 : a.eval (.tmp 33) = .tuple #[.agg #[.int .i64 x0, .int .i64 x1, .int .i64 x2, .slice ax lx cx], .bool o.isSome] := hf2
      have h12 : a.eval (.tmp 28) = .tuple #[.agg #[.int .i64 x0, .int .i64 x1, .int .i64 x2, .slice ax lx cx], .bool o.isSome] := e28.trans h15
      refine uponx_val ?_ hg rfl
      clear hin hg hr e28 hf2 h15
      obtain ⟨ek, ef⟩ := evs a
      generalize a.eval = ev at *
      go_simp
      all_goals first | omega | (intro _; omega) | go_arith
     ·refine needx_plain rfl (fun a w' dn hr hg hin => ?_)
      refine uponx_step (v := .pointer (some ⟨w'.heap.size, 0, none⟩)) (w' := w'.alloc nilDd) ?_ (grow_alloc _ _) (PwJ.alloc hg (hr.not1 9 (by kernel_rfl))) trivial
      clear hin hg hr
      unfold nilDd
      obtain ⟨ek, ef⟩ := evs a
      generalize a.eval = ev at *
      go_simp
      all_goals first | omega | (intro _; omega) | go_arith
     ·refine needx_plain rfl (fun a w' dn hr hg hin => ?_)
      have e7 : ((fun _ _ => True)) (a.eval (.tmp 7)) w' := insw_on hin 8 (by kernel_rfl)
      have e34 : ((fun v u _ => ∃ e, u = .tuple #[v, e])) (a.eval (.tmp 34)) (a.eval (.tmp 28)) w' := insw_on hin 6 (by kernel_rfl)
      obtain ⟨p, x0, x1, x2, ax, lx, cx, hf, hf4, hz, hJ'⟩ := PwJ.store hg (hr.cl 5 4 (by kernel_rfl) (hr.cl 6 5 (by kernel_rfl) (hr.rd 6 (by kernel_rfl)))) (hr.rd 8 (by kernel_rfl)) hr.un
      have h7 : a.eval (.tmp 7) = .pointer (some ⟨p, 0, none⟩) := hf
      have h15 : a.eval (.tmp 33) = .tuple #[.agg #[.int .i64 x0, .int .i64 x1, .int .i64 x2, .slice ax lx cx], .bool o.isSome] := hf4
      have k28 : a.eval (.tmp 28) = a.eval (.tmp 33) := insw_on hin 5 (by kernel_rfl)
      obtain ⟨ee, h34⟩ := e34
      rw [k28, h15] at h34
      injection h34 with h34
      injection h34 with h34
      injection h34 with h34 _
      refine uponx_skip (w' := _) ?_ trivial hJ' trivial
      obtain ⟨y0, y1, y2, y3⟩ := box4 hz rfl rfl rfl rfl
      obtain ⟨f0, f1, f2, f3⟩ := boxf4 hz
      have cs := cell_set
      replace h34 := h34.symm
      clear hin hg hr hz hJ' hf hf4 e7 k28 h15
      obtain ⟨ek, ef⟩ := evs a
      generalize a.eval = ev at *
      go_simp
      all_goals first | omega | (intro _; omega) | go_arith
     ·refine needx_plain rfl (fun a w' dn hr hg hin => ?_)
      have e : a.eval (.tmp 35) = _ := insw_on hin 7 (by kernel_rfl)
      exact uponx_assign rfl hg e
    ·intro vs w' dn hdn hg ht
     obtain ⟨q29, q30, q31, q32, q33, q28, q34, q35, q7, qo9, q6, -⟩ := ht
     have r29 : vs 0 = .pointer (some ⟨q, 0, none⟩) := q29
     have r30 : vs 1 = .int .i64 K := q30
     have r31 : vs 2 = .slice (some ⟨g, 0, none⟩) (us.length + 1) c := q31
     have r32 : vs 3 = .slice (some ⟨g, 1, none⟩) us.length (c - 1) := q32
     replace q33 : ((fun _ _ => True)) (vs 4) w' := q33
     replace q28 : ((fun v u _ => v = u)) (vs 5) (vs 4) w' := q28
     replace q34 : ((fun v u _ => ∃ e, u = .tuple #[v, e])) (vs 6) (vs 5) w' := q34
     have r35 : vs 7 = .bool o.isSome := q35
     replace q7 : ((fun _ _ => True)) (vs 8) w' := q7
     replace qo9 : ((fun _ _ => True)) (vs 9) w' := qo9
     have r6 : vs 10 = .bool o.isSome := q6
     clear q29 q30 q31 q32 q35 q6
     simp only [putAll, Act.put, List.setIfInBounds_toArray, List.set_cons_zero, List.set_cons_succ, Nat.reduceAdd, r29, r30, r31, r32, r35, r6]
     clear r29 r30 r31 r32 r35 r6
     obtain ⟨x0, x1, x2, ax, lx, cx, -, hrd, hp0⟩ := hg.2.1 (hdn 4 (by decide))
     obtain ⟨p, hfp, hpW, hpB⟩ := hp0 (hdn 9 (by decide))
     have gp := hg.1
     rw [hfp]
     clear hg hdn hfp hp0 q33 q28 q34 q7 qo9
     generalize vs 4 = m1
     generalize vs 5 = m2
     generalize vs 6 = m3
     replace hZq := (gp.block _ (heap_lt hZq)).trans hZq
     replace gw := gw.trans gp
     clear gp hq gq
     cases o with
     | none =>
      obtain rfl : PD = (noDd, 2) := HPR2.out
      clear hrd hpB HPR2 HPW HOD
      simp only [Option.isSome_none]
      obtain ⟨hp1, hp2⟩ := box_put hZq (.int .i64 0) (.int .i64 0) (.int .i64 0) (.slice none 0 0)
      have gE := hp2.grow gw (Nat.le_refl _)
      obtain ⟨z0, z1, z2, z3⟩ := box4 hZq rfl rfl rfl rfl
      obtain ⟨f0, f1, f2, f3⟩ := boxf4 hZq
      have cs := cell_set
      obtain ⟨x0, x1, x2, x3⟩ := box4 hp1 rfl rfl rfl rfl
      clear hp1 hp2 hZq gw
      go_wp2_with fail
      exact bodyPost_ret (v := .tuple #[.agg #[.int .i64 0, .int .i64 0, .int .i64 0, .slice none 0 0], .int .i64 2]) (by simp [results, Tryd.results6, go_sem, x0, x1, x2, x3]) rfl ⟨_, rfl, ⟨none, 0, rfl, tbytes_none _⟩, gE⟩
     | some d =>
      obtain ⟨rfl, rfl, rfl, rfl, hbd⟩ := hrd
      have hpd : PD = if wrongD d = 0 then (d, 0) else (noDd, wrongD d) := HPR2.out
      obtain ⟨y0, y1, y2, y3⟩ := box4 hpB rfl rfl rfl rfl
      have HPP : Hid _ := hpd
      have HDL : Hid (d.data.length ≤ 140737488355328) := by show _ ≤ _; have := HOD.out d rfl; omega
      clear HPR2 HPW HOD hpd
      simp only [Option.isSome_some]
      go_wp2_with fail
      refine (mwrongC d ax cx _ HDL.out hbd).mono ?_
      by_cases hwr : wrongD d = 0
      ·obtain rfl : PD = (d, 0) := by rw [HPP.out, if_pos hwr]
       rw [hwr]
       rintro r w5 ⟨rfl, g5⟩
       have hB5 := bytes_grow hbd g5
       replace hpB := (g5.block _ (heap_lt hpB)).trans hpB
       replace hZq := (g5.block _ (heap_lt hZq)).trans hZq
       replace gw := gw.trans g5
       clear y0 y1 y2 y3 HPP hwr g5 hbd
       obtain ⟨y0, y1, y2, y3⟩ := box4 hpB rfl rfl rfl rfl
       obtain ⟨hp1, hp2⟩ := box_put hZq (.int .i64 d.kind) (.int .i64 d.key) (.int .i64 d.num) (.slice ax d.data.length cx)
       have gE := hp2.grow gw (Nat.le_refl _)
       have hBE := tbytes_deed hB5 hZq hp2
       obtain ⟨z0, z1, z2, z3⟩ := box4 hZq rfl rfl rfl rfl
       obtain ⟨f0, f1, f2, f3⟩ := boxf4 hZq
       have cs := cell_set
       obtain ⟨x0, x1, x2, x3⟩ := box4 hp1 rfl rfl rfl rfl
       clear hp1 hp2 hZq gw hpB hB5
       go_wp2_with fail
       exact bodyPost_ret (v := .tuple #[.agg #[.int .i64 d.kind, .int .i64 d.key, .int .i64 d.num, .slice ax d.data.length cx], .int .i64 0]) (by simp [results, Tryd.results6, go_sem, x0, x1, x2, x3]) rfl ⟨_, rfl, ⟨ax, cx, rfl, hBE⟩, gE⟩
      ·obtain rfl : PD = (noDd, wrongD d) := by rw [HPP.out, if_neg hwr]
       rintro r w5 ⟨rfl, g5⟩
       obtain ⟨EE, hEE⟩ : ∃ EE, EE = wrongD d := ⟨_, rfl⟩
       have HEE : Hid _ := hEE
       rw [← hEE] at hwr ⊢
       have dE : (EE == 0) = false := by simp [hwr]
       replace hZq := (g5.block _ (heap_lt hZq)).trans hZq
       replace gw := gw.trans g5
       clear y0 y1 y2 y3 HPP hwr g5 hbd hpB hEE
       obtain ⟨hp1, hp2⟩ := box_put hZq (.int .i64 0) (.int .i64 0) (.int .i64 0) (.slice none 0 0)
       have gE := hp2.grow gw (Nat.le_refl _)
       obtain ⟨z0, z1, z2, z3⟩ := box4 hZq rfl rfl rfl rfl
       obtain ⟨f0, f1, f2, f3⟩ := boxf4 hZq
       have cs := cell_set
       obtain ⟨x0, x1, x2, x3⟩ := box4 hp1 rfl rfl rfl rfl
       clear hp1 hp2 hZq gw
       go_wp2_with fail
       exact bodyPost_ret (v := .tuple #[.agg #[.int .i64 0, .int .i64 0, .int .i64 0, .slice none 0 0], .int .i64 EE]) (by simp [results, Tryd.results6, go_sem, x0, x1, x2, x3]) rfl ⟨_, rfl, ⟨none, 0, by rw [HEE.out]; rfl, tbytes_none _⟩, gE⟩
   ·obtain rfl : PD = (noDd, 2) := by
     rw [hpr, if_neg]
     rcases HRE.out with h | ⟨h1, h2⟩
     ·rw [← h]; exact hlen
     ·omega
    have dL : (((us.length : Int) + 1) == N) = false := by simp [hlen]
    clear hk HKN HPR HRE HWL HCELL hq gq hc0 hSV hsm hpr hlen
    obtain ⟨hp1, hp2⟩ := box_put hZq (.int .i64 0) (.int .i64 0) (.int .i64 0) (.slice none 0 0)
    have gE := hp2.grow gw (Nat.le_refl _)
    obtain ⟨z0, z1, z2, z3⟩ := box4 hZq rfl rfl rfl rfl
    obtain ⟨f0, f1, f2, f3⟩ := boxf4 hZq
    have cs := cell_set
    obtain ⟨x0, x1, x2, x3⟩ := box4 hp1 rfl rfl rfl rfl
    clear hp1 hp2 hZq gw
    go_wp2_with fail
    exact bodyPost_ret (v := .tuple #[.agg #[.int .i64 0, .int .i64 0, .int .i64 0, .slice none 0 0], .int .i64 2]) (by simp [results, Tryd.results6, go_sem, x0, x1, x2, x3]) rfl ⟨_, rfl, ⟨none, 0, rfl, tbytes_none _⟩, gE⟩
theorem tparseC (V : World → Prop) (hV : ∀ w w', V w → Grow w w' → V w') (IT : ItoaC V) (AT : AtoiC V) (IX : IndexC) (SP : SplitC V) : TParseC V := fun s w hw hs => tparse_any V hV IT AT IX SP s w hw hs
end Go.Proofs.YtgaecpdokgklpabDoor
