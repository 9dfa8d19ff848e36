/-
  What the document's SameEntries tells of entries, and its Scan of a disk.
  Condition: they lie in memory, at most a million entries; of the disk at most 256 blocks.
-/
import Derived.Test.YtgaecpdokgklpabREnt
import Derived.Test.YtgaecpdokgklpabRMend
namespace Go.Proofs.Ytgaecpdokgklpab
set_option maxRecDepth 100000
open Go.RowKit
open Go.Proofs.Ytgaecpdokgklpab.Plain Go.Proofs.Ytgaecpdokgklpab.Reg

def sameE : List Ent → List Ent → Bool
 | [], [] => true
 | x :: a, y :: b => (decide (x.pair = y.pair) && sameB x.rc y.rc) && sameE a b
 | _, _ => false
theorem sameE_iff : ∀ (a b : List Ent), sameE a b = true ↔ a = b
 | [], [] => by simp [sameE]
 | [], _ :: _ => by simp [sameE]
 | _ :: _, [] => by simp [sameE]
 | ⟨r, p⟩ :: a, ⟨q, o⟩ :: b => by
  have ih := sameE_iff a b
  simp only [sameE, Bool.and_eq_true, decide_eq_true_eq, sameB_iff, ih, List.cons.injEq, Ent.mk.injEq]
  constructor
  ·rintro ⟨⟨h1, h2⟩, h3⟩; exact ⟨⟨h2, h1⟩, h3⟩
  ·rintro ⟨⟨h1, h2⟩, h3⟩; exact ⟨⟨h2, h1⟩, h3⟩
theorem sameE_refl (a : List Ent) : sameE a a = true := (sameE_iff a a).2 rfl
theorem sameE_no {a b : List Ent} (h : a ≠ b) : sameE a b = false := by
 cases hs : sameE a b with
 | false => rfl
 | true => exact absurd ((sameE_iff a b).1 hs) h
theorem take_next {α : Type} {a b : List α} {k : Nat} (h : a.take k = b.take k) (h1 : k < a.length) (h2 : k < b.length) (he : a[k] = b[k]) : a.take (k + 1) = b.take (k + 1) := by
 rw [List.take_succ_eq_append_getElem h1, List.take_succ_eq_append_getElem h2, h, he]


set_option maxHeartbeats 4000000 in
theorem rsameE_any (s t : List Ent) (v u : Value) (S S' : Nat → Prop) (w : World) (hs : EntsS S w v s) (ht : EntsS S' w u t) (hm : s.length ≤ 140737488355328) :
  Calls Try.prog 16 #[v, u] w fun e w' => e = .returned (.bool (sameE s t)) ∧ Grow w w' := by
 obtain ⟨ao, ca, rfl⟩ := hs.form
 obtain ⟨bo, cb, rfl⟩ := ht.form
 by_cases hl : s.length = t.length
 ·obtain ⟨R, hR⟩ : ∃ R, R = sameE s t := ⟨_, rfl⟩
  rw [← hR]
  have HR : Hid _ := hR
  have HL : Hid (s.length = t.length) := hl
  have d0 : ((s.length : Int) != (t.length : Int)) = false := by simp [hl]
  have hm2 : t.length ≤ 140737488355328 := by omega
  clear hR hl
  go_enter Try.func16, Try.ntmps16
  go_wp2_with fail
  clear d0
  go_loopw [13] (fun i wr => ∃ k : Nat, k ≤ s.length ∧ i = .int .i64 k ∧ s.take k = t.take k ∧ Grow w wr) (fun i _ => s.length - (intOf i).toNat)
  case atStart => exact ⟨0, Nat.zero_le _, rfl, rfl, Grow.refl _⟩
  case round =>
   obtain ⟨k, hk, rfl, htk, hgr⟩ := hrel
   have HK : Hid (s.take k = t.take k) := htk
   clear htk
   by_cases hlt : k < s.length
   ·have hlt2 : k < t.length := by rw [← HL.out]; exact hlt
    have hsr := hs.grow hgr
    have htr := ht.grow hgr
    obtain ⟨b1, o1, a1, c1, e1, p0, p1, p2, p3, p4, hu⟩ := ents_at hsr k hlt
    obtain ⟨b2, o2, a2, c2, e2, q0, q1, q2, q3, q4, hz⟩ := ents_at htr k hlt2
    cases e1
    cases e2
    have HX : Hid (s[k] = t[k] → s.take (k + 1) = t.take (k + 1)) := fun h => take_next HK.out hlt hlt2 h
    have HY : Hid (s[k] ≠ t[k] → R = false) := fun h => by
     rw [HR.out]; exact sameE_no fun h2 => h (by simp [h2])
    generalize s[k] = x at *
    generalize t[k] = z at *
    clear hsr htr
    by_cases hp : x.pair = z.pair
    ·cases hsb : sameB x.rc z.rc with
     | true =>
      have HB : Hid (sameB x.rc z.rc = true) := hsb
      have HZ : Hid (s.take (k + 1) = t.take (k + 1)) := HX.out (by
       obtain ⟨xr, xp⟩ := x
       obtain ⟨zr, zp⟩ := z
       have h1 := (sameB_iff xr zr).1 hsb
       simp only at hp
       rw [h1, hp])
      clear hsb HX HY
      go_wp2_with fail
      refine wp_region_told [ex (.slice (some ⟨b1, o1, none⟩) s.length ca), ex (.int .i64 k), ex (.pointer (some ⟨b1, o1 + k * 5, none⟩)), ex (.pointer (some ⟨b1, o1 + k * 5 + 4, none⟩)), ex (.int .i64 x.pair), ex (.slice (some ⟨b2, o2, none⟩) t.length cb), ex (.int .i64 k), ex (.pointer (some ⟨b2, o2 + k * 5, none⟩)), ex (.pointer (some ⟨b2, o2 + k * 5 + 4, none⟩)), ex (.int .i64 z.pair), ex (.bool false), ex (.bool false), ex (.slice (some ⟨b1, o1, none⟩) s.length ca), ex (.int .i64 k), ex (.pointer (some ⟨b1, o1 + k * 5, none⟩)), ex (.pointer (some ⟨b1, o1 + k * 5, none⟩)), ex (.agg #[.int .i64 x.rc.kind, .int .i64 x.rc.key, .int .i64 x.rc.ver, .slice a1 x.rc.data.length c1]), ex (.slice (some ⟨b2, o2, none⟩) t.length cb), ex (.int .i64 k), ex (.pointer (some ⟨b2, o2 + k * 5, none⟩)), ex (.pointer (some ⟨b2, o2 + k * 5, none⟩)), ex (.agg #[.int .i64 z.rc.kind, .int .i64 z.rc.key, .int .i64 z.rc.ver, .slice a2 z.rc.data.length c2]), ex (.bool true), ex (.bool false), ex (.bool false)] (by kernel_rfl) (by kernel_rfl) ⟨st_ex _, st_ex _, st_ex _, st_ex _, st_ex _, st_ex _, st_ex _, st_ex _, st_ex _, st_ex _, st_ex _, st_ex _, st_ex _, st_ex _, st_ex _, st_ex _, st_ex _, st_ex _, st_ex _, st_ex _, st_ex _, st_ex _, st_ex _, st_ex _, st_ex _, trivial⟩ ?_ ?_
      ·refine ⟨?_, ?_, ?_, ?_, ?_, ?_, ?_, ?_, ?_, ?_, ?_, ?_, ?_, ?_, ?_, ?_, ?_, ?_, ?_, ?_, ?_, ?_, ?_, ?_, ?_, trivial⟩
       ·refine need_plain rfl (fun a w' hg hin => ?_)
        have e : a.eval (.tmp 0) = .slice (some ⟨b1, o1, none⟩) s.length ca := ins_ext hin 0 (by kernel_rfl)
        exact upon_move rfl e
       ·refine need_plain rfl (fun a w' hg hin => ?_)
        have e : a.eval (.tmp 5) = .int .i64 k := ins_ext hin 5 (by kernel_rfl)
        exact upon_move rfl e
       ·refine need_plain rfl (fun a w' hg hin => ?_)
        have e16 : a.eval (.tmp 16) = _ := ins_on hin 0 (by kernel_rfl)
        have e17 : a.eval (.tmp 17) = _ := ins_on hin 1 (by kernel_rfl)
        refine upon_val ?_ rfl
        clear hin hg
        obtain ⟨ek, ef⟩ := evs a
        generalize a.eval = ev at *
        go_simp
        all_goals first | omega | (intro _; omega) | go_arith
       ·refine need_plain rfl (fun a w' hg hin => ?_)
        have e18 : a.eval (.tmp 18) = _ := ins_on hin 2 (by kernel_rfl)
        refine upon_val ?_ rfl
        clear hin hg
        obtain ⟨ek, ef⟩ := evs a
        generalize a.eval = ev at *
        go_simp
        all_goals first | omega | (intro _; omega) | go_arith
       ·refine need_plain rfl (fun a w' hg hin => ?_)
        have e19 : a.eval (.tmp 19) = _ := ins_on hin 3 (by kernel_rfl)
        have h1 := (Below.cell hg (cell_lt p4)).trans p4
        refine upon_val ?_ rfl
        clear hin hg
        obtain ⟨ek, ef⟩ := evs a
        generalize a.eval = ev at *
        go_simp
        all_goals first | omega | (intro _; omega) | go_arith
       ·refine need_plain rfl (fun a w' hg hin => ?_)
        have e : a.eval (.tmp 1) = .slice (some ⟨b2, o2, none⟩) t.length cb := ins_ext hin 1 (by kernel_rfl)
        exact upon_move rfl e
       ·refine need_plain rfl (fun a w' hg hin => ?_)
        have e : a.eval (.tmp 5) = .int .i64 k := ins_ext hin 5 (by kernel_rfl)
        exact upon_move rfl e
       ·refine need_plain rfl (fun a w' hg hin => ?_)
        have e21 : a.eval (.tmp 21) = _ := ins_on hin 5 (by kernel_rfl)
        have e22 : a.eval (.tmp 22) = _ := ins_on hin 6 (by kernel_rfl)
        refine upon_val ?_ rfl
        clear hin hg
        obtain ⟨ek, ef⟩ := evs a
        generalize a.eval = ev at *
        go_simp
        all_goals first | omega | (intro _; omega) | go_arith
       ·refine need_plain rfl (fun a w' hg hin => ?_)
        have e23 : a.eval (.tmp 23) = _ := ins_on hin 7 (by kernel_rfl)
        refine upon_val ?_ rfl
        clear hin hg
        obtain ⟨ek, ef⟩ := evs a
        generalize a.eval = ev at *
        go_simp
        all_goals first | omega | (intro _; omega) | go_arith
       ·refine need_plain rfl (fun a w' hg hin => ?_)
        have e24 : a.eval (.tmp 24) = _ := ins_on hin 8 (by kernel_rfl)
        have h1 := (Below.cell hg (cell_lt q4)).trans q4
        refine upon_val ?_ rfl
        clear hin hg
        obtain ⟨ek, ef⟩ := evs a
        generalize a.eval = ev at *
        go_simp
        all_goals first | omega | (intro _; omega) | go_arith
       ·refine need_plain rfl (fun a w' hg hin => ?_)
        have e20 : a.eval (.tmp 20) = _ := ins_on hin 4 (by kernel_rfl)
        have e25 : a.eval (.tmp 25) = _ := ins_on hin 9 (by kernel_rfl)
        refine upon_val ?_ rfl
        clear hin hg
        obtain ⟨ek, ef⟩ := evs a
        generalize a.eval = ev at *
        go_simp
        all_goals first | omega | (intro _; omega) | go_arith
       ·refine need_plain rfl (fun a w' hg hin => ?_)
        have e : a.eval (.tmp 26) = _ := ins_on hin 10 (by kernel_rfl)
        exact upon_move rfl e
       ·refine need_yes 11 false rfl (fun a w' hin => ins_on hin 11 (by kernel_rfl)) (fun a w' hg hin => ?_)
        have e : a.eval (.tmp 0) = .slice (some ⟨b1, o1, none⟩) s.length ca := ins_ext hin 0 (by kernel_rfl)
        exact upon_move rfl e
       ·refine need_yes 11 false rfl (fun a w' hin => ins_on hin 11 (by kernel_rfl)) (fun a w' hg hin => ?_)
        have e : a.eval (.tmp 5) = .int .i64 k := ins_ext hin 5 (by kernel_rfl)
        exact upon_move rfl e
       ·refine need_yes 11 false rfl (fun a w' hin => ins_on hin 11 (by kernel_rfl)) (fun a w' hg hin => ?_)
        have e28 : a.eval (.tmp 28) = _ := ins_on hin 12 (by kernel_rfl)
        have e29 : a.eval (.tmp 29) = _ := ins_on hin 13 (by kernel_rfl)
        refine upon_val ?_ rfl
        clear hin hg
        obtain ⟨ek, ef⟩ := evs a
        generalize a.eval = ev at *
        go_simp
        all_goals first | omega | (intro _; omega) | go_arith
       ·refine need_yes 11 false rfl (fun a w' hin => ins_on hin 11 (by kernel_rfl)) (fun a w' hg hin => ?_)
        have e30 : a.eval (.tmp 30) = _ := ins_on hin 14 (by kernel_rfl)
        refine upon_val ?_ rfl
        clear hin hg
        obtain ⟨ek, ef⟩ := evs a
        generalize a.eval = ev at *
        go_simp
        all_goals first | omega | (intro _; omega) | go_arith
       ·refine need_yes 11 false rfl (fun a w' hin => ins_on hin 11 (by kernel_rfl)) (fun a w' hg hin => ?_)
        have e31 : a.eval (.tmp 31) = _ := ins_on hin 15 (by kernel_rfl)
        have h1 := (Below.cell hg (cell_lt p0)).trans p0
        have h2 := (Below.cell hg (cell_lt p1)).trans p1
        have h3 := (Below.cell hg (cell_lt p2)).trans p2
        have h4 := (Below.cell hg (cell_lt p3)).trans p3
        refine upon_val ?_ rfl
        clear hin hg
        obtain ⟨ek, ef⟩ := evs a
        generalize a.eval = ev at *
        go_simp
        all_goals first | omega | (intro _; omega) | go_arith
       ·refine need_yes 11 false rfl (fun a w' hin => ins_on hin 11 (by kernel_rfl)) (fun a w' hg hin => ?_)
        have e : a.eval (.tmp 1) = .slice (some ⟨b2, o2, none⟩) t.length cb := ins_ext hin 1 (by kernel_rfl)
        exact upon_move rfl e
       ·refine need_yes 11 false rfl (fun a w' hin => ins_on hin 11 (by kernel_rfl)) (fun a w' hg hin => ?_)
        have e : a.eval (.tmp 5) = .int .i64 k := ins_ext hin 5 (by kernel_rfl)
        exact upon_move rfl e
       ·refine need_yes 11 false rfl (fun a w' hin => ins_on hin 11 (by kernel_rfl)) (fun a w' hg hin => ?_)
        have e33 : a.eval (.tmp 33) = _ := ins_on hin 17 (by kernel_rfl)
        have e34 : a.eval (.tmp 34) = _ := ins_on hin 18 (by kernel_rfl)
        refine upon_val ?_ rfl
        clear hin hg
        obtain ⟨ek, ef⟩ := evs a
        generalize a.eval = ev at *
        go_simp
        all_goals first | omega | (intro _; omega) | go_arith
       ·refine need_yes 11 false rfl (fun a w' hin => ins_on hin 11 (by kernel_rfl)) (fun a w' hg hin => ?_)
        have e35 : a.eval (.tmp 35) = _ := ins_on hin 19 (by kernel_rfl)
        refine upon_val ?_ rfl
        clear hin hg
        obtain ⟨ek, ef⟩ := evs a
        generalize a.eval = ev at *
        go_simp
        all_goals first | omega | (intro _; omega) | go_arith
       ·refine need_yes 11 false rfl (fun a w' hin => ins_on hin 11 (by kernel_rfl)) (fun a w' hg hin => ?_)
        have e36 : a.eval (.tmp 36) = _ := ins_on hin 20 (by kernel_rfl)
        have h1 := (Below.cell hg (cell_lt q0)).trans q0
        have h2 := (Below.cell hg (cell_lt q1)).trans q1
        have h3 := (Below.cell hg (cell_lt q2)).trans q2
        have h4 := (Below.cell hg (cell_lt q3)).trans q3
        refine upon_val ?_ rfl
        clear hin hg
        obtain ⟨ek, ef⟩ := evs a
        generalize a.eval = ev at *
        go_simp
        all_goals first | omega | (intro _; omega) | go_arith
       ·refine need_yes 11 false rfl (fun a w' hin => ins_on hin 11 (by kernel_rfl)) (fun a w' hg hin => ?_)
        have e32 : a.eval (.tmp 32) = _ := ins_on hin 16 (by kernel_rfl)
        have e37 : a.eval (.tmp 37) = _ := ins_on hin 21 (by kernel_rfl)
        refine upon_call (f := 13) (args := #[.agg #[.int .i64 x.rc.kind, .int .i64 x.rc.key, .int .i64 x.rc.ver, .slice a1 x.rc.data.length c1], .agg #[.int .i64 z.rc.kind, .int .i64 z.rc.key, .int .i64 z.rc.ver, .slice a2 z.rc.data.length c2]]) ?_ ((rsame_any _ _ _ _ _ _ x.rc.data z.rc.data _ _ w' (bytes_grow hu.p hg) (bytes_grow hz.p hg)).mono ?_)
        ·clear hin hg
         obtain ⟨ek, ef⟩ := evs a
         generalize a.eval = ev at *
         go_simp
         all_goals first | omega | (intro _; omega) | go_arith
        ·rintro e w2 ⟨rfl, g2⟩
         exact ⟨_, rfl, g2, by rw [← HB.out]; rfl⟩
       ·refine need_yes 11 false rfl (fun a w' hin => ins_on hin 11 (by kernel_rfl)) (fun a w' hg hin => ?_)
        have e38 : a.eval (.tmp 38) = _ := ins_on hin 22 (by kernel_rfl)
        refine upon_val ?_ rfl
        clear hin hg
        obtain ⟨ek, ef⟩ := evs a
        generalize a.eval = ev at *
        go_simp
        all_goals first | omega | (intro _; omega) | go_arith
       ·refine need_plain rfl (fun a w' hg hin => ?_)
        have ec : a.eval (.tmp 27) = _ := ins_on hin 11 (by kernel_rfl)
        have e : a.eval (.tmp 39) = _ := ins_on hin 23 (by kernel_rfl)
        exact upon_pick rfl ec e
      ·intro vs w' hg ht
       obtain ⟨q16, q17, q18, q19, q20, q21, q22, q23, q24, q25, q26, q27, q28, q29, q30, q31, q32, q33, q34, q35, q36, q37, q38, q39, q40, -⟩ := ht
       have r16 : vs 0 = .slice (some ⟨b1, o1, none⟩) s.length ca := q16
       have r17 : vs 1 = .int .i64 k := q17
       have r18 : vs 2 = .pointer (some ⟨b1, o1 + k * 5, none⟩) := q18
       have r19 : vs 3 = .pointer (some ⟨b1, o1 + k * 5 + 4, none⟩) := q19
       have r20 : vs 4 = .int .i64 x.pair := q20
       have r21 : vs 5 = .slice (some ⟨b2, o2, none⟩) t.length cb := q21
       have r22 : vs 6 = .int .i64 k := q22
       have r23 : vs 7 = .pointer (some ⟨b2, o2 + k * 5, none⟩) := q23
       have r24 : vs 8 = .pointer (some ⟨b2, o2 + k * 5 + 4, none⟩) := q24
       have r25 : vs 9 = .int .i64 z.pair := q25
       have r26 : vs 10 = .bool false := q26
       have r27 : vs 11 = .bool false := q27
       have r28 : vs 12 = .slice (some ⟨b1, o1, none⟩) s.length ca := q28
       have r29 : vs 13 = .int .i64 k := q29
       have r30 : vs 14 = .pointer (some ⟨b1, o1 + k * 5, none⟩) := q30
       have r31 : vs 15 = .pointer (some ⟨b1, o1 + k * 5, none⟩) := q31
       have r32 : vs 16 = .agg #[.int .i64 x.rc.kind, .int .i64 x.rc.key, .int .i64 x.rc.ver, .slice a1 x.rc.data.length c1] := q32
       have r33 : vs 17 = .slice (some ⟨b2, o2, none⟩) t.length cb := q33
       have r34 : vs 18 = .int .i64 k := q34
       have r35 : vs 19 = .pointer (some ⟨b2, o2 + k * 5, none⟩) := q35
       have r36 : vs 20 = .pointer (some ⟨b2, o2 + k * 5, none⟩) := q36
       have r37 : vs 21 = .agg #[.int .i64 z.rc.kind, .int .i64 z.rc.key, .int .i64 z.rc.ver, .slice a2 z.rc.data.length c2] := q37
       have r38 : vs 22 = .bool true := q38
       have r39 : vs 23 = .bool false := q39
       have r40 : vs 24 = .bool false := q40
       clear q16 q17 q18 q19 q20 q21 q22 q23 q24 q25 q26 q27 q28 q29 q30 q31 q32 q33 q34 q35 q36 q37 q38 q39 q40
       simp only [putAll, Act.put, List.setIfInBounds_toArray, List.set_cons_zero, List.set_cons_succ, r16, r17, r18, r19, r20, r21, r22, r23, r24, r25, r26, r27, r28, r29, r30, r31, r32, r33, r34, r35, r36, r37, r38, r39, r40]
       clear r16 r17 r18 r19 r20 r21 r22 r23 r24 r25 r26 r27 r28 r29 r30 r31 r32 r33 r34 r35 r36 r37 r38 r39 r40
       have gr2 := hgr.trans hg
       clear hg p0 p1 p2 p3 p4 q0 q1 q2 q3 q4 hu hz
       go_wp2_with fail
       go_roundw
       case rel => exact ⟨k + 1, by omega, by go_num, HZ.out, gr2⟩
       case measure => simp [intOf]; omega
     | false =>
      have HB : Hid (sameB x.rc z.rc = false) := hsb
      have hRf : R = false := HY.out (by
       intro h
       rw [h] at hsb
       rw [(sameB_iff z.rc z.rc).2 rfl] at hsb
       cases hsb)
      subst hRf
      clear hsb HX HY
      go_wp2_with fail
      refine wp_region_told [ex (.slice (some ⟨b1, o1, none⟩) s.length ca), ex (.int .i64 k), ex (.pointer (some ⟨b1, o1 + k * 5, none⟩)), ex (.pointer (some ⟨b1, o1 + k * 5 + 4, none⟩)), ex (.int .i64 x.pair), ex (.slice (some ⟨b2, o2, none⟩) t.length cb), ex (.int .i64 k), ex (.pointer (some ⟨b2, o2 + k * 5, none⟩)), ex (.pointer (some ⟨b2, o2 + k * 5 + 4, none⟩)), ex (.int .i64 z.pair), ex (.bool false), ex (.bool false), ex (.slice (some ⟨b1, o1, none⟩) s.length ca), ex (.int .i64 k), ex (.pointer (some ⟨b1, o1 + k * 5, none⟩)), ex (.pointer (some ⟨b1, o1 + k * 5, none⟩)), ex (.agg #[.int .i64 x.rc.kind, .int .i64 x.rc.key, .int .i64 x.rc.ver, .slice a1 x.rc.data.length c1]), ex (.slice (some ⟨b2, o2, none⟩) t.length cb), ex (.int .i64 k), ex (.pointer (some ⟨b2, o2 + k * 5, none⟩)), ex (.pointer (some ⟨b2, o2 + k * 5, none⟩)), ex (.agg #[.int .i64 z.rc.kind, .int .i64 z.rc.key, .int .i64 z.rc.ver, .slice a2 z.rc.data.length c2]), ex (.bool false), ex (.bool true), ex (.bool true)] (by kernel_rfl) (by kernel_rfl) ⟨st_ex _, st_ex _, st_ex _, st_ex _, st_ex _, st_ex _, st_ex _, st_ex _, st_ex _, st_ex _, st_ex _, st_ex _, st_ex _, st_ex _, st_ex _, st_ex _, st_ex _, st_ex _, st_ex _, st_ex _, st_ex _, st_ex _, st_ex _, st_ex _, st_ex _, trivial⟩ ?_ ?_
      ·refine ⟨?_, ?_, ?_, ?_, ?_, ?_, ?_, ?_, ?_, ?_, ?_, ?_, ?_, ?_, ?_, ?_, ?_, ?_, ?_, ?_, ?_, ?_, ?_, ?_, ?_, trivial⟩
       ·refine need_plain rfl (fun a w' hg hin => ?_)
        have e : a.eval (.tmp 0) = .slice (some ⟨b1, o1, none⟩) s.length ca := ins_ext hin 0 (by kernel_rfl)
        exact upon_move rfl e
       ·refine need_plain rfl (fun a w' hg hin => ?_)
        have e : a.eval (.tmp 5) = .int .i64 k := ins_ext hin 5 (by kernel_rfl)
        exact upon_move rfl e
       ·refine need_plain rfl (fun a w' hg hin => ?_)
        have e16 : a.eval (.tmp 16) = _ := ins_on hin 0 (by kernel_rfl)
        have e17 : a.eval (.tmp 17) = _ := ins_on hin 1 (by kernel_rfl)
        refine upon_val ?_ rfl
        clear hin hg
        obtain ⟨ek, ef⟩ := evs a
        generalize a.eval = ev at *
        go_simp
        all_goals first | omega | (intro _; omega) | go_arith
       ·refine need_plain rfl (fun a w' hg hin => ?_)
        have e18 : a.eval (.tmp 18) = _ := ins_on hin 2 (by kernel_rfl)
        refine upon_val ?_ rfl
        clear hin hg
        obtain ⟨ek, ef⟩ := evs a
        generalize a.eval = ev at *
        go_simp
        all_goals first | omega | (intro _; omega) | go_arith
       ·refine need_plain rfl (fun a w' hg hin => ?_)
        have e19 : a.eval (.tmp 19) = _ := ins_on hin 3 (by kernel_rfl)
        have h1 := (Below.cell hg (cell_lt p4)).trans p4
        refine upon_val ?_ rfl
        clear hin hg
        obtain ⟨ek, ef⟩ := evs a
        generalize a.eval = ev at *
        go_simp
        all_goals first | omega | (intro _; omega) | go_arith
       ·refine need_plain rfl (fun a w' hg hin => ?_)
        have e : a.eval (.tmp 1) = .slice (some ⟨b2, o2, none⟩) t.length cb := ins_ext hin 1 (by kernel_rfl)
        exact upon_move rfl e
       ·refine need_plain rfl (fun a w' hg hin => ?_)
        have e : a.eval (.tmp 5) = .int .i64 k := ins_ext hin 5 (by kernel_rfl)
        exact upon_move rfl e
       ·refine need_plain rfl (fun a w' hg hin => ?_)
        have e21 : a.eval (.tmp 21) = _ := ins_on hin 5 (by kernel_rfl)
        have e22 : a.eval (.tmp 22) = _ := ins_on hin 6 (by kernel_rfl)
        refine upon_val ?_ rfl
        clear hin hg
        obtain ⟨ek, ef⟩ := evs a
        generalize a.eval = ev at *
        go_simp
        all_goals first | omega | (intro _; omega) | go_arith
       ·refine need_plain rfl (fun a w' hg hin => ?_)
        have e23 : a.eval (.tmp 23) = _ := ins_on hin 7 (by kernel_rfl)
        refine upon_val ?_ rfl
        clear hin hg
        obtain ⟨ek, ef⟩ := evs a
        generalize a.eval = ev at *
        go_simp
        all_goals first | omega | (intro _; omega) | go_arith
       ·refine need_plain rfl (fun a w' hg hin => ?_)
        have e24 : a.eval (.tmp 24) = _ := ins_on hin 8 (by kernel_rfl)
        have h1 := (Below.cell hg (cell_lt q4)).trans q4
        refine upon_val ?_ rfl
        clear hin hg
        obtain ⟨ek, ef⟩ := evs a
        generalize a.eval = ev at *
        go_simp
        all_goals first | omega | (intro _; omega) | go_arith
       ·refine need_plain rfl (fun a w' hg hin => ?_)
        have e20 : a.eval (.tmp 20) = _ := ins_on hin 4 (by kernel_rfl)
        have e25 : a.eval (.tmp 25) = _ := ins_on hin 9 (by kernel_rfl)
        refine upon_val ?_ rfl
        clear hin hg
        obtain ⟨ek, ef⟩ := evs a
        generalize a.eval = ev at *
        go_simp
        all_goals first | omega | (intro _; omega) | go_arith
       ·refine need_plain rfl (fun a w' hg hin => ?_)
        have e : a.eval (.tmp 26) = _ := ins_on hin 10 (by kernel_rfl)
        exact upon_move rfl e
       ·refine need_yes 11 false rfl (fun a w' hin => ins_on hin 11 (by kernel_rfl)) (fun a w' hg hin => ?_)
        have e : a.eval (.tmp 0) = .slice (some ⟨b1, o1, none⟩) s.length ca := ins_ext hin 0 (by kernel_rfl)
        exact upon_move rfl e
       ·refine need_yes 11 false rfl (fun a w' hin => ins_on hin 11 (by kernel_rfl)) (fun a w' hg hin => ?_)
        have e : a.eval (.tmp 5) = .int .i64 k := ins_ext hin 5 (by kernel_rfl)
        exact upon_move rfl e
       ·refine need_yes 11 false rfl (fun a w' hin => ins_on hin 11 (by kernel_rfl)) (fun a w' hg hin => ?_)
        have e28 : a.eval (.tmp 28) = _ := ins_on hin 12 (by kernel_rfl)
        have e29 : a.eval (.tmp 29) = _ := ins_on hin 13 (by kernel_rfl)
        refine upon_val ?_ rfl
        clear hin hg
        obtain ⟨ek, ef⟩ := evs a
        generalize a.eval = ev at *
        go_simp
        all_goals first | omega | (intro _; omega) | go_arith
       ·refine need_yes 11 false rfl (fun a w' hin => ins_on hin 11 (by kernel_rfl)) (fun a w' hg hin => ?_)
        have e30 : a.eval (.tmp 30) = _ := ins_on hin 14 (by kernel_rfl)
        refine upon_val ?_ rfl
        clear hin hg
        obtain ⟨ek, ef⟩ := evs a
        generalize a.eval = ev at *
        go_simp
        all_goals first | omega | (intro _; omega) | go_arith
       ·refine need_yes 11 false rfl (fun a w' hin => ins_on hin 11 (by kernel_rfl)) (fun a w' hg hin => ?_)
        have e31 : a.eval (.tmp 31) = _ := ins_on hin 15 (by kernel_rfl)
        have h1 := (Below.cell hg (cell_lt p0)).trans p0
        have h2 := (Below.cell hg (cell_lt p1)).trans p1
        have h3 := (Below.cell hg (cell_lt p2)).trans p2
        have h4 := (Below.cell hg (cell_lt p3)).trans p3
        refine upon_val ?_ rfl
        clear hin hg
        obtain ⟨ek, ef⟩ := evs a
        generalize a.eval = ev at *
        go_simp
        all_goals first | omega | (intro _; omega) | go_arith
       ·refine need_yes 11 false rfl (fun a w' hin => ins_on hin 11 (by kernel_rfl)) (fun a w' hg hin => ?_)
        have e : a.eval (.tmp 1) = .slice (some ⟨b2, o2, none⟩) t.length cb := ins_ext hin 1 (by kernel_rfl)
        exact upon_move rfl e
       ·refine need_yes 11 false rfl (fun a w' hin => ins_on hin 11 (by kernel_rfl)) (fun a w' hg hin => ?_)
        have e : a.eval (.tmp 5) = .int .i64 k := ins_ext hin 5 (by kernel_rfl)
        exact upon_move rfl e
       ·refine need_yes 11 false rfl (fun a w' hin => ins_on hin 11 (by kernel_rfl)) (fun a w' hg hin => ?_)
        have e33 : a.eval (.tmp 33) = _ := ins_on hin 17 (by kernel_rfl)
        have e34 : a.eval (.tmp 34) = _ := ins_on hin 18 (by kernel_rfl)
        refine upon_val ?_ rfl
        clear hin hg
        obtain ⟨ek, ef⟩ := evs a
        generalize a.eval = ev at *
        go_simp
        all_goals first | omega | (intro _; omega) | go_arith
       ·refine need_yes 11 false rfl (fun a w' hin => ins_on hin 11 (by kernel_rfl)) (fun a w' hg hin => ?_)
        have e35 : a.eval (.tmp 35) = _ := ins_on hin 19 (by kernel_rfl)
        refine upon_val ?_ rfl
        clear hin hg
        obtain ⟨ek, ef⟩ := evs a
        generalize a.eval = ev at *
        go_simp
        all_goals first | omega | (intro _; omega) | go_arith
       ·refine need_yes 11 false rfl (fun a w' hin => ins_on hin 11 (by kernel_rfl)) (fun a w' hg hin => ?_)
        have e36 : a.eval (.tmp 36) = _ := ins_on hin 20 (by kernel_rfl)
        have h1 := (Below.cell hg (cell_lt q0)).trans q0
        have h2 := (Below.cell hg (cell_lt q1)).trans q1
        have h3 := (Below.cell hg (cell_lt q2)).trans q2
        have h4 := (Below.cell hg (cell_lt q3)).trans q3
        refine upon_val ?_ rfl
        clear hin hg
        obtain ⟨ek, ef⟩ := evs a
        generalize a.eval = ev at *
        go_simp
        all_goals first | omega | (intro _; omega) | go_arith
       ·refine need_yes 11 false rfl (fun a w' hin => ins_on hin 11 (by kernel_rfl)) (fun a w' hg hin => ?_)
        have e32 : a.eval (.tmp 32) = _ := ins_on hin 16 (by kernel_rfl)
        have e37 : a.eval (.tmp 37) = _ := ins_on hin 21 (by kernel_rfl)
        refine upon_call (f := 13) (args := #[.agg #[.int .i64 x.rc.kind, .int .i64 x.rc.key, .int .i64 x.rc.ver, .slice a1 x.rc.data.length c1], .agg #[.int .i64 z.rc.kind, .int .i64 z.rc.key, .int .i64 z.rc.ver, .slice a2 z.rc.data.length c2]]) ?_ ((rsame_any _ _ _ _ _ _ x.rc.data z.rc.data _ _ w' (bytes_grow hu.p hg) (bytes_grow hz.p hg)).mono ?_)
        ·clear hin hg
         obtain ⟨ek, ef⟩ := evs a
         generalize a.eval = ev at *
         go_simp
         all_goals first | omega | (intro _; omega) | go_arith
        ·rintro e w2 ⟨rfl, g2⟩
         exact ⟨_, rfl, g2, by rw [← HB.out]; rfl⟩
       ·refine need_yes 11 false rfl (fun a w' hin => ins_on hin 11 (by kernel_rfl)) (fun a w' hg hin => ?_)
        have e38 : a.eval (.tmp 38) = _ := ins_on hin 22 (by kernel_rfl)
        refine upon_val ?_ rfl
        clear hin hg
        obtain ⟨ek, ef⟩ := evs a
        generalize a.eval = ev at *
        go_simp
        all_goals first | omega | (intro _; omega) | go_arith
       ·refine need_plain rfl (fun a w' hg hin => ?_)
        have ec : a.eval (.tmp 27) = _ := ins_on hin 11 (by kernel_rfl)
        have e : a.eval (.tmp 39) = _ := ins_on hin 23 (by kernel_rfl)
        exact upon_pick rfl ec e
      ·intro vs w' hg ht
       obtain ⟨q16, q17, q18, q19, q20, q21, q22, q23, q24, q25, q26, q27, q28, q29, q30, q31, q32, q33, q34, q35, q36, q37, q38, q39, q40, -⟩ := ht
       have r16 : vs 0 = .slice (some ⟨b1, o1, none⟩) s.length ca := q16
       have r17 : vs 1 = .int .i64 k := q17
       have r18 : vs 2 = .pointer (some ⟨b1, o1 + k * 5, none⟩) := q18
       have r19 : vs 3 = .pointer (some ⟨b1, o1 + k * 5 + 4, none⟩) := q19
       have r20 : vs 4 = .int .i64 x.pair := q20
       have r21 : vs 5 = .slice (some ⟨b2, o2, none⟩) t.length cb := q21
       have r22 : vs 6 = .int .i64 k := q22
       have r23 : vs 7 = .pointer (some ⟨b2, o2 + k * 5, none⟩) := q23
       have r24 : vs 8 = .pointer (some ⟨b2, o2 + k * 5 + 4, none⟩) := q24
       have r25 : vs 9 = .int .i64 z.pair := q25
       have r26 : vs 10 = .bool false := q26
       have r27 : vs 11 = .bool false := q27
       have r28 : vs 12 = .slice (some ⟨b1, o1, none⟩) s.length ca := q28
       have r29 : vs 13 = .int .i64 k := q29
       have r30 : vs 14 = .pointer (some ⟨b1, o1 + k * 5, none⟩) := q30
       have r31 : vs 15 = .pointer (some ⟨b1, o1 + k * 5, none⟩) := q31
       have r32 : vs 16 = .agg #[.int .i64 x.rc.kind, .int .i64 x.rc.key, .int .i64 x.rc.ver, .slice a1 x.rc.data.length c1] := q32
       have r33 : vs 17 = .slice (some ⟨b2, o2, none⟩) t.length cb := q33
       have r34 : vs 18 = .int .i64 k := q34
       have r35 : vs 19 = .pointer (some ⟨b2, o2 + k * 5, none⟩) := q35
       have r36 : vs 20 = .pointer (some ⟨b2, o2 + k * 5, none⟩) := q36
       have r37 : vs 21 = .agg #[.int .i64 z.rc.kind, .int .i64 z.rc.key, .int .i64 z.rc.ver, .slice a2 z.rc.data.length c2] := q37
       have r38 : vs 22 = .bool false := q38
       have r39 : vs 23 = .bool true := q39
       have r40 : vs 24 = .bool true := q40
       clear q16 q17 q18 q19 q20 q21 q22 q23 q24 q25 q26 q27 q28 q29 q30 q31 q32 q33 q34 q35 q36 q37 q38 q39 q40
       simp only [putAll, Act.put, List.setIfInBounds_toArray, List.set_cons_zero, List.set_cons_succ, r16, r17, r18, r19, r20, r21, r22, r23, r24, r25, r26, r27, r28, r29, r30, r31, r32, r33, r34, r35, r36, r37, r38, r39, r40]
       clear r16 r17 r18 r19 r20 r21 r22 r23 r24 r25 r26 r27 r28 r29 r30 r31 r32 r33 r34 r35 r36 r37 r38 r39 r40
       have gr2 := hgr.trans hg
       clear hg p0 p1 p2 p3 p4 q0 q1 q2 q3 q4 hu hz
       go_wp2_with fail
       go_ret
       exact ⟨rfl, gr2⟩
    ·have hRf : R = false := HY.out (fun h => hp (by rw [h]))
     subst hRf
     have d2 : (x.pair != z.pair) = true := by simp [hp]
     clear HX HY hp
     go_wp2_with fail
     refine wp_region_told [ex (.slice (some ⟨b1, o1, none⟩) s.length ca), ex (.int .i64 k), ex (.pointer (some ⟨b1, o1 + k * 5, none⟩)), ex (.pointer (some ⟨b1, o1 + k * 5 + 4, none⟩)), ex (.int .i64 x.pair), ex (.slice (some ⟨b2, o2, none⟩) t.length cb), ex (.int .i64 k), ex (.pointer (some ⟨b2, o2 + k * 5, none⟩)), ex (.pointer (some ⟨b2, o2 + k * 5 + 4, none⟩)), ex (.int .i64 z.pair), ex (.bool true), ex (.bool true), ex (undef), ex (undef), ex (undef), ex (undef), ex (undef), ex (undef), ex (undef), ex (undef), ex (undef), ex (undef), ex (undef), ex (undef), ex (.bool true)] (by kernel_rfl) (by kernel_rfl) ⟨st_ex _, st_ex _, st_ex _, st_ex _, st_ex _, st_ex _, st_ex _, st_ex _, st_ex _, st_ex _, st_ex _, st_ex _, st_ex _, st_ex _, st_ex _, st_ex _, st_ex _, st_ex _, st_ex _, st_ex _, st_ex _, st_ex _, st_ex _, st_ex _, st_ex _, trivial⟩ ?_ ?_
     ·refine ⟨?_, ?_, ?_, ?_, ?_, ?_, ?_, ?_, ?_, ?_, ?_, ?_, ?_, ?_, ?_, ?_, ?_, ?_, ?_, ?_, ?_, ?_, ?_, ?_, ?_, trivial⟩
      ·refine need_plain rfl (fun a w' hg hin => ?_)
       have e : a.eval (.tmp 0) = .slice (some ⟨b1, o1, none⟩) s.length ca := ins_ext hin 0 (by kernel_rfl)
       exact upon_move rfl e
      ·refine need_plain rfl (fun a w' hg hin => ?_)
       have e : a.eval (.tmp 5) = .int .i64 k := ins_ext hin 5 (by kernel_rfl)
       exact upon_move rfl e
      ·refine need_plain rfl (fun a w' hg hin => ?_)
       have e16 : a.eval (.tmp 16) = _ := ins_on hin 0 (by kernel_rfl)
       have e17 : a.eval (.tmp 17) = _ := ins_on hin 1 (by kernel_rfl)
       refine upon_val ?_ rfl
       clear hin hg
       obtain ⟨ek, ef⟩ := evs a
       generalize a.eval = ev at *
       go_simp
       all_goals first | omega | (intro _; omega) | go_arith
      ·refine need_plain rfl (fun a w' hg hin => ?_)
       have e18 : a.eval (.tmp 18) = _ := ins_on hin 2 (by kernel_rfl)
       refine upon_val ?_ rfl
       clear hin hg
       obtain ⟨ek, ef⟩ := evs a
       generalize a.eval = ev at *
       go_simp
       all_goals first | omega | (intro _; omega) | go_arith
      ·refine need_plain rfl (fun a w' hg hin => ?_)
       have e19 : a.eval (.tmp 19) = _ := ins_on hin 3 (by kernel_rfl)
       have h1 := (Below.cell hg (cell_lt p4)).trans p4
       refine upon_val ?_ rfl
       clear hin hg
       obtain ⟨ek, ef⟩ := evs a
       generalize a.eval = ev at *
       go_simp
       all_goals first | omega | (intro _; omega) | go_arith
      ·refine need_plain rfl (fun a w' hg hin => ?_)
       have e : a.eval (.tmp 1) = .slice (some ⟨b2, o2, none⟩) t.length cb := ins_ext hin 1 (by kernel_rfl)
       exact upon_move rfl e
      ·refine need_plain rfl (fun a w' hg hin => ?_)
       have e : a.eval (.tmp 5) = .int .i64 k := ins_ext hin 5 (by kernel_rfl)
       exact upon_move rfl e
      ·refine need_plain rfl (fun a w' hg hin => ?_)
       have e21 : a.eval (.tmp 21) = _ := ins_on hin 5 (by kernel_rfl)
       have e22 : a.eval (.tmp 22) = _ := ins_on hin 6 (by kernel_rfl)
       refine upon_val ?_ rfl
       clear hin hg
       obtain ⟨ek, ef⟩ := evs a
       generalize a.eval = ev at *
       go_simp
       all_goals first | omega | (intro _; omega) | go_arith
      ·refine need_plain rfl (fun a w' hg hin => ?_)
       have e23 : a.eval (.tmp 23) = _ := ins_on hin 7 (by kernel_rfl)
       refine upon_val ?_ rfl
       clear hin hg
       obtain ⟨ek, ef⟩ := evs a
       generalize a.eval = ev at *
       go_simp
       all_goals first | omega | (intro _; omega) | go_arith
      ·refine need_plain rfl (fun a w' hg hin => ?_)
       have e24 : a.eval (.tmp 24) = _ := ins_on hin 8 (by kernel_rfl)
       have h1 := (Below.cell hg (cell_lt q4)).trans q4
       refine upon_val ?_ rfl
       clear hin hg
       obtain ⟨ek, ef⟩ := evs a
       generalize a.eval = ev at *
       go_simp
       all_goals first | omega | (intro _; omega) | go_arith
      ·refine need_plain rfl (fun a w' hg hin => ?_)
       have e20 : a.eval (.tmp 20) = _ := ins_on hin 4 (by kernel_rfl)
       have e25 : a.eval (.tmp 25) = _ := ins_on hin 9 (by kernel_rfl)
       refine upon_val ?_ rfl
       clear hin hg
       obtain ⟨ek, ef⟩ := evs a
       generalize a.eval = ev at *
       go_simp
       all_goals first | omega | (intro _; omega) | go_arith
      ·refine need_plain rfl (fun a w' hg hin => ?_)
       have e : a.eval (.tmp 26) = _ := ins_on hin 10 (by kernel_rfl)
       exact upon_move rfl e
      ·refine need_no 11 false true rfl (by decide) (fun a w' hin => ins_on hin 11 (by kernel_rfl)) (fun _ => rfl)
      ·refine need_no 11 false true rfl (by decide) (fun a w' hin => ins_on hin 11 (by kernel_rfl)) (fun _ => rfl)
      ·refine need_no 11 false true rfl (by decide) (fun a w' hin => ins_on hin 11 (by kernel_rfl)) (fun _ => rfl)
      ·refine need_no 11 false true rfl (by decide) (fun a w' hin => ins_on hin 11 (by kernel_rfl)) (fun _ => rfl)
      ·refine need_no 11 false true rfl (by decide) (fun a w' hin => ins_on hin 11 (by kernel_rfl)) (fun _ => rfl)
      ·refine need_no 11 false true rfl (by decide) (fun a w' hin => ins_on hin 11 (by kernel_rfl)) (fun _ => rfl)
      ·refine need_no 11 false true rfl (by decide) (fun a w' hin => ins_on hin 11 (by kernel_rfl)) (fun _ => rfl)
      ·refine need_no 11 false true rfl (by decide) (fun a w' hin => ins_on hin 11 (by kernel_rfl)) (fun _ => rfl)
      ·refine need_no 11 false true rfl (by decide) (fun a w' hin => ins_on hin 11 (by kernel_rfl)) (fun _ => rfl)
      ·refine need_no 11 false true rfl (by decide) (fun a w' hin => ins_on hin 11 (by kernel_rfl)) (fun _ => rfl)
      ·refine need_no 11 false true rfl (by decide) (fun a w' hin => ins_on hin 11 (by kernel_rfl)) (fun _ => rfl)
      ·refine need_no 11 false true rfl (by decide) (fun a w' hin => ins_on hin 11 (by kernel_rfl)) (fun _ => rfl)
      ·refine need_plain rfl (fun a w' hg hin => ?_)
       have ec : a.eval (.tmp 27) = _ := ins_on hin 11 (by kernel_rfl)
       exact upon_pick rfl ec rfl
     ·intro vs w' hg ht
      obtain ⟨q16, q17, q18, q19, q20, q21, q22, q23, q24, q25, q26, q27, q28, q29, q30, q31, q32, q33, q34, q35, q36, q37, q38, q39, q40, -⟩ := ht
      have r16 : vs 0 = .slice (some ⟨b1, o1, none⟩) s.length ca := q16
      have r17 : vs 1 = .int .i64 k := q17
      have r18 : vs 2 = .pointer (some ⟨b1, o1 + k * 5, none⟩) := q18
      have r19 : vs 3 = .pointer (some ⟨b1, o1 + k * 5 + 4, none⟩) := q19
      have r20 : vs 4 = .int .i64 x.pair := q20
      have r21 : vs 5 = .slice (some ⟨b2, o2, none⟩) t.length cb := q21
      have r22 : vs 6 = .int .i64 k := q22
      have r23 : vs 7 = .pointer (some ⟨b2, o2 + k * 5, none⟩) := q23
      have r24 : vs 8 = .pointer (some ⟨b2, o2 + k * 5 + 4, none⟩) := q24
      have r25 : vs 9 = .int .i64 z.pair := q25
      have r26 : vs 10 = .bool true := q26
      have r27 : vs 11 = .bool true := q27
      have r28 : vs 12 = undef := q28
      have r29 : vs 13 = undef := q29
      have r30 : vs 14 = undef := q30
      have r31 : vs 15 = undef := q31
      have r32 : vs 16 = undef := q32
      have r33 : vs 17 = undef := q33
      have r34 : vs 18 = undef := q34
      have r35 : vs 19 = undef := q35
      have r36 : vs 20 = undef := q36
      have r37 : vs 21 = undef := q37
      have r38 : vs 22 = undef := q38
      have r39 : vs 23 = undef := q39
      have r40 : vs 24 = .bool true := q40
      clear q16 q17 q18 q19 q20 q21 q22 q23 q24 q25 q26 q27 q28 q29 q30 q31 q32 q33 q34 q35 q36 q37 q38 q39 q40
      simp only [putAll, Act.put, List.setIfInBounds_toArray, List.set_cons_zero, List.set_cons_succ, r16, r17, r18, r19, r20, r21, r22, r23, r24, r25, r26, r27, r28, r29, r30, r31, r32, r33, r34, r35, r36, r37, r38, r39, r40]
      clear r16 r17 r18 r19 r20 r21 r22 r23 r24 r25 r26 r27 r28 r29 r30 r31 r32 r33 r34 r35 r36 r37 r38 r39 r40
      have gr2 := hgr.trans hg
      clear hg p0 p1 p2 p3 p4 q0 q1 q2 q3 q4 hu hz
      go_wp2_with fail
      go_ret
      exact ⟨rfl, gr2⟩
   ·have hk' : k = s.length := by omega
    have hRt : R = true := by
     rw [HR.out, sameE_iff]
     have h := HK.out
     rw [hk', List.take_length, HL.out, List.take_length] at h
     exact h
    subst hRt
    clear hk'
    go_wp2_with fail
    go_ret
    exact ⟨rfl, hgr⟩
 ·have HR : Hid (sameE s t = false) := sameE_no fun h => hl (by rw [h])
  rw [HR.out]
  have d0 : ((s.length : Int) != (t.length : Int)) = true := by simp; omega
  clear hl
  go_enter Try.func16, Try.ntmps16
  go_wp2_with fail
  go_ret
  exact ⟨rfl, Grow.refl _⟩

/-- What the first n pairs of a disk tell, in order. -/
def scanE (d : Dk) : Nat → List Ent
 | 0 => []
 | n + 1 => if (d.tell (n : Int)).kind = 1 then scanE d n else insertE ⟨d.tell (n : Int), (n : Int)⟩ (scanE d n)
theorem insertE_len (e : Ent) (l : List Ent) : (insertE e l).length ≤ 2 * l.length + 1 := by
 have := insSt_len e l
 unfold insertE
 split
 ·omega
 ·simp; omega
theorem insSt_exact (e : Ent) (l : List Ent) : (insSt e l).1.length = l.length + (if (insSt e l).2 = true then 1 else 0) := by
 have key : ∀ (l : List Ent) (st : List Ent × Bool), (l.foldl (insStep e) st).1.length + (if st.2 = true then 1 else 0) = st.1.length + l.length + (if (l.foldl (insStep e) st).2 = true then 1 else 0) := by
  intro l
  induction l with
  | nil => rintro ⟨a, b⟩; cases b <;> simp
  | cons x l ih =>
   intro st
   rw [List.foldl_cons, List.length_cons]
   have h1 := ih (insStep e st x)
   have h2 : (insStep e st x).1.length + (if st.2 = true then 1 else 0) = st.1.length + 1 + (if (insStep e st x).2 = true then 1 else 0) := by
    unfold insStep
    by_cases hc : st.2 = false ∧ lessB e x = true
    ·rw [if_pos hc, hc.1]; simp
    ·rw [if_neg hc]; simp
   omega
 have := key l ([], false)
 unfold insSt
 simpa using this
theorem insertE_exact (e : Ent) (l : List Ent) : (insertE e l).length = l.length + 1 := by
 have h := insSt_exact e l
 unfold insertE
 by_cases hd : (insSt e l).2 = true
 ·rw [if_pos hd] at h ⊢; exact h
 ·rw [if_neg hd] at h ⊢; simp [h]
theorem scanE_len (d : Dk) : ∀ n, (scanE d n).length ≤ n
 | 0 => by simp [scanE]
 | n + 1 => by
  have ih := scanE_len d n
  unfold scanE
  split
  ·omega
  ·rw [insertE_exact]; omega

end Go.Proofs.Ytgaecpdokgklpab
