/-
  sclaw7.TextUnlike and TextTells answer true for all texts and deeds.
  Condition: the program's text keeps its contracts, and so does the document's (premises).
-/
import Derived.Test.YtgaecpdokgklpabDoorTAlive
namespace Go.Proofs.YtgaecpdokgklpabDoor
set_option maxRecDepth 100000
open Go.RowKit
open Go.Proofs.YtgaecpdokgklpabDoor.Plain Go.Proofs.YtgaecpdokgklpabDoor.Reg

def RPrintC (V : World → Prop) : Prop := ∀ (d : Dd) (a : Option Addr) (c : Nat) (w : World), V w → wrongD d = 0 → Bytes w (.slice a d.data.length c) d.data →
 Calls Tryd.prog 11 #[.agg #[.int .i64 d.kind, .int .i64 d.key, .int .i64 d.num, .slice a d.data.length c]] w fun r w' => r = .returned (.string ⟨(printD d).toArray⟩) ∧ Grow w w'
def RParseC (V : World → Prop) : Prop := ∀ (s : List UInt8) (w : World), V w → s.length ≤ 1048576 →
 Calls Tryd.prog 7 #[.string ⟨s.toArray⟩] w fun r w' => ∃ v, r = .returned v ∧ DeedQ (parseD s) v w' ∧ Grow w w'
set_option maxHeartbeats 8000000 in
theorem textUnlike_of (V : World → Prop) (hV : ∀ w w', V w → Grow w w' → V w') (TP : TPrintC V) (TR : TParseC V) (d e : Dd) (ad ae : Option Addr) (cd ce : Nat) (w : World) (hw : V w) (hd : Bytes w (.slice ad d.data.length cd) d.data) (he : Bytes w (.slice ae e.data.length ce) e.data) (hld : d.data.length ≤ 140737488355328) (hle : e.data.length ≤ 140737488355328) :
  Calls Tryd.prog 5 #[.agg #[.int .i64 d.kind, .int .i64 d.key, .int .i64 d.num, .slice ad d.data.length cd], .agg #[.int .i64 e.kind, .int .i64 e.key, .int .i64 e.num, .slice ae e.data.length ce]] w fun r w' => r = .returned (.bool true) ∧ Grow w w' := by
 have gW := grow_alloc2 w (.cells #[.int .i64 d.kind, .int .i64 d.key, .int .i64 d.num, .slice ad d.data.length cd] 24) (.cells #[.int .i64 e.kind, .int .i64 e.key, .int .i64 e.num, .slice ae e.data.length ce] 24)
 have hD0 := heap_new w #[.int .i64 d.kind, .int .i64 d.key, .int .i64 d.num, .slice ad d.data.length cd] 24
 have hE := heap_new (w.alloc (.cells #[.int .i64 d.kind, .int .i64 d.key, .int .i64 d.num, .slice ad d.data.length cd] 24)) #[.int .i64 e.kind, .int .i64 e.key, .int .i64 e.num, .slice ae e.data.length ce] 24
 have hD := ((grow_alloc (w.alloc (.cells #[.int .i64 d.kind, .int .i64 d.key, .int .i64 d.num, .slice ad d.data.length cd] 24)) (.cells #[.int .i64 e.kind, .int .i64 e.key, .int .i64 e.num, .slice ae e.data.length ce] 24)).block _ (heap_lt hD0)).trans hD0
 rw [World.size_alloc] at hE
 clear hD0
 obtain ⟨WD, hWD⟩ : ∃ WD, WD = wrongD d := ⟨_, rfl⟩
 obtain ⟨WE, hWE⟩ : ∃ WE, WE = wrongD e := ⟨_, rfl⟩
 have HWD : Hid _ := hWD
 have HWE : Hid _ := hWE
 clear hWD hWE
 go_enter Tryd.func5, Tryd.ntmps5
 go_wp2_with fail
 refine (talive_of V hV TP TR _ (hV _ _ hw gW)).mono ?_
 rintro r w1 ⟨rfl, g1⟩
 replace gW := gW.trans g1
 replace hD := (g1.block _ (heap_lt hD)).trans hD
 replace hE := (g1.block _ (heap_lt hE)).trans hE
 clear g1
 have hVW := hV _ _ hw gW
 go_wp2_with fail
 obtain ⟨W1, rfl⟩ : ∃ W1 : World, W1 = w1 := ⟨_, rfl⟩
 by_cases hw0 : WD = 0
 ·have HW0 : Hid (wrongD d = 0) := by show _ = _; rw [← HWD.out, hw0]
  have d0 : (WD != 0) = false := by simp [hw0]
  clear hw0
  by_cases he0 : WE = 0
  ·have HE0 : Hid (wrongD e = 0) := by show _ = _; rw [← HWE.out, he0]
   have d1 : (WE != 0) = false := by simp [he0]
   clear he0
   obtain ⟨B, hB⟩ : ∃ B, B = sameD d e := ⟨_, rfl⟩
   have HB : Hid (sameD d e = B) := hB.symm
   have dp : (printD d == printD e) = B := by
    rw [hB, Bool.eq_iff_iff, sameD_iff]
    simp only [beq_iff_eq]
    exact ⟨fun h => print_inj HW0.out HE0.out h, fun h => by rw [h]⟩
   have dB : (B == B) = true := by simp
   clear hB
   refine wp_region_told [ex (.agg #[.int .i64 d.kind, .int .i64 d.key, .int .i64 d.num, .slice ad d.data.length cd]), ex (.int .i64 WD), ex (.bool false), ex (.bool false), ex (.agg #[.int .i64 e.kind, .int .i64 e.key, .int .i64 e.num, .slice ae e.data.length ce]), ex (.int .i64 WE), ex (.bool false), ex (.bool false), ex (.bool false), ex (.agg #[.int .i64 d.kind, .int .i64 d.key, .int .i64 d.num, .slice ad d.data.length cd]), ex (.string ⟨(printD d).toArray⟩), ex (.agg #[.int .i64 e.kind, .int .i64 e.key, .int .i64 e.num, .slice ae e.data.length ce]), ex (.string ⟨(printD e).toArray⟩), ex (.bool B), ex (.agg #[.int .i64 d.kind, .int .i64 d.key, .int .i64 d.num, .slice ad d.data.length cd]), ex (.agg #[.int .i64 e.kind, .int .i64 e.key, .int .i64 e.num, .slice ae e.data.length ce]), ex (.bool B), ex (.bool true), ex (.bool true), ex (.bool true)] (by kernel_rfl) (by kernel_rfl) ⟨st_ex _, st_ex _, st_ex _, st_ex _, st_ex _, st_ex _, st_ex _, st_ex _, st_ex _, st_ex _, st_ex _, st_ex _, st_ex _, st_ex _, st_ex _, st_ex _, st_ex _, st_ex _, st_ex _, st_ex _, trivial⟩ ?_ ?_
   ·refine ⟨?_, ?_, ?_, ?_, ?_, ?_, ?_, ?_, ?_, ?_, ?_, ?_, ?_, ?_, ?_, ?_, ?_, ?_, ?_, ?_, trivial⟩
    ·refine need_plain rfl (fun a w' hg hin => ?_)
     have e2 : a.eval (.tmp 2) = .pointer (some ⟨w.heap.size, 0, none⟩) := ins_ext hin 2 (by kernel_rfl)
     have hx := (hg.block _ (heap_lt hD)).trans hD
     obtain ⟨z0, z1, z2, z3⟩ := box4 hx rfl rfl rfl rfl
     refine upon_val ?_ rfl
     clear hin hg hx
     obtain ⟨ek, ef⟩ := evs a
     generalize a.eval = ev at *
     go_simp
     all_goals first | omega | (intro _; omega) | go_arith
    ·refine need_plain rfl (fun a w' hg hin => ?_)
     have e7 : a.eval (.tmp 7) = _ := ins_on hin 0 (by kernel_rfl)
     refine upon_call (f := 9) (args := #[.agg #[.int .i64 d.kind, .int .i64 d.key, .int .i64 d.num, .slice ad d.data.length cd]]) ?_ ((rwrongD_any d ad cd w' hld).mono ?_)
     ·clear hin hg
      obtain ⟨ek, ef⟩ := evs a
      generalize a.eval = ev at *
      go_simp
      all_goals first | omega | (intro _; omega) | go_arith
     ·rw [← HWD.out]
      rintro r w2 ⟨rfl, g2⟩
      exact ⟨_, rfl, g2, rfl⟩
    ·refine need_plain rfl (fun a w' hg hin => ?_)
     have e8 : a.eval (.tmp 8) = _ := ins_on hin 1 (by kernel_rfl)
     refine upon_val ?_ rfl
     clear hin hg
     obtain ⟨ek, ef⟩ := evs a
     generalize a.eval = ev at *
     go_simp
     all_goals first | omega | (intro _; omega) | go_arith
    ·refine need_plain rfl (fun a w' hg hin => ?_)
     have e : a.eval (.tmp 9) = _ := ins_on hin 2 (by kernel_rfl)
     exact upon_move rfl e
    ·refine need_yes 3 false rfl (fun a w' hin => ins_on hin 3 (by kernel_rfl)) (fun a w' hg hin => ?_)
     have e3 : a.eval (.tmp 3) = .pointer (some ⟨w.heap.size + 1, 0, none⟩) := ins_ext hin 3 (by kernel_rfl)
     have hx := (hg.block _ (heap_lt hE)).trans hE
     obtain ⟨z0, z1, z2, z3⟩ := box4 hx rfl rfl rfl rfl
     refine upon_val ?_ rfl
     clear hin hg hx
     obtain ⟨ek, ef⟩ := evs a
     generalize a.eval = ev at *
     go_simp
     all_goals first | omega | (intro _; omega) | go_arith
    ·refine need_yes 3 false rfl (fun a w' hin => ins_on hin 3 (by kernel_rfl)) (fun a w' hg hin => ?_)
     have e11 : a.eval (.tmp 11) = _ := ins_on hin 4 (by kernel_rfl)
     refine upon_call (f := 9) (args := #[.agg #[.int .i64 e.kind, .int .i64 e.key, .int .i64 e.num, .slice ae e.data.length ce]]) ?_ ((rwrongD_any e ae ce w' hle).mono ?_)
     ·clear hin hg
      obtain ⟨ek, ef⟩ := evs a
      generalize a.eval = ev at *
      go_simp
      all_goals first | omega | (intro _; omega) | go_arith
     ·rw [← HWE.out]
      rintro r w2 ⟨rfl, g2⟩
      exact ⟨_, rfl, g2, rfl⟩
    ·refine need_yes 3 false rfl (fun a w' hin => ins_on hin 3 (by kernel_rfl)) (fun a w' hg hin => ?_)
     have e12 : a.eval (.tmp 12) = _ := ins_on hin 5 (by kernel_rfl)
     refine upon_val ?_ rfl
     clear hin hg
     obtain ⟨ek, ef⟩ := evs a
     generalize a.eval = ev at *
     go_simp
     all_goals first | omega | (intro _; omega) | go_arith
    ·refine need_plain rfl (fun a w' hg hin => ?_)
     have ec : a.eval (.tmp 10) = _ := ins_on hin 3 (by kernel_rfl)
     have e : a.eval (.tmp 13) = _ := ins_on hin 6 (by kernel_rfl)
     exact upon_pick rfl ec e
    ·refine need_plain rfl (fun a w' hg hin => ?_)
     have e : a.eval (.tmp 14) = _ := ins_on hin 7 (by kernel_rfl)
     exact upon_move rfl e
    ·refine need_yes 8 false rfl (fun a w' hin => ins_on hin 8 (by kernel_rfl)) (fun a w' hg hin => ?_)
     have e2 : a.eval (.tmp 2) = .pointer (some ⟨w.heap.size, 0, none⟩) := ins_ext hin 2 (by kernel_rfl)
     have hx := (hg.block _ (heap_lt hD)).trans hD
     obtain ⟨z0, z1, z2, z3⟩ := box4 hx rfl rfl rfl rfl
     refine upon_val ?_ rfl
     clear hin hg hx
     obtain ⟨ek, ef⟩ := evs a
     generalize a.eval = ev at *
     go_simp
     all_goals first | omega | (intro _; omega) | go_arith
    ·refine need_yes 8 false rfl (fun a w' hin => ins_on hin 8 (by kernel_rfl)) (fun a w' hg hin => ?_)
     have e16 : a.eval (.tmp 16) = _ := ins_on hin 9 (by kernel_rfl)
     refine upon_call (f := 10) (args := #[.agg #[.int .i64 d.kind, .int .i64 d.key, .int .i64 d.num, .slice ad d.data.length cd]]) ?_ ((TP d ad cd w' (hV _ _ hVW hg) HW0.out (bytes_grow hd (gW.trans hg))).mono ?_)
     ·clear hin hg
      obtain ⟨ek, ef⟩ := evs a
      generalize a.eval = ev at *
      go_simp
      all_goals first | omega | (intro _; omega) | go_arith
     ·rintro r w2 ⟨rfl, g2⟩
      exact ⟨_, rfl, g2, rfl⟩
    ·refine need_yes 8 false rfl (fun a w' hin => ins_on hin 8 (by kernel_rfl)) (fun a w' hg hin => ?_)
     have e3 : a.eval (.tmp 3) = .pointer (some ⟨w.heap.size + 1, 0, none⟩) := ins_ext hin 3 (by kernel_rfl)
     have hx := (hg.block _ (heap_lt hE)).trans hE
     obtain ⟨z0, z1, z2, z3⟩ := box4 hx rfl rfl rfl rfl
     refine upon_val ?_ rfl
     clear hin hg hx
     obtain ⟨ek, ef⟩ := evs a
     generalize a.eval = ev at *
     go_simp
     all_goals first | omega | (intro _; omega) | go_arith
    ·refine need_yes 8 false rfl (fun a w' hin => ins_on hin 8 (by kernel_rfl)) (fun a w' hg hin => ?_)
     have e18 : a.eval (.tmp 18) = _ := ins_on hin 11 (by kernel_rfl)
     refine upon_call (f := 10) (args := #[.agg #[.int .i64 e.kind, .int .i64 e.key, .int .i64 e.num, .slice ae e.data.length ce]]) ?_ ((TP e ae ce w' (hV _ _ hVW hg) HE0.out (bytes_grow he (gW.trans hg))).mono ?_)
     ·clear hin hg
      obtain ⟨ek, ef⟩ := evs a
      generalize a.eval = ev at *
      go_simp
      all_goals first | omega | (intro _; omega) | go_arith
     ·rintro r w2 ⟨rfl, g2⟩
      exact ⟨_, rfl, g2, rfl⟩
    ·refine need_yes 8 false rfl (fun a w' hin => ins_on hin 8 (by kernel_rfl)) (fun a w' hg hin => ?_)
     have e17 : a.eval (.tmp 17) = _ := ins_on hin 10 (by kernel_rfl)
     have e19 : a.eval (.tmp 19) = _ := ins_on hin 12 (by kernel_rfl)
     refine upon_val ?_ rfl
     clear hin hg
     generalize printD d = p1 at *
     generalize printD e = p2 at *
     obtain ⟨ek, ef⟩ := evs a
     generalize a.eval = ev at *
     go_simp
     all_goals first | omega | (intro _; omega) | go_arith
    ·refine need_yes 8 false rfl (fun a w' hin => ins_on hin 8 (by kernel_rfl)) (fun a w' hg hin => ?_)
     have e2 : a.eval (.tmp 2) = .pointer (some ⟨w.heap.size, 0, none⟩) := ins_ext hin 2 (by kernel_rfl)
     have hx := (hg.block _ (heap_lt hD)).trans hD
     obtain ⟨z0, z1, z2, z3⟩ := box4 hx rfl rfl rfl rfl
     refine upon_val ?_ rfl
     clear hin hg hx
     obtain ⟨ek, ef⟩ := evs a
     generalize a.eval = ev at *
     go_simp
     all_goals first | omega | (intro _; omega) | go_arith
    ·refine need_yes 8 false rfl (fun a w' hin => ins_on hin 8 (by kernel_rfl)) (fun a w' hg hin => ?_)
     have e3 : a.eval (.tmp 3) = .pointer (some ⟨w.heap.size + 1, 0, none⟩) := ins_ext hin 3 (by kernel_rfl)
     have hx := (hg.block _ (heap_lt hE)).trans hE
     obtain ⟨z0, z1, z2, z3⟩ := box4 hx rfl rfl rfl rfl
     refine upon_val ?_ rfl
     clear hin hg hx
     obtain ⟨ek, ef⟩ := evs a
     generalize a.eval = ev at *
     go_simp
     all_goals first | omega | (intro _; omega) | go_arith
    ·refine need_yes 8 false rfl (fun a w' hin => ins_on hin 8 (by kernel_rfl)) (fun a w' hg hin => ?_)
     have e21 : a.eval (.tmp 21) = _ := ins_on hin 14 (by kernel_rfl)
     have e22 : a.eval (.tmp 22) = _ := ins_on hin 15 (by kernel_rfl)
     refine upon_call (f := 8) (args := #[.agg #[.int .i64 d.kind, .int .i64 d.key, .int .i64 d.num, .slice ad d.data.length cd], .agg #[.int .i64 e.kind, .int .i64 e.key, .int .i64 e.num, .slice ae e.data.length ce]]) ?_ ((rsameD_any d e ad ae cd ce w' (bytes_grow hd (gW.trans hg)) (bytes_grow he (gW.trans hg))).mono ?_)
     ·clear hin hg
      obtain ⟨ek, ef⟩ := evs a
      generalize a.eval = ev at *
      go_simp
      all_goals first | omega | (intro _; omega) | go_arith
     ·rw [HB.out]
      rintro r w2 ⟨rfl, g2⟩
      exact ⟨_, rfl, g2, rfl⟩
    ·refine need_yes 8 false rfl (fun a w' hin => ins_on hin 8 (by kernel_rfl)) (fun a w' hg hin => ?_)
     have e20 : a.eval (.tmp 20) = _ := ins_on hin 13 (by kernel_rfl)
     have e23 : a.eval (.tmp 23) = _ := ins_on hin 16 (by kernel_rfl)
     refine upon_val ?_ rfl
     clear hin hg
     obtain ⟨ek, ef⟩ := evs a
     generalize a.eval = ev at *
     go_simp
     all_goals first | omega | (intro _; omega) | go_arith
    ·refine need_plain rfl (fun a w' hg hin => ?_)
     have ec : a.eval (.tmp 15) = _ := ins_on hin 8 (by kernel_rfl)
     have e : a.eval (.tmp 24) = _ := ins_on hin 17 (by kernel_rfl)
     exact upon_pick rfl ec e
    ·refine need_plain rfl (fun a w' hg hin => ?_)
     have e : a.eval (.tmp 25) = _ := ins_on hin 18 (by kernel_rfl)
     exact upon_assign rfl e
   ·intro vs w' hg ht
    obtain ⟨q7, q8, q9, q10, q11, q12, q13, q14, q15, q16, q17, q18, q19, q20, q21, q22, q23, q24, q25, q4, -⟩ := ht
    have r7 : vs 0 = .agg #[.int .i64 d.kind, .int .i64 d.key, .int .i64 d.num, .slice ad d.data.length cd] := q7
    have r8 : vs 1 = .int .i64 WD := q8
    have r9 : vs 2 = .bool false := q9
    have r10 : vs 3 = .bool false := q10
    have r11 : vs 4 = .agg #[.int .i64 e.kind, .int .i64 e.key, .int .i64 e.num, .slice ae e.data.length ce] := q11
    have r12 : vs 5 = .int .i64 WE := q12
    have r13 : vs 6 = .bool false := q13
    have r14 : vs 7 = .bool false := q14
    have r15 : vs 8 = .bool false := q15
    have r16 : vs 9 = .agg #[.int .i64 d.kind, .int .i64 d.key, .int .i64 d.num, .slice ad d.data.length cd] := q16
    have r17 : vs 10 = .string ⟨(printD d).toArray⟩ := q17
    have r18 : vs 11 = .agg #[.int .i64 e.kind, .int .i64 e.key, .int .i64 e.num, .slice ae e.data.length ce] := q18
    have r19 : vs 12 = .string ⟨(printD e).toArray⟩ := q19
    have r20 : vs 13 = .bool B := q20
    have r21 : vs 14 = .agg #[.int .i64 d.kind, .int .i64 d.key, .int .i64 d.num, .slice ad d.data.length cd] := q21
    have r22 : vs 15 = .agg #[.int .i64 e.kind, .int .i64 e.key, .int .i64 e.num, .slice ae e.data.length ce] := q22
    have r23 : vs 16 = .bool B := q23
    have r24 : vs 17 = .bool true := q24
    have r25 : vs 18 = .bool true := q25
    have r4 : vs 19 = .bool true := q4
    clear q7 q8 q9 q10 q11 q12 q13 q14 q15 q16 q17 q18 q19 q20 q21 q22 q23 q24 q25 q4
    simp only [putAll, Act.put, List.setIfInBounds_toArray, List.set_cons_zero, List.set_cons_succ, r7, r8, r9, r10, r11, r12, r13, r14, r15, r16, r17, r18, r19, r20, r21, r22, r23, r24, r25, r4]
    clear r7 r8 r9 r10 r11 r12 r13 r14 r15 r16 r17 r18 r19 r20 r21 r22 r23 r24 r25 r4
    have gE := gW.trans hg
    clear hg hD hE gW hVW
    go_wp2_with fail
    go_ret
    exact ⟨rfl, gE⟩
  ·have d1 : (WE != 0) = true := by simp [he0]
   clear he0
   refine wp_region_told [ex (.agg #[.int .i64 d.kind, .int .i64 d.key, .int .i64 d.num, .slice ad d.data.length cd]), ex (.int .i64 WD), ex (.bool false), ex (.bool false), ex (.agg #[.int .i64 e.kind, .int .i64 e.key, .int .i64 e.num, .slice ae e.data.length ce]), ex (.int .i64 WE), ex (.bool true), ex (.bool true), ex (.bool true), ex (undef), ex (undef), ex (undef), ex (undef), ex (undef), ex (undef), ex (undef), ex (undef), ex (undef), ex (.bool true), ex (.bool true)] (by kernel_rfl) (by kernel_rfl) ⟨st_ex _, st_ex _, st_ex _, st_ex _, st_ex _, st_ex _, st_ex _, st_ex _, st_ex _, st_ex _, st_ex _, st_ex _, st_ex _, st_ex _, st_ex _, st_ex _, st_ex _, st_ex _, st_ex _, st_ex _, trivial⟩ ?_ ?_
   ·refine ⟨?_, ?_, ?_, ?_, ?_, ?_, ?_, ?_, ?_, ?_, ?_, ?_, ?_, ?_, ?_, ?_, ?_, ?_, ?_, ?_, trivial⟩
    ·refine need_plain rfl (fun a w' hg hin => ?_)
     have e2 : a.eval (.tmp 2) = .pointer (some ⟨w.heap.size, 0, none⟩) := ins_ext hin 2 (by kernel_rfl)
     have hx := (hg.block _ (heap_lt hD)).trans hD
     obtain ⟨z0, z1, z2, z3⟩ := box4 hx rfl rfl rfl rfl
     refine upon_val ?_ rfl
     clear hin hg hx
     obtain ⟨ek, ef⟩ := evs a
     generalize a.eval = ev at *
     go_simp
     all_goals first | omega | (intro _; omega) | go_arith
    ·refine need_plain rfl (fun a w' hg hin => ?_)
     have e7 : a.eval (.tmp 7) = _ := ins_on hin 0 (by kernel_rfl)
     refine upon_call (f := 9) (args := #[.agg #[.int .i64 d.kind, .int .i64 d.key, .int .i64 d.num, .slice ad d.data.length cd]]) ?_ ((rwrongD_any d ad cd w' hld).mono ?_)
     ·clear hin hg
      obtain ⟨ek, ef⟩ := evs a
      generalize a.eval = ev at *
      go_simp
      all_goals first | omega | (intro _; omega) | go_arith
     ·rw [← HWD.out]
      rintro r w2 ⟨rfl, g2⟩
      exact ⟨_, rfl, g2, rfl⟩
    ·refine need_plain rfl (fun a w' hg hin => ?_)
     have e8 : a.eval (.tmp 8) = _ := ins_on hin 1 (by kernel_rfl)
     refine upon_val ?_ rfl
     clear hin hg
     obtain ⟨ek, ef⟩ := evs a
     generalize a.eval = ev at *
     go_simp
     all_goals first | omega | (intro _; omega) | go_arith
    ·refine need_plain rfl (fun a w' hg hin => ?_)
     have e : a.eval (.tmp 9) = _ := ins_on hin 2 (by kernel_rfl)
     exact upon_move rfl e
    ·refine need_yes 3 false rfl (fun a w' hin => ins_on hin 3 (by kernel_rfl)) (fun a w' hg hin => ?_)
     have e3 : a.eval (.tmp 3) = .pointer (some ⟨w.heap.size + 1, 0, none⟩) := ins_ext hin 3 (by kernel_rfl)
     have hx := (hg.block _ (heap_lt hE)).trans hE
     obtain ⟨z0, z1, z2, z3⟩ := box4 hx rfl rfl rfl rfl
     refine upon_val ?_ rfl
     clear hin hg hx
     obtain ⟨ek, ef⟩ := evs a
     generalize a.eval = ev at *
     go_simp
     all_goals first | omega | (intro _; omega) | go_arith
    ·refine need_yes 3 false rfl (fun a w' hin => ins_on hin 3 (by kernel_rfl)) (fun a w' hg hin => ?_)
     have e11 : a.eval (.tmp 11) = _ := ins_on hin 4 (by kernel_rfl)
     refine upon_call (f := 9) (args := #[.agg #[.int .i64 e.kind, .int .i64 e.key, .int .i64 e.num, .slice ae e.data.length ce]]) ?_ ((rwrongD_any e ae ce w' hle).mono ?_)
     ·clear hin hg
      obtain ⟨ek, ef⟩ := evs a
      generalize a.eval = ev at *
      go_simp
      all_goals first | omega | (intro _; omega) | go_arith
     ·rw [← HWE.out]
      rintro r w2 ⟨rfl, g2⟩
      exact ⟨_, rfl, g2, rfl⟩
    ·refine need_yes 3 false rfl (fun a w' hin => ins_on hin 3 (by kernel_rfl)) (fun a w' hg hin => ?_)
     have e12 : a.eval (.tmp 12) = _ := ins_on hin 5 (by kernel_rfl)
     refine upon_val ?_ rfl
     clear hin hg
     obtain ⟨ek, ef⟩ := evs a
     generalize a.eval = ev at *
     go_simp
     all_goals first | omega | (intro _; omega) | go_arith
    ·refine need_plain rfl (fun a w' hg hin => ?_)
     have ec : a.eval (.tmp 10) = _ := ins_on hin 3 (by kernel_rfl)
     have e : a.eval (.tmp 13) = _ := ins_on hin 6 (by kernel_rfl)
     exact upon_pick rfl ec e
    ·refine need_plain rfl (fun a w' hg hin => ?_)
     have e : a.eval (.tmp 14) = _ := ins_on hin 7 (by kernel_rfl)
     exact upon_move rfl e
    ·refine need_no 8 false true rfl (by decide) (fun a w' hin => ins_on hin 8 (by kernel_rfl)) (fun _ => rfl)
    ·refine need_no 8 false true rfl (by decide) (fun a w' hin => ins_on hin 8 (by kernel_rfl)) (fun _ => rfl)
    ·refine need_no 8 false true rfl (by decide) (fun a w' hin => ins_on hin 8 (by kernel_rfl)) (fun _ => rfl)
    ·refine need_no 8 false true rfl (by decide) (fun a w' hin => ins_on hin 8 (by kernel_rfl)) (fun _ => rfl)
    ·refine need_no 8 false true rfl (by decide) (fun a w' hin => ins_on hin 8 (by kernel_rfl)) (fun _ => rfl)
    ·refine need_no 8 false true rfl (by decide) (fun a w' hin => ins_on hin 8 (by kernel_rfl)) (fun _ => rfl)
    ·refine need_no 8 false true rfl (by decide) (fun a w' hin => ins_on hin 8 (by kernel_rfl)) (fun _ => rfl)
    ·refine need_no 8 false true rfl (by decide) (fun a w' hin => ins_on hin 8 (by kernel_rfl)) (fun _ => rfl)
    ·refine need_no 8 false true rfl (by decide) (fun a w' hin => ins_on hin 8 (by kernel_rfl)) (fun _ => rfl)
    ·refine need_plain rfl (fun a w' hg hin => ?_)
     have ec : a.eval (.tmp 15) = _ := ins_on hin 8 (by kernel_rfl)
     exact upon_pick rfl ec rfl
    ·refine need_plain rfl (fun a w' hg hin => ?_)
     have e : a.eval (.tmp 25) = _ := ins_on hin 18 (by kernel_rfl)
     exact upon_assign rfl e
   ·intro vs w' hg ht
    obtain ⟨q7, q8, q9, q10, q11, q12, q13, q14, q15, q16, q17, q18, q19, q20, q21, q22, q23, q24, q25, q4, -⟩ := ht
    have r7 : vs 0 = .agg #[.int .i64 d.kind, .int .i64 d.key, .int .i64 d.num, .slice ad d.data.length cd] := q7
    have r8 : vs 1 = .int .i64 WD := q8
    have r9 : vs 2 = .bool false := q9
    have r10 : vs 3 = .bool false := q10
    have r11 : vs 4 = .agg #[.int .i64 e.kind, .int .i64 e.key, .int .i64 e.num, .slice ae e.data.length ce] := q11
    have r12 : vs 5 = .int .i64 WE := q12
    have r13 : vs 6 = .bool true := q13
    have r14 : vs 7 = .bool true := q14
    have r15 : vs 8 = .bool true := q15
    have r16 : vs 9 = undef := q16
    have r17 : vs 10 = undef := q17
    have r18 : vs 11 = undef := q18
    have r19 : vs 12 = undef := q19
    have r20 : vs 13 = undef := q20
    have r21 : vs 14 = undef := q21
    have r22 : vs 15 = undef := q22
    have r23 : vs 16 = undef := q23
    have r24 : vs 17 = undef := q24
    have r25 : vs 18 = .bool true := q25
    have r4 : vs 19 = .bool true := q4
    clear q7 q8 q9 q10 q11 q12 q13 q14 q15 q16 q17 q18 q19 q20 q21 q22 q23 q24 q25 q4
    simp only [putAll, Act.put, List.setIfInBounds_toArray, List.set_cons_zero, List.set_cons_succ, r7, r8, r9, r10, r11, r12, r13, r14, r15, r16, r17, r18, r19, r20, r21, r22, r23, r24, r25, r4]
    clear r7 r8 r9 r10 r11 r12 r13 r14 r15 r16 r17 r18 r19 r20 r21 r22 r23 r24 r25 r4
    have gE := gW.trans hg
    clear hg hD hE gW hVW
    go_wp2_with fail
    go_ret
    exact ⟨rfl, gE⟩
 ·have d0 : (WD != 0) = true := by simp [hw0]
  clear hw0
  refine wp_region_told [ex (.agg #[.int .i64 d.kind, .int .i64 d.key, .int .i64 d.num, .slice ad d.data.length cd]), ex (.int .i64 WD), ex (.bool true), ex (.bool true), ex (undef), ex (undef), ex (undef), ex (.bool true), ex (.bool true), ex (undef), ex (undef), ex (undef), ex (undef), ex (undef), ex (undef), ex (undef), ex (undef), ex (undef), ex (.bool true), ex (.bool true)] (by kernel_rfl) (by kernel_rfl) ⟨st_ex _, st_ex _, st_ex _, st_ex _, st_ex _, st_ex _, st_ex _, st_ex _, st_ex _, st_ex _, st_ex _, st_ex _, st_ex _, st_ex _, st_ex _, st_ex _, st_ex _, st_ex _, st_ex _, st_ex _, trivial⟩ ?_ ?_
  ·refine ⟨?_, ?_, ?_, ?_, ?_, ?_, ?_, ?_, ?_, ?_, ?_, ?_, ?_, ?_, ?_, ?_, ?_, ?_, ?_, ?_, trivial⟩
   ·refine need_plain rfl (fun a w' hg hin => ?_)
    have e2 : a.eval (.tmp 2) = .pointer (some ⟨w.heap.size, 0, none⟩) := ins_ext hin 2 (by kernel_rfl)
    have hx := (hg.block _ (heap_lt hD)).trans hD
    obtain ⟨z0, z1, z2, z3⟩ := box4 hx rfl rfl rfl rfl
    refine upon_val ?_ rfl
    clear hin hg hx
    obtain ⟨ek, ef⟩ := evs a
    generalize a.eval = ev at *
    go_simp
    all_goals first | omega | (intro _; omega) | go_arith
   ·refine need_plain rfl (fun a w' hg hin => ?_)
    have e7 : a.eval (.tmp 7) = _ := ins_on hin 0 (by kernel_rfl)
    refine upon_call (f := 9) (args := #[.agg #[.int .i64 d.kind, .int .i64 d.key, .int .i64 d.num, .slice ad d.data.length cd]]) ?_ ((rwrongD_any d ad cd w' hld).mono ?_)
    ·clear hin hg
     obtain ⟨ek, ef⟩ := evs a
     generalize a.eval = ev at *
     go_simp
     all_goals first | omega | (intro _; omega) | go_arith
    ·rw [← HWD.out]
     rintro r w2 ⟨rfl, g2⟩
     exact ⟨_, rfl, g2, rfl⟩
   ·refine need_plain rfl (fun a w' hg hin => ?_)
    have e8 : a.eval (.tmp 8) = _ := ins_on hin 1 (by kernel_rfl)
    refine upon_val ?_ rfl
    clear hin hg
    obtain ⟨ek, ef⟩ := evs a
    generalize a.eval = ev at *
    go_simp
    all_goals first | omega | (intro _; omega) | go_arith
   ·refine need_plain rfl (fun a w' hg hin => ?_)
    have e : a.eval (.tmp 9) = _ := ins_on hin 2 (by kernel_rfl)
    exact upon_move rfl e
   ·refine need_no 3 false true rfl (by decide) (fun a w' hin => ins_on hin 3 (by kernel_rfl)) (fun _ => rfl)
   ·refine need_no 3 false true rfl (by decide) (fun a w' hin => ins_on hin 3 (by kernel_rfl)) (fun _ => rfl)
   ·refine need_no 3 false true rfl (by decide) (fun a w' hin => ins_on hin 3 (by kernel_rfl)) (fun _ => rfl)
   ·refine need_plain rfl (fun a w' hg hin => ?_)
    have ec : a.eval (.tmp 10) = _ := ins_on hin 3 (by kernel_rfl)
    exact upon_pick rfl ec rfl
   ·refine need_plain rfl (fun a w' hg hin => ?_)
    have e : a.eval (.tmp 14) = _ := ins_on hin 7 (by kernel_rfl)
    exact upon_move rfl e
   ·refine need_no 8 false true rfl (by decide) (fun a w' hin => ins_on hin 8 (by kernel_rfl)) (fun _ => rfl)
   ·refine need_no 8 false true rfl (by decide) (fun a w' hin => ins_on hin 8 (by kernel_rfl)) (fun _ => rfl)
   ·refine need_no 8 false true rfl (by decide) (fun a w' hin => ins_on hin 8 (by kernel_rfl)) (fun _ => rfl)
   ·refine need_no 8 false true rfl (by decide) (fun a w' hin => ins_on hin 8 (by kernel_rfl)) (fun _ => rfl)
   ·refine need_no 8 false true rfl (by decide) (fun a w' hin => ins_on hin 8 (by kernel_rfl)) (fun _ => rfl)
   ·refine need_no 8 false true rfl (by decide) (fun a w' hin => ins_on hin 8 (by kernel_rfl)) (fun _ => rfl)
   ·refine need_no 8 false true rfl (by decide) (fun a w' hin => ins_on hin 8 (by kernel_rfl)) (fun _ => rfl)
   ·refine need_no 8 false true rfl (by decide) (fun a w' hin => ins_on hin 8 (by kernel_rfl)) (fun _ => rfl)
   ·refine need_no 8 false true rfl (by decide) (fun a w' hin => ins_on hin 8 (by kernel_rfl)) (fun _ => rfl)
   ·refine need_plain rfl (fun a w' hg hin => ?_)
    have ec : a.eval (.tmp 15) = _ := ins_on hin 8 (by kernel_rfl)
    exact upon_pick rfl ec rfl
   ·refine need_plain rfl (fun a w' hg hin => ?_)
    have e : a.eval (.tmp 25) = _ := ins_on hin 18 (by kernel_rfl)
    exact upon_assign rfl e
  ·intro vs w' hg ht
   obtain ⟨q7, q8, q9, q10, q11, q12, q13, q14, q15, q16, q17, q18, q19, q20, q21, q22, q23, q24, q25, q4, -⟩ := ht
   have r7 : vs 0 = .agg #[.int .i64 d.kind, .int .i64 d.key, .int .i64 d.num, .slice ad d.data.length cd] := q7
   have r8 : vs 1 = .int .i64 WD := q8
   have r9 : vs 2 = .bool true := q9
   have r10 : vs 3 = .bool true := q10
   have r11 : vs 4 = undef := q11
   have r12 : vs 5 = undef := q12
   have r13 : vs 6 = undef := q13
   have r14 : vs 7 = .bool true := q14
   have r15 : vs 8 = .bool true := q15
   have r16 : vs 9 = undef := q16
   have r17 : vs 10 = undef := q17
   have r18 : vs 11 = undef := q18
   have r19 : vs 12 = undef := q19
   have r20 : vs 13 = undef := q20
   have r21 : vs 14 = undef := q21
   have r22 : vs 15 = undef := q22
   have r23 : vs 16 = undef := q23
   have r24 : vs 17 = undef := q24
   have r25 : vs 18 = .bool true := q25
   have r4 : vs 19 = .bool true := q4
   clear q7 q8 q9 q10 q11 q12 q13 q14 q15 q16 q17 q18 q19 q20 q21 q22 q23 q24 q25 q4
   simp only [putAll, Act.put, List.setIfInBounds_toArray, List.set_cons_zero, List.set_cons_succ, r7, r8, r9, r10, r11, r12, r13, r14, r15, r16, r17, r18, r19, r20, r21, r22, r23, r24, r25, r4]
   clear r7 r8 r9 r10 r11 r12 r13 r14 r15 r16 r17 r18 r19 r20 r21 r22 r23 r24 r25 r4
   have gE := gW.trans hg
   clear hg hD hE gW hVW
   go_wp2_with fail
   go_ret
   exact ⟨rfl, gE⟩

set_option maxHeartbeats 8000000 in
theorem textTells_of (V : World → Prop) (hV : ∀ w w', V w → Grow w w' → V w') (TP : TPrintC V) (TR : TParseC V) (RP : RPrintC V) (RR : RParseC V) (s : List UInt8) (d : Dd) (ad : Option Addr) (cd : Nat) (w : World) (hw : V w) (hs : s.length ≤ 1048576) (hd : Bytes w (.slice ad d.data.length cd) d.data) (hld : d.data.length ≤ 140737488355328) :
  Calls Tryd.prog 3 #[.string ⟨s.toArray⟩, .agg #[.int .i64 d.kind, .int .i64 d.key, .int .i64 d.num, .slice ad d.data.length cd]] w fun r w' => r = .returned (.bool true) ∧ Grow w w' := by
 have gW := grow_alloc w (.cells #[.int .i64 d.kind, .int .i64 d.key, .int .i64 d.num, .slice ad d.data.length cd] 24)
 have hD := heap_new w #[.int .i64 d.kind, .int .i64 d.key, .int .i64 d.num, .slice ad d.data.length cd] 24
 obtain ⟨WD, hWD⟩ : ∃ WD, WD = wrongD d := ⟨_, rfl⟩
 have HWD : Hid _ := hWD
 clear hWD
 obtain ⟨pd, hpd⟩ : ∃ pd, pd = parseD s := ⟨_, rfl⟩
 have HPD : Hid _ := hpd
 clear hpd
 obtain ⟨x, pe⟩ := pd
 go_enter Tryd.func3, Tryd.ntmps3
 go_wp2_with fail
 refine (TR s _ (hV _ _ hw gW) (by omega)).mono ?_
 rw [← HPD.out]
 rintro r w5 ⟨v5, rfl, ⟨a5, c5, hv5, hb5⟩, g1⟩
 obtain rfl : v5 = .tuple #[.agg #[.int .i64 x.kind, .int .i64 x.key, .int .i64 x.num, .slice a5 x.data.length c5], .int .i64 pe] := hv5
 replace hb5 : Bytes w5 (.slice a5 x.data.length c5) x.data := hb5
 have g2 := grow_alloc w5 (.cells #[.int .i64 x.kind, .int .i64 x.key, .int .i64 x.num, .slice a5 x.data.length c5] 24)
 have hX := heap_new w5 #[.int .i64 x.kind, .int .i64 x.key, .int .i64 x.num, .slice a5 x.data.length c5] 24
 replace gW := gW.trans (g1.trans g2)
 replace hD := ((g1.trans g2).block _ (heap_lt hD)).trans hD
 replace hb5 := bytes_grow hb5 g2
 clear g1 g2
 go_wp2_with fail
 generalize World.alloc w5 _ = W5 at *
 generalize w5.heap.size = g5 at *
 refine (RR s _ (hV _ _ hw gW) hs).mono ?_
 rw [← HPD.out]
 rintro r w6 ⟨v6, rfl, ⟨a6, c6, hv6, hb6⟩, g1⟩
 obtain rfl : v6 = .tuple #[.agg #[.int .i64 x.kind, .int .i64 x.key, .int .i64 x.num, .slice a6 x.data.length c6], .int .i64 pe] := hv6
 replace hb6 : Bytes w6 (.slice a6 x.data.length c6) x.data := hb6
 have g2 := grow_alloc w6 (.cells #[.int .i64 x.kind, .int .i64 x.key, .int .i64 x.num, .slice a6 x.data.length c6] 24)
 have hY := heap_new w6 #[.int .i64 x.kind, .int .i64 x.key, .int .i64 x.num, .slice a6 x.data.length c6] 24
 replace gW := gW.trans (g1.trans g2)
 replace hD := ((g1.trans g2).block _ (heap_lt hD)).trans hD
 replace hX := ((g1.trans g2).block _ (heap_lt hX)).trans hX
 replace hb5 := bytes_grow hb5 (g1.trans g2)
 replace hb6 := bytes_grow hb6 g2
 clear g1 g2
 have hVW := hV _ _ hw gW
 have dpe : (pe == pe) = true := by simp
 have HSD : Hid (sameD x x = true) := (sameD_iff x x).2 rfl
 go_wp2_with fail
 generalize World.alloc w6 _ = W6 at *
 generalize w6.heap.size = g6 at *
 by_cases hw0 : WD = 0
 ·have HW0 : Hid (wrongD d = 0) := by show _ = _; rw [← HWD.out, hw0]
  have d0 : (WD != 0) = false := by simp [hw0]
  clear hw0
  refine wp_region_told [ex (.int .i64 pe), ex (.int .i64 pe), ex (.bool true), ex (.bool true), ex (.agg #[.int .i64 x.kind, .int .i64 x.key, .int .i64 x.num, .slice a5 x.data.length c5]), ex (.agg #[.int .i64 x.kind, .int .i64 x.key, .int .i64 x.num, .slice a6 x.data.length c6]), ex (.bool true), ex (.bool true), ex (.bool true), ex (.agg #[.int .i64 d.kind, .int .i64 d.key, .int .i64 d.num, .slice ad d.data.length cd]), ex (.int .i64 WD), ex (.bool false), ex (.bool false), ex (.agg #[.int .i64 d.kind, .int .i64 d.key, .int .i64 d.num, .slice ad d.data.length cd]), ex (.string ⟨(printD d).toArray⟩), ex (.agg #[.int .i64 d.kind, .int .i64 d.key, .int .i64 d.num, .slice ad d.data.length cd]), ex (.string ⟨(printD d).toArray⟩), ex (.bool true), ex (.bool true), ex (.bool true), ex (.bool true)] (by kernel_rfl) (by kernel_rfl) ⟨st_ex _, st_ex _, st_ex _, st_ex _, st_ex _, st_ex _, st_ex _, st_ex _, st_ex _, st_ex _, st_ex _, st_ex _, st_ex _, st_ex _, st_ex _, st_ex _, st_ex _, st_ex _, st_ex _, st_ex _, st_ex _, trivial⟩ ?_ ?_
  ·refine ⟨?_, ?_, ?_, ?_, ?_, ?_, ?_, ?_, ?_, ?_, ?_, ?_, ?_, ?_, ?_, ?_, ?_, ?_, ?_, ?_, ?_, trivial⟩
   ·refine need_plain rfl (fun a w' hg hin => ?_)
    have e : a.eval (.tmp 6) = .int .i64 pe := ins_ext hin 6 (by kernel_rfl)
    exact upon_move rfl e
   ·refine need_plain rfl (fun a w' hg hin => ?_)
    have e : a.eval (.tmp 8) = .int .i64 pe := ins_ext hin 8 (by kernel_rfl)
    exact upon_move rfl e
   ·refine need_plain rfl (fun a w' hg hin => ?_)
    have e19 : a.eval (.tmp 19) = _ := ins_on hin 0 (by kernel_rfl)
    have e20 : a.eval (.tmp 20) = _ := ins_on hin 1 (by kernel_rfl)
    refine upon_val ?_ rfl
    clear hin hg
    obtain ⟨ek, ef⟩ := evs a
    generalize a.eval = ev at *
    go_simp
    all_goals first | omega | (intro _; omega) | go_arith
   ·refine need_plain rfl (fun a w' hg hin => ?_)
    have e : a.eval (.tmp 21) = _ := ins_on hin 2 (by kernel_rfl)
    exact upon_move rfl e
   ·refine need_yes 3 true rfl (fun a w' hin => ins_on hin 3 (by kernel_rfl)) (fun a w' hg hin => ?_)
    have e5 : a.eval (.tmp 5) = .pointer (some ⟨g5, 0, none⟩) := ins_ext hin 5 (by kernel_rfl)
    have hx := (hg.block _ (heap_lt hX)).trans hX
    obtain ⟨z0, z1, z2, z3⟩ := box4 hx rfl rfl rfl rfl
    refine upon_val ?_ rfl
    clear hin hg hx
    obtain ⟨ek, ef⟩ := evs a
    generalize a.eval = ev at *
    go_simp
    all_goals first | omega | (intro _; omega) | go_arith
   ·refine need_yes 3 true rfl (fun a w' hin => ins_on hin 3 (by kernel_rfl)) (fun a w' hg hin => ?_)
    have e7 : a.eval (.tmp 7) = .pointer (some ⟨g6, 0, none⟩) := ins_ext hin 7 (by kernel_rfl)
    have hx := (hg.block _ (heap_lt hY)).trans hY
    obtain ⟨z0, z1, z2, z3⟩ := box4 hx rfl rfl rfl rfl
    refine upon_val ?_ rfl
    clear hin hg hx
    obtain ⟨ek, ef⟩ := evs a
    generalize a.eval = ev at *
    go_simp
    all_goals first | omega | (intro _; omega) | go_arith
   ·refine need_yes 3 true rfl (fun a w' hin => ins_on hin 3 (by kernel_rfl)) (fun a w' hg hin => ?_)
    have e23 : a.eval (.tmp 23) = _ := ins_on hin 4 (by kernel_rfl)
    have e24 : a.eval (.tmp 24) = _ := ins_on hin 5 (by kernel_rfl)
    refine upon_call (f := 8) (args := #[.agg #[.int .i64 x.kind, .int .i64 x.key, .int .i64 x.num, .slice a5 x.data.length c5], .agg #[.int .i64 x.kind, .int .i64 x.key, .int .i64 x.num, .slice a6 x.data.length c6]]) ?_ ((rsameD_any x x a5 a6 c5 c6 w' (bytes_grow hb5 hg) (bytes_grow hb6 hg)).mono ?_)
    ·clear hin hg
     obtain ⟨ek, ef⟩ := evs a
     generalize a.eval = ev at *
     go_simp
     all_goals first | omega | (intro _; omega) | go_arith
    ·rw [HSD.out]
     rintro r w2 ⟨rfl, g2⟩
     exact ⟨_, rfl, g2, rfl⟩
   ·refine need_plain rfl (fun a w' hg hin => ?_)
    have ec : a.eval (.tmp 22) = _ := ins_on hin 3 (by kernel_rfl)
    have e : a.eval (.tmp 25) = _ := ins_on hin 6 (by kernel_rfl)
    exact upon_pick rfl ec e
   ·refine need_plain rfl (fun a w' hg hin => ?_)
    have e : a.eval (.tmp 26) = _ := ins_on hin 7 (by kernel_rfl)
    exact upon_move rfl e
   ·refine need_yes 8 true rfl (fun a w' hin => ins_on hin 8 (by kernel_rfl)) (fun a w' hg hin => ?_)
    have e3 : a.eval (.tmp 3) = .pointer (some ⟨w.heap.size, 0, none⟩) := ins_ext hin 3 (by kernel_rfl)
    have hx := (hg.block _ (heap_lt hD)).trans hD
    obtain ⟨z0, z1, z2, z3⟩ := box4 hx rfl rfl rfl rfl
    refine upon_val ?_ rfl
    clear hin hg hx
    obtain ⟨ek, ef⟩ := evs a
    generalize a.eval = ev at *
    go_simp
    all_goals first | omega | (intro _; omega) | go_arith
   ·refine need_yes 8 true rfl (fun a w' hin => ins_on hin 8 (by kernel_rfl)) (fun a w' hg hin => ?_)
    have e28 : a.eval (.tmp 28) = _ := ins_on hin 9 (by kernel_rfl)
    refine upon_call (f := 9) (args := #[.agg #[.int .i64 d.kind, .int .i64 d.key, .int .i64 d.num, .slice ad d.data.length cd]]) ?_ ((rwrongD_any d ad cd w' hld).mono ?_)
    ·clear hin hg
     obtain ⟨ek, ef⟩ := evs a
     generalize a.eval = ev at *
     go_simp
     all_goals first | omega | (intro _; omega) | go_arith
    ·rw [← HWD.out]
     rintro r w2 ⟨rfl, g2⟩
     exact ⟨_, rfl, g2, rfl⟩
   ·refine need_yes 8 true rfl (fun a w' hin => ins_on hin 8 (by kernel_rfl)) (fun a w' hg hin => ?_)
    have e29 : a.eval (.tmp 29) = _ := ins_on hin 10 (by kernel_rfl)
    refine upon_val ?_ rfl
    clear hin hg
    obtain ⟨ek, ef⟩ := evs a
    generalize a.eval = ev at *
    go_simp
    all_goals first | omega | (intro _; omega) | go_arith
   ·refine need_yes 8 true rfl (fun a w' hin => ins_on hin 8 (by kernel_rfl)) (fun a w' hg hin => ?_)
    have e : a.eval (.tmp 30) = _ := ins_on hin 11 (by kernel_rfl)
    exact upon_move rfl e
   ·refine need_yes 12 false rfl (fun a w' hin => ins_on hin 12 (by kernel_rfl)) (fun a w' hg hin => ?_)
    have e3 : a.eval (.tmp 3) = .pointer (some ⟨w.heap.size, 0, none⟩) := ins_ext hin 3 (by kernel_rfl)
    have hx := (hg.block _ (heap_lt hD)).trans hD
    obtain ⟨z0, z1, z2, z3⟩ := box4 hx rfl rfl rfl rfl
    refine upon_val ?_ rfl
    clear hin hg hx
    obtain ⟨ek, ef⟩ := evs a
    generalize a.eval = ev at *
    go_simp
    all_goals first | omega | (intro _; omega) | go_arith
   ·refine need_yes 12 false rfl (fun a w' hin => ins_on hin 12 (by kernel_rfl)) (fun a w' hg hin => ?_)
    have e32 : a.eval (.tmp 32) = _ := ins_on hin 13 (by kernel_rfl)
    refine upon_call (f := 10) (args := #[.agg #[.int .i64 d.kind, .int .i64 d.key, .int .i64 d.num, .slice ad d.data.length cd]]) ?_ ((TP d ad cd w' (hV _ _ hVW hg) HW0.out (bytes_grow hd (gW.trans hg))).mono ?_)
    ·clear hin hg
     obtain ⟨ek, ef⟩ := evs a
     generalize a.eval = ev at *
     go_simp
     all_goals first | omega | (intro _; omega) | go_arith
    ·rintro r w2 ⟨rfl, g2⟩
     exact ⟨_, rfl, g2, rfl⟩
   ·refine need_yes 12 false rfl (fun a w' hin => ins_on hin 12 (by kernel_rfl)) (fun a w' hg hin => ?_)
    have e3 : a.eval (.tmp 3) = .pointer (some ⟨w.heap.size, 0, none⟩) := ins_ext hin 3 (by kernel_rfl)
    have hx := (hg.block _ (heap_lt hD)).trans hD
    obtain ⟨z0, z1, z2, z3⟩ := box4 hx rfl rfl rfl rfl
    refine upon_val ?_ rfl
    clear hin hg hx
    obtain ⟨ek, ef⟩ := evs a
    generalize a.eval = ev at *
    go_simp
    all_goals first | omega | (intro _; omega) | go_arith
   ·refine need_yes 12 false rfl (fun a w' hin => ins_on hin 12 (by kernel_rfl)) (fun a w' hg hin => ?_)
    have e34 : a.eval (.tmp 34) = _ := ins_on hin 15 (by kernel_rfl)
    refine upon_call (f := 11) (args := #[.agg #[.int .i64 d.kind, .int .i64 d.key, .int .i64 d.num, .slice ad d.data.length cd]]) ?_ ((RP d ad cd w' (hV _ _ hVW hg) HW0.out (bytes_grow hd (gW.trans hg))).mono ?_)
    ·clear hin hg
     obtain ⟨ek, ef⟩ := evs a
     generalize a.eval = ev at *
     go_simp
     all_goals first | omega | (intro _; omega) | go_arith
    ·rintro r w2 ⟨rfl, g2⟩
     exact ⟨_, rfl, g2, rfl⟩
   ·refine need_yes 12 false rfl (fun a w' hin => ins_on hin 12 (by kernel_rfl)) (fun a w' hg hin => ?_)
    have e33 : a.eval (.tmp 33) = _ := ins_on hin 14 (by kernel_rfl)
    have e35 : a.eval (.tmp 35) = _ := ins_on hin 16 (by kernel_rfl)
    refine upon_val ?_ rfl
    clear hin hg
    generalize printD d = p1 at *
    obtain ⟨ek, ef⟩ := evs a
    generalize a.eval = ev at *
    go_simp
    all_goals first | omega | (intro _; omega) | go_arith
   ·refine need_yes 8 true rfl (fun a w' hin => ins_on hin 8 (by kernel_rfl)) (fun a w' hg hin => ?_)
    have ec : a.eval (.tmp 31) = _ := ins_on hin 12 (by kernel_rfl)
    have e : a.eval (.tmp 36) = _ := ins_on hin 17 (by kernel_rfl)
    exact upon_pick rfl ec e
   ·refine need_plain rfl (fun a w' hg hin => ?_)
    have ec : a.eval (.tmp 27) = _ := ins_on hin 8 (by kernel_rfl)
    have e : a.eval (.tmp 37) = _ := ins_on hin 18 (by kernel_rfl)
    exact upon_pick rfl ec e
   ·refine need_plain rfl (fun a w' hg hin => ?_)
    have e : a.eval (.tmp 38) = _ := ins_on hin 19 (by kernel_rfl)
    exact upon_assign rfl e
  ·intro vs w' hg ht
   obtain ⟨q19, q20, q21, q22, q23, q24, q25, q26, q27, q28, q29, q30, q31, q32, q33, q34, q35, q36, q37, q38, q4, -⟩ := ht
   have r19 : vs 0 = .int .i64 pe := q19
   have r20 : vs 1 = .int .i64 pe := q20
   have r21 : vs 2 = .bool true := q21
   have r22 : vs 3 = .bool true := q22
   have r23 : vs 4 = .agg #[.int .i64 x.kind, .int .i64 x.key, .int .i64 x.num, .slice a5 x.data.length c5] := q23
   have r24 : vs 5 = .agg #[.int .i64 x.kind, .int .i64 x.key, .int .i64 x.num, .slice a6 x.data.length c6] := q24
   have r25 : vs 6 = .bool true := q25
   have r26 : vs 7 = .bool true := q26
   have r27 : vs 8 = .bool true := q27
   have r28 : vs 9 = .agg #[.int .i64 d.kind, .int .i64 d.key, .int .i64 d.num, .slice ad d.data.length cd] := q28
   have r29 : vs 10 = .int .i64 WD := q29
   have r30 : vs 11 = .bool false := q30
   have r31 : vs 12 = .bool false := q31
   have r32 : vs 13 = .agg #[.int .i64 d.kind, .int .i64 d.key, .int .i64 d.num, .slice ad d.data.length cd] := q32
   have r33 : vs 14 = .string ⟨(printD d).toArray⟩ := q33
   have r34 : vs 15 = .agg #[.int .i64 d.kind, .int .i64 d.key, .int .i64 d.num, .slice ad d.data.length cd] := q34
   have r35 : vs 16 = .string ⟨(printD d).toArray⟩ := q35
   have r36 : vs 17 = .bool true := q36
   have r37 : vs 18 = .bool true := q37
   have r38 : vs 19 = .bool true := q38
   have r4 : vs 20 = .bool true := q4
   clear q19 q20 q21 q22 q23 q24 q25 q26 q27 q28 q29 q30 q31 q32 q33 q34 q35 q36 q37 q38 q4
   simp only [putAll, Act.put, List.setIfInBounds_toArray, List.set_cons_zero, List.set_cons_succ, r19, r20, r21, r22, r23, r24, r25, r26, r27, r28, r29, r30, r31, r32, r33, r34, r35, r36, r37, r38, r4]
   clear r19 r20 r21 r22 r23 r24 r25 r26 r27 r28 r29 r30 r31 r32 r33 r34 r35 r36 r37 r38 r4
   have gE := gW.trans hg
   clear hg hD hX hY gW hVW hb5 hb6
   go_wp2_with fail
   go_ret
   exact ⟨rfl, gE⟩
 ·have d0 : (WD != 0) = true := by simp [hw0]
  clear hw0
  refine wp_region_told [ex (.int .i64 pe), ex (.int .i64 pe), ex (.bool true), ex (.bool true), ex (.agg #[.int .i64 x.kind, .int .i64 x.key, .int .i64 x.num, .slice a5 x.data.length c5]), ex (.agg #[.int .i64 x.kind, .int .i64 x.key, .int .i64 x.num, .slice a6 x.data.length c6]), ex (.bool true), ex (.bool true), ex (.bool true), ex (.agg #[.int .i64 d.kind, .int .i64 d.key, .int .i64 d.num, .slice ad d.data.length cd]), ex (.int .i64 WD), ex (.bool true), ex (.bool true), ex (undef), ex (undef), ex (undef), ex (undef), ex (undef), ex (.bool true), ex (.bool true), ex (.bool true)] (by kernel_rfl) (by kernel_rfl) ⟨st_ex _, st_ex _, st_ex _, st_ex _, st_ex _, st_ex _, st_ex _, st_ex _, st_ex _, st_ex _, st_ex _, st_ex _, st_ex _, st_ex _, st_ex _, st_ex _, st_ex _, st_ex _, st_ex _, st_ex _, st_ex _, trivial⟩ ?_ ?_
  ·refine ⟨?_, ?_, ?_, ?_, ?_, ?_, ?_, ?_, ?_, ?_, ?_, ?_, ?_, ?_, ?_, ?_, ?_, ?_, ?_, ?_, ?_, trivial⟩
   ·refine need_plain rfl (fun a w' hg hin => ?_)
    have e : a.eval (.tmp 6) = .int .i64 pe := ins_ext hin 6 (by kernel_rfl)
    exact upon_move rfl e
   ·refine need_plain rfl (fun a w' hg hin => ?_)
    have e : a.eval (.tmp 8) = .int .i64 pe := ins_ext hin 8 (by kernel_rfl)
    exact upon_move rfl e
   ·refine need_plain rfl (fun a w' hg hin => ?_)
    have e19 : a.eval (.tmp 19) = _ := ins_on hin 0 (by kernel_rfl)
    have e20 : a.eval (.tmp 20) = _ := ins_on hin 1 (by kernel_rfl)
    refine upon_val ?_ rfl
    clear hin hg
    obtain ⟨ek, ef⟩ := evs a
    generalize a.eval = ev at *
    go_simp
    all_goals first | omega | (intro _; omega) | go_arith
   ·refine need_plain rfl (fun a w' hg hin => ?_)
    have e : a.eval (.tmp 21) = _ := ins_on hin 2 (by kernel_rfl)
    exact upon_move rfl e
   ·refine need_yes 3 true rfl (fun a w' hin => ins_on hin 3 (by kernel_rfl)) (fun a w' hg hin => ?_)
    have e5 : a.eval (.tmp 5) = .pointer (some ⟨g5, 0, none⟩) := ins_ext hin 5 (by kernel_rfl)
    have hx := (hg.block _ (heap_lt hX)).trans hX
    obtain ⟨z0, z1, z2, z3⟩ := box4 hx rfl rfl rfl rfl
    refine upon_val ?_ rfl
    clear hin hg hx
    obtain ⟨ek, ef⟩ := evs a
    generalize a.eval = ev at *
    go_simp
    all_goals first | omega | (intro _; omega) | go_arith
   ·refine need_yes 3 true rfl (fun a w' hin => ins_on hin 3 (by kernel_rfl)) (fun a w' hg hin => ?_)
    have e7 : a.eval (.tmp 7) = .pointer (some ⟨g6, 0, none⟩) := ins_ext hin 7 (by kernel_rfl)
    have hx := (hg.block _ (heap_lt hY)).trans hY
    obtain ⟨z0, z1, z2, z3⟩ := box4 hx rfl rfl rfl rfl
    refine upon_val ?_ rfl
    clear hin hg hx
    obtain ⟨ek, ef⟩ := evs a
    generalize a.eval = ev at *
    go_simp
    all_goals first | omega | (intro _; omega) | go_arith
   ·refine need_yes 3 true rfl (fun a w' hin => ins_on hin 3 (by kernel_rfl)) (fun a w' hg hin => ?_)
    have e23 : a.eval (.tmp 23) = _ := ins_on hin 4 (by kernel_rfl)
    have e24 : a.eval (.tmp 24) = _ := ins_on hin 5 (by kernel_rfl)
    refine upon_call (f := 8) (args := #[.agg #[.int .i64 x.kind, .int .i64 x.key, .int .i64 x.num, .slice a5 x.data.length c5], .agg #[.int .i64 x.kind, .int .i64 x.key, .int .i64 x.num, .slice a6 x.data.length c6]]) ?_ ((rsameD_any x x a5 a6 c5 c6 w' (bytes_grow hb5 hg) (bytes_grow hb6 hg)).mono ?_)
    ·clear hin hg
     obtain ⟨ek, ef⟩ := evs a
     generalize a.eval = ev at *
     go_simp
     all_goals first | omega | (intro _; omega) | go_arith
    ·rw [HSD.out]
     rintro r w2 ⟨rfl, g2⟩
     exact ⟨_, rfl, g2, rfl⟩
   ·refine need_plain rfl (fun a w' hg hin => ?_)
    have ec : a.eval (.tmp 22) = _ := ins_on hin 3 (by kernel_rfl)
    have e : a.eval (.tmp 25) = _ := ins_on hin 6 (by kernel_rfl)
    exact upon_pick rfl ec e
   ·refine need_plain rfl (fun a w' hg hin => ?_)
    have e : a.eval (.tmp 26) = _ := ins_on hin 7 (by kernel_rfl)
    exact upon_move rfl e
   ·refine need_yes 8 true rfl (fun a w' hin => ins_on hin 8 (by kernel_rfl)) (fun a w' hg hin => ?_)
    have e3 : a.eval (.tmp 3) = .pointer (some ⟨w.heap.size, 0, none⟩) := ins_ext hin 3 (by kernel_rfl)
    have hx := (hg.block _ (heap_lt hD)).trans hD
    obtain ⟨z0, z1, z2, z3⟩ := box4 hx rfl rfl rfl rfl
    refine upon_val ?_ rfl
    clear hin hg hx
    obtain ⟨ek, ef⟩ := evs a
    generalize a.eval = ev at *
    go_simp
    all_goals first | omega | (intro _; omega) | go_arith
   ·refine need_yes 8 true rfl (fun a w' hin => ins_on hin 8 (by kernel_rfl)) (fun a w' hg hin => ?_)
    have e28 : a.eval (.tmp 28) = _ := ins_on hin 9 (by kernel_rfl)
    refine upon_call (f := 9) (args := #[.agg #[.int .i64 d.kind, .int .i64 d.key, .int .i64 d.num, .slice ad d.data.length cd]]) ?_ ((rwrongD_any d ad cd w' hld).mono ?_)
    ·clear hin hg
     obtain ⟨ek, ef⟩ := evs a
     generalize a.eval = ev at *
     go_simp
     all_goals first | omega | (intro _; omega) | go_arith
    ·rw [← HWD.out]
     rintro r w2 ⟨rfl, g2⟩
     exact ⟨_, rfl, g2, rfl⟩
   ·refine need_yes 8 true rfl (fun a w' hin => ins_on hin 8 (by kernel_rfl)) (fun a w' hg hin => ?_)
    have e29 : a.eval (.tmp 29) = _ := ins_on hin 10 (by kernel_rfl)
    refine upon_val ?_ rfl
    clear hin hg
    obtain ⟨ek, ef⟩ := evs a
    generalize a.eval = ev at *
    go_simp
    all_goals first | omega | (intro _; omega) | go_arith
   ·refine need_yes 8 true rfl (fun a w' hin => ins_on hin 8 (by kernel_rfl)) (fun a w' hg hin => ?_)
    have e : a.eval (.tmp 30) = _ := ins_on hin 11 (by kernel_rfl)
    exact upon_move rfl e
   ·refine need_no 12 false true rfl (by decide) (fun a w' hin => ins_on hin 12 (by kernel_rfl)) (fun _ => rfl)
   ·refine need_no 12 false true rfl (by decide) (fun a w' hin => ins_on hin 12 (by kernel_rfl)) (fun _ => rfl)
   ·refine need_no 12 false true rfl (by decide) (fun a w' hin => ins_on hin 12 (by kernel_rfl)) (fun _ => rfl)
   ·refine need_no 12 false true rfl (by decide) (fun a w' hin => ins_on hin 12 (by kernel_rfl)) (fun _ => rfl)
   ·refine need_no 12 false true rfl (by decide) (fun a w' hin => ins_on hin 12 (by kernel_rfl)) (fun _ => rfl)
   ·refine need_yes 8 true rfl (fun a w' hin => ins_on hin 8 (by kernel_rfl)) (fun a w' hg hin => ?_)
    have ec : a.eval (.tmp 31) = _ := ins_on hin 12 (by kernel_rfl)
    exact upon_pick rfl ec rfl
   ·refine need_plain rfl (fun a w' hg hin => ?_)
    have ec : a.eval (.tmp 27) = _ := ins_on hin 8 (by kernel_rfl)
    have e : a.eval (.tmp 37) = _ := ins_on hin 18 (by kernel_rfl)
    exact upon_pick rfl ec e
   ·refine need_plain rfl (fun a w' hg hin => ?_)
    have e : a.eval (.tmp 38) = _ := ins_on hin 19 (by kernel_rfl)
    exact upon_assign rfl e
  ·intro vs w' hg ht
   obtain ⟨q19, q20, q21, q22, q23, q24, q25, q26, q27, q28, q29, q30, q31, q32, q33, q34, q35, q36, q37, q38, q4, -⟩ := ht
   have r19 : vs 0 = .int .i64 pe := q19
   have r20 : vs 1 = .int .i64 pe := q20
   have r21 : vs 2 = .bool true := q21
   have r22 : vs 3 = .bool true := q22
   have r23 : vs 4 = .agg #[.int .i64 x.kind, .int .i64 x.key, .int .i64 x.num, .slice a5 x.data.length c5] := q23
   have r24 : vs 5 = .agg #[.int .i64 x.kind, .int .i64 x.key, .int .i64 x.num, .slice a6 x.data.length c6] := q24
   have r25 : vs 6 = .bool true := q25
   have r26 : vs 7 = .bool true := q26
   have r27 : vs 8 = .bool true := q27
   have r28 : vs 9 = .agg #[.int .i64 d.kind, .int .i64 d.key, .int .i64 d.num, .slice ad d.data.length cd] := q28
   have r29 : vs 10 = .int .i64 WD := q29
   have r30 : vs 11 = .bool true := q30
   have r31 : vs 12 = .bool true := q31
   have r32 : vs 13 = undef := q32
   have r33 : vs 14 = undef := q33
   have r34 : vs 15 = undef := q34
   have r35 : vs 16 = undef := q35
   have r36 : vs 17 = undef := q36
   have r37 : vs 18 = .bool true := q37
   have r38 : vs 19 = .bool true := q38
   have r4 : vs 20 = .bool true := q4
   clear q19 q20 q21 q22 q23 q24 q25 q26 q27 q28 q29 q30 q31 q32 q33 q34 q35 q36 q37 q38 q4
   simp only [putAll, Act.put, List.setIfInBounds_toArray, List.set_cons_zero, List.set_cons_succ, r19, r20, r21, r22, r23, r24, r25, r26, r27, r28, r29, r30, r31, r32, r33, r34, r35, r36, r37, r38, r4]
   clear r19 r20 r21 r22 r23 r24 r25 r26 r27 r28 r29 r30 r31 r32 r33 r34 r35 r36 r37 r38 r4
   have gE := gW.trans hg
   clear hg hD hX hY gW hVW hb5 hb6
   go_wp2_with fail
   go_ret
   exact ⟨rfl, gE⟩
end Go.Proofs.YtgaecpdokgklpabDoor
