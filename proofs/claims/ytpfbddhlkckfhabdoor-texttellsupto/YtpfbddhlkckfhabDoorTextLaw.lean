/-
  sclaw7.TextUnlike and TextTells answer true for all texts and deeds.
  Condition: the program's text keeps its contracts, and so does the document's (premises).
-/
import Derived.Test.YtpfbddhlkckfhabDoorTAlive
namespace Go.Proofs.YtpfbddhlkckfhabDoor
set_option maxRecDepth 100000
open Go.RowKit
open Go.Proofs.YtpfbddhlkckfhabDoor.Plain Go.Proofs.YtpfbddhlkckfhabDoor.Reg

set_option maxHeartbeats 8000000 in
theorem textUnlike_of (V : World → Prop) (hV : ∀ w w', V w → Grow w w' → V w') (TP : TPrintC V) (TR : TParseC V) (d e : Dd) (ad ae : Option Addr) (cd ce : Nat) (w : World) (hw : V w) (hd : Bytes w (.slice ad d.data.length cd) d.data) (he : Bytes w (.slice ae e.data.length ce) e.data) (hld : d.data.length ≤ 140737488355328) (hle : e.data.length ≤ 140737488355328) :
    Calls Tryd.prog 5 #[.agg #[.int .i64 d.kind, .int .i64 d.key, .int .i64 d.num, .slice ad d.data.length cd], .agg #[.int .i64 e.kind, .int .i64 e.key, .int .i64 e.num, .slice ae e.data.length ce]] w fun r w' => r = .returned (.bool true) ∧ Grow w w' := by
  have gW := grow_alloc2 w (.cells #[.int .i64 d.kind, .int .i64 d.key, .int .i64 d.num, .slice ad d.data.length cd] 24) (.cells #[.int .i64 e.kind, .int .i64 e.key, .int .i64 e.num, .slice ae e.data.length ce] 24)
  have hD0 := heap_new w #[.int .i64 d.kind, .int .i64 d.key, .int .i64 d.num, .slice ad d.data.length cd] 24
  have hE := heap_new (w.alloc (.cells #[.int .i64 d.kind, .int .i64 d.key, .int .i64 d.num, .slice ad d.data.length cd] 24)) #[.int .i64 e.kind, .int .i64 e.key, .int .i64 e.num, .slice ae e.data.length ce] 24
  have hD := ((grow_alloc (w.alloc (.cells #[.int .i64 d.kind, .int .i64 d.key, .int .i64 d.num, .slice ad d.data.length cd] 24)) (.cells #[.int .i64 e.kind, .int .i64 e.key, .int .i64 e.num, .slice ae e.data.length ce] 24)).block _ (heap_lt hD0)).trans hD0
  rw [World.size_alloc] at hE
  clear hD0
  obtain ⟨WD, hWD⟩ : ∃ WD, WD = wrongD d := ⟨_, rfl⟩
  obtain ⟨WE, hWE⟩ : ∃ WE, WE = wrongD e := ⟨_, rfl⟩
  have HWD : Hid _ := hWD
  have HWE : Hid _ := hWE
  clear hWD hWE
  go_enter Tryd.func5, Tryd.ntmps5
  go_wp2_with fail
  refine (talive_of V hV TP TR _ (hV _ _ hw gW)).mono ?_
  rintro r w1 ⟨rfl, g1⟩
  replace gW := gW.trans g1
  replace hD := (g1.block _ (heap_lt hD)).trans hD
  replace hE := (g1.block _ (heap_lt hE)).trans hE
  clear g1
  have hVW := hV _ _ hw gW
  go_wp2_with fail
  obtain ⟨W1, rfl⟩ : ∃ W1 : World, W1 = w1 := ⟨_, rfl⟩
  by_cases hw0 : WD = 0
  · have HW0 : Hid (wrongD d = 0) := by show _ = _; rw [← HWD.out, hw0]
    have d0 : (WD != 0) = false := by simp [hw0]
    clear hw0
    by_cases he0 : WE = 0
    · have HE0 : Hid (wrongD e = 0) := by show _ = _; rw [← HWE.out, he0]
      have d1 : (WE != 0) = false := by simp [he0]
      clear he0
      obtain ⟨B, hB⟩ : ∃ B, B = sameD d e := ⟨_, rfl⟩
      have HB : Hid (sameD d e = B) := hB.symm
      have dp : (printD d == printD e) = B := by
        rw [hB, Bool.eq_iff_iff, sameD_iff]
        simp only [beq_iff_eq]
        exact ⟨fun h => print_inj HW0.out HE0.out h, fun h => by rw [h]⟩
      have dB : (B == B) = true := by simp
      clear hB
      refine wp_region_told [ex (.agg #[.int .i64 d.kind, .int .i64 d.key, .int .i64 d.num, .slice ad d.data.length cd]), ex (.int .i64 WD), ex (.bool false), ex (.bool false), ex (.agg #[.int .i64 e.kind, .int .i64 e.key, .int .i64 e.num, .slice ae e.data.length ce]), ex (.int .i64 WE), ex (.bool false), ex (.bool false), ex (.bool false), ex (.agg #[.int .i64 d.kind, .int .i64 d.key, .int .i64 d.num, .slice ad d.data.length cd]), ex (.string ⟨(printD d).toArray⟩), ex (.agg #[.int .i64 e.kind, .int .i64 e.key, .int .i64 e.num, .slice ae e.data.length ce]), ex (.string ⟨(printD e).toArray⟩), ex (.bool B), ex (.agg #[.int .i64 d.kind, .int .i64 d.key, .int .i64 d.num, .slice ad d.data.length cd]), ex (.agg #[.int .i64 e.kind, .int .i64 e.key, .int .i64 e.num, .slice ae e.data.length ce]), ex (.bool B), ex (.bool true), ex (.bool true), ex (.bool true)] (by kernel_rfl) (by kernel_rfl) ⟨st_ex _, st_ex _, st_ex _, st_ex _, st_ex _, st_ex _, st_ex _, st_ex _, st_ex _, st_ex _, st_ex _, st_ex _, st_ex _, st_ex _, st_ex _, st_ex _, st_ex _, st_ex _, st_ex _, st_ex _, trivial⟩ ?_ ?_
      · refine ⟨?_, ?_, ?_, ?_, ?_, ?_, ?_, ?_, ?_, ?_, ?_, ?_, ?_, ?_, ?_, ?_, ?_, ?_, ?_, ?_, trivial⟩
        · refine need_plain rfl (fun a w' hg hin => ?_)
          have e2 : a.eval (.tmp 2) = .pointer (some ⟨w.heap.size, 0, none⟩) := ins_ext hin 2 (by kernel_rfl)
          have hx := (hg.block _ (heap_lt hD)).trans hD
          have z0 := box_cell hx 0 _ rfl
          have z1 := box_cell hx 1 _ rfl
          have z2 := box_cell hx 2 _ rfl
          have z3 := box_cell hx 3 _ rfl
          refine upon_val ?_ rfl
          clear hin hg hx
          have ek : ∀ x, a.eval (.const x) = x := fun _ => rfl
          have ef : ∀ f, a.eval (.func f) = .func (.func f) #[] #[] := fun _ => rfl
          generalize a.eval = ev at *
          go_simp
          all_goals first | done | omega | (intro _; omega) | go_arith
        · refine need_plain rfl (fun a w' hg hin => ?_)
          have e7 : a.eval (.tmp 7) = .agg #[.int .i64 d.kind, .int .i64 d.key, .int .i64 d.num, .slice ad d.data.length cd] := ins_on hin 0 (by kernel_rfl)
          refine upon_call (f := 9) (args := #[.agg #[.int .i64 d.kind, .int .i64 d.key, .int .i64 d.num, .slice ad d.data.length cd]]) ?_ ((rwrongD_any d ad cd w' hld).mono ?_)
          · clear hin hg
            have ek : ∀ x, a.eval (.const x) = x := fun _ => rfl
            have ef : ∀ f, a.eval (.func f) = .func (.func f) #[] #[] := fun _ => rfl
            generalize a.eval = ev at *
            go_simp
            all_goals first | done | omega | (intro _; omega) | go_arith
          · rw [← HWD.out]
            rintro r w2 ⟨rfl, g2⟩
            exact ⟨_, rfl, g2, rfl⟩
        · refine need_plain rfl (fun a w' hg hin => ?_)
          have e8 : a.eval (.tmp 8) = .int .i64 WD := ins_on hin 1 (by kernel_rfl)
          refine upon_val ?_ rfl
          clear hin hg
          have ek : ∀ x, a.eval (.const x) = x := fun _ => rfl
          have ef : ∀ f, a.eval (.func f) = .func (.func f) #[] #[] := fun _ => rfl
          generalize a.eval = ev at *
          go_simp
          all_goals first | done | omega | (intro _; omega) | go_arith
        · refine need_plain rfl (fun a w' hg hin => ?_)
          have e : a.eval (.tmp 9) = .bool false := ins_on hin 2 (by kernel_rfl)
          exact upon_move rfl e
        · refine need_yes 3 false rfl (fun a w' hin => ins_on hin 3 (by kernel_rfl)) (fun a w' hg hin => ?_)
          have e3 : a.eval (.tmp 3) = .pointer (some ⟨w.heap.size + 1, 0, none⟩) := ins_ext hin 3 (by kernel_rfl)
          have hx := (hg.block _ (heap_lt hE)).trans hE
          have z0 := box_cell hx 0 _ rfl
          have z1 := box_cell hx 1 _ rfl
          have z2 := box_cell hx 2 _ rfl
          have z3 := box_cell hx 3 _ rfl
          refine upon_val ?_ rfl
          clear hin hg hx
          have ek : ∀ x, a.eval (.const x) = x := fun _ => rfl
          have ef : ∀ f, a.eval (.func f) = .func (.func f) #[] #[] := fun _ => rfl
          generalize a.eval = ev at *
          go_simp
          all_goals first | done | omega | (intro _; omega) | go_arith
        · refine need_yes 3 false rfl (fun a w' hin => ins_on hin 3 (by kernel_rfl)) (fun a w' hg hin => ?_)
          have e11 : a.eval (.tmp 11) = .agg #[.int .i64 e.kind, .int .i64 e.key, .int .i64 e.num, .slice ae e.data.length ce] := ins_on hin 4 (by kernel_rfl)
          refine upon_call (f := 9) (args := #[.agg #[.int .i64 e.kind, .int .i64 e.key, .int .i64 e.num, .slice ae e.data.length ce]]) ?_ ((rwrongD_any e ae ce w' hle).mono ?_)
          · clear hin hg
            have ek : ∀ x, a.eval (.const x) = x := fun _ => rfl
            have ef : ∀ f, a.eval (.func f) = .func (.func f) #[] #[] := fun _ => rfl
            generalize a.eval = ev at *
            go_simp
            all_goals first | done | omega | (intro _; omega) | go_arith
          · rw [← HWE.out]
            rintro r w2 ⟨rfl, g2⟩
            exact ⟨_, rfl, g2, rfl⟩
        · refine need_yes 3 false rfl (fun a w' hin => ins_on hin 3 (by kernel_rfl)) (fun a w' hg hin => ?_)
          have e12 : a.eval (.tmp 12) = .int .i64 WE := ins_on hin 5 (by kernel_rfl)
          refine upon_val ?_ rfl
          clear hin hg
          have ek : ∀ x, a.eval (.const x) = x := fun _ => rfl
          have ef : ∀ f, a.eval (.func f) = .func (.func f) #[] #[] := fun _ => rfl
          generalize a.eval = ev at *
          go_simp
          all_goals first | done | omega | (intro _; omega) | go_arith
        · refine need_plain rfl (fun a w' hg hin => ?_)
          have ec : a.eval (.tmp 10) = .bool false := ins_on hin 3 (by kernel_rfl)
          have e : a.eval (.tmp 13) = .bool false := ins_on hin 6 (by kernel_rfl)
          exact upon_pick rfl ec e
        · refine need_plain rfl (fun a w' hg hin => ?_)
          have e : a.eval (.tmp 14) = .bool false := ins_on hin 7 (by kernel_rfl)
          exact upon_move rfl e
        · refine need_yes 8 false rfl (fun a w' hin => ins_on hin 8 (by kernel_rfl)) (fun a w' hg hin => ?_)
          have e2 : a.eval (.tmp 2) = .pointer (some ⟨w.heap.size, 0, none⟩) := ins_ext hin 2 (by kernel_rfl)
          have hx := (hg.block _ (heap_lt hD)).trans hD
          have z0 := box_cell hx 0 _ rfl
          have z1 := box_cell hx 1 _ rfl
          have z2 := box_cell hx 2 _ rfl
          have z3 := box_cell hx 3 _ rfl
          refine upon_val ?_ rfl
          clear hin hg hx
          have ek : ∀ x, a.eval (.const x) = x := fun _ => rfl
          have ef : ∀ f, a.eval (.func f) = .func (.func f) #[] #[] := fun _ => rfl
          generalize a.eval = ev at *
          go_simp
          all_goals first | done | omega | (intro _; omega) | go_arith
        · refine need_yes 8 false rfl (fun a w' hin => ins_on hin 8 (by kernel_rfl)) (fun a w' hg hin => ?_)
          have e16 : a.eval (.tmp 16) = .agg #[.int .i64 d.kind, .int .i64 d.key, .int .i64 d.num, .slice ad d.data.length cd] := ins_on hin 9 (by kernel_rfl)
          refine upon_call (f := 10) (args := #[.agg #[.int .i64 d.kind, .int .i64 d.key, .int .i64 d.num, .slice ad d.data.length cd]]) ?_ ((TP d ad cd w' (hV _ _ hVW hg) HW0.out (bytes_grow hd (gW.trans hg))).mono ?_)
          · clear hin hg
            have ek : ∀ x, a.eval (.const x) = x := fun _ => rfl
            have ef : ∀ f, a.eval (.func f) = .func (.func f) #[] #[] := fun _ => rfl
            generalize a.eval = ev at *
            go_simp
            all_goals first | done | omega | (intro _; omega) | go_arith
          · rintro r w2 ⟨rfl, g2⟩
            exact ⟨_, rfl, g2, rfl⟩
        · refine need_yes 8 false rfl (fun a w' hin => ins_on hin 8 (by kernel_rfl)) (fun a w' hg hin => ?_)
          have e3 : a.eval (.tmp 3) = .pointer (some ⟨w.heap.size + 1, 0, none⟩) := ins_ext hin 3 (by kernel_rfl)
          have hx := (hg.block _ (heap_lt hE)).trans hE
          have z0 := box_cell hx 0 _ rfl
          have z1 := box_cell hx 1 _ rfl
          have z2 := box_cell hx 2 _ rfl
          have z3 := box_cell hx 3 _ rfl
          refine upon_val ?_ rfl
          clear hin hg hx
          have ek : ∀ x, a.eval (.const x) = x := fun _ => rfl
          have ef : ∀ f, a.eval (.func f) = .func (.func f) #[] #[] := fun _ => rfl
          generalize a.eval = ev at *
          go_simp
          all_goals first | done | omega | (intro _; omega) | go_arith
        · refine need_yes 8 false rfl (fun a w' hin => ins_on hin 8 (by kernel_rfl)) (fun a w' hg hin => ?_)
          have e18 : a.eval (.tmp 18) = .agg #[.int .i64 e.kind, .int .i64 e.key, .int .i64 e.num, .slice ae e.data.length ce] := ins_on hin 11 (by kernel_rfl)
          refine upon_call (f := 10) (args := #[.agg #[.int .i64 e.kind, .int .i64 e.key, .int .i64 e.num, .slice ae e.data.length ce]]) ?_ ((TP e ae ce w' (hV _ _ hVW hg) HE0.out (bytes_grow he (gW.trans hg))).mono ?_)
          · clear hin hg
            have ek : ∀ x, a.eval (.const x) = x := fun _ => rfl
            have ef : ∀ f, a.eval (.func f) = .func (.func f) #[] #[] := fun _ => rfl
            generalize a.eval = ev at *
            go_simp
            all_goals first | done | omega | (intro _; omega) | go_arith
          · rintro r w2 ⟨rfl, g2⟩
            exact ⟨_, rfl, g2, rfl⟩
        · refine need_yes 8 false rfl (fun a w' hin => ins_on hin 8 (by kernel_rfl)) (fun a w' hg hin => ?_)
          have e17 : a.eval (.tmp 17) = .string ⟨(printD d).toArray⟩ := ins_on hin 10 (by kernel_rfl)
          have e19 : a.eval (.tmp 19) = .string ⟨(printD e).toArray⟩ := ins_on hin 12 (by kernel_rfl)
          refine upon_val ?_ rfl
          clear hin hg
          generalize printD d = p1 at *
          generalize printD e = p2 at *
          have ek : ∀ x, a.eval (.const x) = x := fun _ => rfl
          have ef : ∀ f, a.eval (.func f) = .func (.func f) #[] #[] := fun _ => rfl
          generalize a.eval = ev at *
          go_simp
          all_goals first | done | omega | (intro _; omega) | go_arith
        · refine need_yes 8 false rfl (fun a w' hin => ins_on hin 8 (by kernel_rfl)) (fun a w' hg hin => ?_)
          have e2 : a.eval (.tmp 2) = .pointer (some ⟨w.heap.size, 0, none⟩) := ins_ext hin 2 (by kernel_rfl)
          have hx := (hg.block _ (heap_lt hD)).trans hD
          have z0 := box_cell hx 0 _ rfl
          have z1 := box_cell hx 1 _ rfl
          have z2 := box_cell hx 2 _ rfl
          have z3 := box_cell hx 3 _ rfl
          refine upon_val ?_ rfl
          clear hin hg hx
          have ek : ∀ x, a.eval (.const x) = x := fun _ => rfl
          have ef : ∀ f, a.eval (.func f) = .func (.func f) #[] #[] := fun _ => rfl
          generalize a.eval = ev at *
          go_simp
          all_goals first | done | omega | (intro _; omega) | go_arith
        · refine need_yes 8 false rfl (fun a w' hin => ins_on hin 8 (by kernel_rfl)) (fun a w' hg hin => ?_)
          have e3 : a.eval (.tmp 3) = .pointer (some ⟨w.heap.size + 1, 0, none⟩) := ins_ext hin 3 (by kernel_rfl)
          have hx := (hg.block _ (heap_lt hE)).trans hE
          have z0 := box_cell hx 0 _ rfl
          have z1 := box_cell hx 1 _ rfl
          have z2 := box_cell hx 2 _ rfl
          have z3 := box_cell hx 3 _ rfl
          refine upon_val ?_ rfl
          clear hin hg hx
          have ek : ∀ x, a.eval (.const x) = x := fun _ => rfl
          have ef : ∀ f, a.eval (.func f) = .func (.func f) #[] #[] := fun _ => rfl
          generalize a.eval = ev at *
          go_simp
          all_goals first | done | omega | (intro _; omega) | go_arith
        · refine need_yes 8 false rfl (fun a w' hin => ins_on hin 8 (by kernel_rfl)) (fun a w' hg hin => ?_)
          have e21 : a.eval (.tmp 21) = .agg #[.int .i64 d.kind, .int .i64 d.key, .int .i64 d.num, .slice ad d.data.length cd] := ins_on hin 14 (by kernel_rfl)
          have e22 : a.eval (.tmp 22) = .agg #[.int .i64 e.kind, .int .i64 e.key, .int .i64 e.num, .slice ae e.data.length ce] := ins_on hin 15 (by kernel_rfl)
          refine upon_call (f := 8) (args := #[.agg #[.int .i64 d.kind, .int .i64 d.key, .int .i64 d.num, .slice ad d.data.length cd], .agg #[.int .i64 e.kind, .int .i64 e.key, .int .i64 e.num, .slice ae e.data.length ce]]) ?_ ((rsameD_any d e ad ae cd ce w' (bytes_grow hd (gW.trans hg)) (bytes_grow he (gW.trans hg))).mono ?_)
          · clear hin hg
            have ek : ∀ x, a.eval (.const x) = x := fun _ => rfl
            have ef : ∀ f, a.eval (.func f) = .func (.func f) #[] #[] := fun _ => rfl
            generalize a.eval = ev at *
            go_simp
            all_goals first | done | omega | (intro _; omega) | go_arith
          · rw [HB.out]
            rintro r w2 ⟨rfl, g2⟩
            exact ⟨_, rfl, g2, rfl⟩
        · refine need_yes 8 false rfl (fun a w' hin => ins_on hin 8 (by kernel_rfl)) (fun a w' hg hin => ?_)
          have e20 : a.eval (.tmp 20) = .bool B := ins_on hin 13 (by kernel_rfl)
          have e23 : a.eval (.tmp 23) = .bool B := ins_on hin 16 (by kernel_rfl)
          refine upon_val ?_ rfl
          clear hin hg
          have ek : ∀ x, a.eval (.const x) = x := fun _ => rfl
          have ef : ∀ f, a.eval (.func f) = .func (.func f) #[] #[] := fun _ => rfl
          generalize a.eval = ev at *
          go_simp
          all_goals first | done | omega | (intro _; omega) | go_arith
        · refine need_plain rfl (fun a w' hg hin => ?_)
          have ec : a.eval (.tmp 15) = .bool false := ins_on hin 8 (by kernel_rfl)
          have e : a.eval (.tmp 24) = .bool true := ins_on hin 17 (by kernel_rfl)
          exact upon_pick rfl ec e
        · refine need_plain rfl (fun a w' hg hin => ?_)
          have e : a.eval (.tmp 25) = .bool true := ins_on hin 18 (by kernel_rfl)
          exact upon_assign rfl e
      · intro vs w' hg ht
        obtain ⟨q7, q8, q9, q10, q11, q12, q13, q14, q15, q16, q17, q18, q19, q20, q21, q22, q23, q24, q25, q4, -⟩ := ht
        have r7 : vs 0 = .agg #[.int .i64 d.kind, .int .i64 d.key, .int .i64 d.num, .slice ad d.data.length cd] := q7
        have r8 : vs 1 = .int .i64 WD := q8
        have r9 : vs 2 = .bool false := q9
        have r10 : vs 3 = .bool false := q10
        have r11 : vs 4 = .agg #[.int .i64 e.kind, .int .i64 e.key, .int .i64 e.num, .slice ae e.data.length ce] := q11
        have r12 : vs 5 = .int .i64 WE := q12
        have r13 : vs 6 = .bool false := q13
        have r14 : vs 7 = .bool false := q14
        have r15 : vs 8 = .bool false := q15
        have r16 : vs 9 = .agg #[.int .i64 d.kind, .int .i64 d.key, .int .i64 d.num, .slice ad d.data.length cd] := q16
        have r17 : vs 10 = .string ⟨(printD d).toArray⟩ := q17
        have r18 : vs 11 = .agg #[.int .i64 e.kind, .int .i64 e.key, .int .i64 e.num, .slice ae e.data.length ce] := q18
        have r19 : vs 12 = .string ⟨(printD e).toArray⟩ := q19
        have r20 : vs 13 = .bool B := q20
        have r21 : vs 14 = .agg #[.int .i64 d.kind, .int .i64 d.key, .int .i64 d.num, .slice ad d.data.length cd] := q21
        have r22 : vs 15 = .agg #[.int .i64 e.kind, .int .i64 e.key, .int .i64 e.num, .slice ae e.data.length ce] := q22
        have r23 : vs 16 = .bool B := q23
        have r24 : vs 17 = .bool true := q24
        have r25 : vs 18 = .bool true := q25
        have r4 : vs 19 = .bool true := q4
        clear q7 q8 q9 q10 q11 q12 q13 q14 q15 q16 q17 q18 q19 q20 q21 q22 q23 q24 q25 q4
        simp only [putAll, Act.put, List.setIfInBounds_toArray, List.set_cons_zero, List.set_cons_succ, r7, r8, r9, r10, r11, r12, r13, r14, r15, r16, r17, r18, r19, r20, r21, r22, r23, r24, r25, r4]
        clear r7 r8 r9 r10 r11 r12 r13 r14 r15 r16 r17 r18 r19 r20 r21 r22 r23 r24 r25 r4
        have gE := gW.trans hg
        clear hg hD hE gW hVW
        go_wp2_with fail
        go_ret
        exact ⟨rfl, gE⟩
    · have d1 : (WE != 0) = true := by simp [he0]
      clear he0
      refine wp_region_told [ex (.agg #[.int .i64 d.kind, .int .i64 d.key, .int .i64 d.num, .slice ad d.data.length cd]), ex (.int .i64 WD), ex (.bool false), ex (.bool false), ex (.agg #[.int .i64 e.kind, .int .i64 e.key, .int .i64 e.num, .slice ae e.data.length ce]), ex (.int .i64 WE), ex (.bool true), ex (.bool true), ex (.bool true), ex (undef), ex (undef), ex (undef), ex (undef), ex (undef), ex (undef), ex (undef), ex (undef), ex (undef), ex (.bool true), ex (.bool true)] (by kernel_rfl) (by kernel_rfl) ⟨st_ex _, st_ex _, st_ex _, st_ex _, st_ex _, st_ex _, st_ex _, st_ex _, st_ex _, st_ex _, st_ex _, st_ex _, st_ex _, st_ex _, st_ex _, st_ex _, st_ex _, st_ex _, st_ex _, st_ex _, trivial⟩ ?_ ?_
      · refine ⟨?_, ?_, ?_, ?_, ?_, ?_, ?_, ?_, ?_, ?_, ?_, ?_, ?_, ?_, ?_, ?_, ?_, ?_, ?_, ?_, trivial⟩
        · refine need_plain rfl (fun a w' hg hin => ?_)
          have e2 : a.eval (.tmp 2) = .pointer (some ⟨w.heap.size, 0, none⟩) := ins_ext hin 2 (by kernel_rfl)
          have hx := (hg.block _ (heap_lt hD)).trans hD
          have z0 := box_cell hx 0 _ rfl
          have z1 := box_cell hx 1 _ rfl
          have z2 := box_cell hx 2 _ rfl
          have z3 := box_cell hx 3 _ rfl
          refine upon_val ?_ rfl
          clear hin hg hx
          have ek : ∀ x, a.eval (.const x) = x := fun _ => rfl
          have ef : ∀ f, a.eval (.func f) = .func (.func f) #[] #[] := fun _ => rfl
          generalize a.eval = ev at *
          go_simp
          all_goals first | done | omega | (intro _; omega) | go_arith
        · refine need_plain rfl (fun a w' hg hin => ?_)
          have e7 : a.eval (.tmp 7) = .agg #[.int .i64 d.kind, .int .i64 d.key, .int .i64 d.num, .slice ad d.data.length cd] := ins_on hin 0 (by kernel_rfl)
          refine upon_call (f := 9) (args := #[.agg #[.int .i64 d.kind, .int .i64 d.key, .int .i64 d.num, .slice ad d.data.length cd]]) ?_ ((rwrongD_any d ad cd w' hld).mono ?_)
          · clear hin hg
            have ek : ∀ x, a.eval (.const x) = x := fun _ => rfl
            have ef : ∀ f, a.eval (.func f) = .func (.func f) #[] #[] := fun _ => rfl
            generalize a.eval = ev at *
            go_simp
            all_goals first | done | omega | (intro _; omega) | go_arith
          · rw [← HWD.out]
            rintro r w2 ⟨rfl, g2⟩
            exact ⟨_, rfl, g2, rfl⟩
        · refine need_plain rfl (fun a w' hg hin => ?_)
          have e8 : a.eval (.tmp 8) = .int .i64 WD := ins_on hin 1 (by kernel_rfl)
          refine upon_val ?_ rfl
          clear hin hg
          have ek : ∀ x, a.eval (.const x) = x := fun _ => rfl
          have ef : ∀ f, a.eval (.func f) = .func (.func f) #[] #[] := fun _ => rfl
          generalize a.eval = ev at *
          go_simp
          all_goals first | done | omega | (intro _; omega) | go_arith
        · refine need_plain rfl (fun a w' hg hin => ?_)
          have e : a.eval (.tmp 9) = .bool false := ins_on hin 2 (by kernel_rfl)
          exact upon_move rfl e
        · refine need_yes 3 false rfl (fun a w' hin => ins_on hin 3 (by kernel_rfl)) (fun a w' hg hin => ?_)
          have e3 : a.eval (.tmp 3) = .pointer (some ⟨w.heap.size + 1, 0, none⟩) := ins_ext hin 3 (by kernel_rfl)
          have hx := (hg.block _ (heap_lt hE)).trans hE
          have z0 := box_cell hx 0 _ rfl
          have z1 := box_cell hx 1 _ rfl
          have z2 := box_cell hx 2 _ rfl
          have z3 := box_cell hx 3 _ rfl
          refine upon_val ?_ rfl
          clear hin hg hx
          have ek : ∀ x, a.eval (.const x) = x := fun _ => rfl
          have ef : ∀ f, a.eval (.func f) = .func (.func f) #[] #[] := fun _ => rfl
          generalize a.eval = ev at *
          go_simp
          all_goals first | done | omega | (intro _; omega) | go_arith
        · refine need_yes 3 false rfl (fun a w' hin => ins_on hin 3 (by kernel_rfl)) (fun a w' hg hin => ?_)
          have e11 : a.eval (.tmp 11) = .agg #[.int .i64 e.kind, .int .i64 e.key, .int .i64 e.num, .slice ae e.data.length ce] := ins_on hin 4 (by kernel_rfl)
          refine upon_call (f := 9) (args := #[.agg #[.int .i64 e.kind, .int .i64 e.key, .int .i64 e.num, .slice ae e.data.length ce]]) ?_ ((rwrongD_any e ae ce w' hle).mono ?_)
          · clear hin hg
            have ek : ∀ x, a.eval (.const x) = x := fun _ => rfl
            have ef : ∀ f, a.eval (.func f) = .func (.func f) #[] #[] := fun _ => rfl
            generalize a.eval = ev at *
            go_simp
            all_goals first | done | omega | (intro _; omega) | go_arith
          · rw [← HWE.out]
            rintro r w2 ⟨rfl, g2⟩
            exact ⟨_, rfl, g2, rfl⟩
        · refine need_yes 3 false rfl (fun a w' hin => ins_on hin 3 (by kernel_rfl)) (fun a w' hg hin => ?_)
          have e12 : a.eval (.tmp 12) = .int .i64 WE := ins_on hin 5 (by kernel_rfl)
          refine upon_val ?_ rfl
          clear hin hg
          have ek : ∀ x, a.eval (.const x) = x := fun _ => rfl
          have ef : ∀ f, a.eval (.func f) = .func (.func f) #[] #[] := fun _ => rfl
          generalize a.eval = ev at *
          go_simp
          all_goals first | done | omega | (intro _; omega) | go_arith
        · refine need_plain rfl (fun a w' hg hin => ?_)
          have ec : a.eval (.tmp 10) = .bool false := ins_on hin 3 (by kernel_rfl)
          have e : a.eval (.tmp 13) = .bool true := ins_on hin 6 (by kernel_rfl)
          exact upon_pick rfl ec e
        · refine need_plain rfl (fun a w' hg hin => ?_)
          have e : a.eval (.tmp 14) = .bool true := ins_on hin 7 (by kernel_rfl)
          exact upon_move rfl e
        · refine need_no 8 false true rfl (by decide) (fun a w' hin => ins_on hin 8 (by kernel_rfl)) (fun _ => rfl)
        · refine need_no 8 false true rfl (by decide) (fun a w' hin => ins_on hin 8 (by kernel_rfl)) (fun _ => rfl)
        · refine need_no 8 false true rfl (by decide) (fun a w' hin => ins_on hin 8 (by kernel_rfl)) (fun _ => rfl)
        · refine need_no 8 false true rfl (by decide) (fun a w' hin => ins_on hin 8 (by kernel_rfl)) (fun _ => rfl)
        · refine need_no 8 false true rfl (by decide) (fun a w' hin => ins_on hin 8 (by kernel_rfl)) (fun _ => rfl)
        · refine need_no 8 false true rfl (by decide) (fun a w' hin => ins_on hin 8 (by kernel_rfl)) (fun _ => rfl)
        · refine need_no 8 false true rfl (by decide) (fun a w' hin => ins_on hin 8 (by kernel_rfl)) (fun _ => rfl)
        · refine need_no 8 false true rfl (by decide) (fun a w' hin => ins_on hin 8 (by kernel_rfl)) (fun _ => rfl)
        · refine need_no 8 false true rfl (by decide) (fun a w' hin => ins_on hin 8 (by kernel_rfl)) (fun _ => rfl)
        · refine need_plain rfl (fun a w' hg hin => ?_)
          have ec : a.eval (.tmp 15) = .bool true := ins_on hin 8 (by kernel_rfl)
          exact upon_pick rfl ec rfl
        · refine need_plain rfl (fun a w' hg hin => ?_)
          have e : a.eval (.tmp 25) = .bool true := ins_on hin 18 (by kernel_rfl)
          exact upon_assign rfl e
      · intro vs w' hg ht
        obtain ⟨q7, q8, q9, q10, q11, q12, q13, q14, q15, q16, q17, q18, q19, q20, q21, q22, q23, q24, q25, q4, -⟩ := ht
        have r7 : vs 0 = .agg #[.int .i64 d.kind, .int .i64 d.key, .int .i64 d.num, .slice ad d.data.length cd] := q7
        have r8 : vs 1 = .int .i64 WD := q8
        have r9 : vs 2 = .bool false := q9
        have r10 : vs 3 = .bool false := q10
        have r11 : vs 4 = .agg #[.int .i64 e.kind, .int .i64 e.key, .int .i64 e.num, .slice ae e.data.length ce] := q11
        have r12 : vs 5 = .int .i64 WE := q12
        have r13 : vs 6 = .bool true := q13
        have r14 : vs 7 = .bool true := q14
        have r15 : vs 8 = .bool true := q15
        have r16 : vs 9 = undef := q16
        have r17 : vs 10 = undef := q17
        have r18 : vs 11 = undef := q18
        have r19 : vs 12 = undef := q19
        have r20 : vs 13 = undef := q20
        have r21 : vs 14 = undef := q21
        have r22 : vs 15 = undef := q22
        have r23 : vs 16 = undef := q23
        have r24 : vs 17 = undef := q24
        have r25 : vs 18 = .bool true := q25
        have r4 : vs 19 = .bool true := q4
        clear q7 q8 q9 q10 q11 q12 q13 q14 q15 q16 q17 q18 q19 q20 q21 q22 q23 q24 q25 q4
        simp only [putAll, Act.put, List.setIfInBounds_toArray, List.set_cons_zero, List.set_cons_succ, r7, r8, r9, r10, r11, r12, r13, r14, r15, r16, r17, r18, r19, r20, r21, r22, r23, r24, r25, r4]
        clear r7 r8 r9 r10 r11 r12 r13 r14 r15 r16 r17 r18 r19 r20 r21 r22 r23 r24 r25 r4
        have gE := gW.trans hg
        clear hg hD hE gW hVW
        go_wp2_with fail
        go_ret
        exact ⟨rfl, gE⟩
  · have d0 : (WD != 0) = true := by simp [hw0]
    clear hw0
    refine wp_region_told [ex (.agg #[.int .i64 d.kind, .int .i64 d.key, .int .i64 d.num, .slice ad d.data.length cd]), ex (.int .i64 WD), ex (.bool true), ex (.bool true), ex (undef), ex (undef), ex (undef), ex (.bool true), ex (.bool true), ex (undef), ex (undef), ex (undef), ex (undef), ex (undef), ex (undef), ex (undef), ex (undef), ex (undef), ex (.bool true), ex (.bool true)] (by kernel_rfl) (by kernel_rfl) ⟨st_ex _, st_ex _, st_ex _, st_ex _, st_ex _, st_ex _, st_ex _, st_ex _, st_ex _, st_ex _, st_ex _, st_ex _, st_ex _, st_ex _, st_ex _, st_ex _, st_ex _, st_ex _, st_ex _, st_ex _, trivial⟩ ?_ ?_
    · refine ⟨?_, ?_, ?_, ?_, ?_, ?_, ?_, ?_, ?_, ?_, ?_, ?_, ?_, ?_, ?_, ?_, ?_, ?_, ?_, ?_, trivial⟩
      · refine need_plain rfl (fun a w' hg hin => ?_)
        have e2 : a.eval (.tmp 2) = .pointer (some ⟨w.heap.size, 0, none⟩) := ins_ext hin 2 (by kernel_rfl)
        have hx := (hg.block _ (heap_lt hD)).trans hD
        have z0 := box_cell hx 0 _ rfl
        have z1 := box_cell hx 1 _ rfl
        have z2 := box_cell hx 2 _ rfl
        have z3 := box_cell hx 3 _ rfl
        refine upon_val ?_ rfl
        clear hin hg hx
        have ek : ∀ x, a.eval (.const x) = x := fun _ => rfl
        have ef : ∀ f, a.eval (.func f) = .func (.func f) #[] #[] := fun _ => rfl
        generalize a.eval = ev at *
        go_simp
        all_goals first | done | omega | (intro _; omega) | go_arith
      · refine need_plain rfl (fun a w' hg hin => ?_)
        have e7 : a.eval (.tmp 7) = .agg #[.int .i64 d.kind, .int .i64 d.key, .int .i64 d.num, .slice ad d.data.length cd] := ins_on hin 0 (by kernel_rfl)
        refine upon_call (f := 9) (args := #[.agg #[.int .i64 d.kind, .int .i64 d.key, .int .i64 d.num, .slice ad d.data.length cd]]) ?_ ((rwrongD_any d ad cd w' hld).mono ?_)
        · clear hin hg
          have ek : ∀ x, a.eval (.const x) = x := fun _ => rfl
          have ef : ∀ f, a.eval (.func f) = .func (.func f) #[] #[] := fun _ => rfl
          generalize a.eval = ev at *
          go_simp
          all_goals first | done | omega | (intro _; omega) | go_arith
        · rw [← HWD.out]
          rintro r w2 ⟨rfl, g2⟩
          exact ⟨_, rfl, g2, rfl⟩
      · refine need_plain rfl (fun a w' hg hin => ?_)
        have e8 : a.eval (.tmp 8) = .int .i64 WD := ins_on hin 1 (by kernel_rfl)
        refine upon_val ?_ rfl
        clear hin hg
        have ek : ∀ x, a.eval (.const x) = x := fun _ => rfl
        have ef : ∀ f, a.eval (.func f) = .func (.func f) #[] #[] := fun _ => rfl
        generalize a.eval = ev at *
        go_simp
        all_goals first | done | omega | (intro _; omega) | go_arith
      · refine need_plain rfl (fun a w' hg hin => ?_)
        have e : a.eval (.tmp 9) = .bool true := ins_on hin 2 (by kernel_rfl)
        exact upon_move rfl e
      · refine need_no 3 false true rfl (by decide) (fun a w' hin => ins_on hin 3 (by kernel_rfl)) (fun _ => rfl)
      · refine need_no 3 false true rfl (by decide) (fun a w' hin => ins_on hin 3 (by kernel_rfl)) (fun _ => rfl)
      · refine need_no 3 false true rfl (by decide) (fun a w' hin => ins_on hin 3 (by kernel_rfl)) (fun _ => rfl)
      · refine need_plain rfl (fun a w' hg hin => ?_)
        have ec : a.eval (.tmp 10) = .bool true := ins_on hin 3 (by kernel_rfl)
        exact upon_pick rfl ec rfl
      · refine need_plain rfl (fun a w' hg hin => ?_)
        have e : a.eval (.tmp 14) = .bool true := ins_on hin 7 (by kernel_rfl)
        exact upon_move rfl e
      · refine need_no 8 false true rfl (by decide) (fun a w' hin => ins_on hin 8 (by kernel_rfl)) (fun _ => rfl)
      · refine need_no 8 false true rfl (by decide) (fun a w' hin => ins_on hin 8 (by kernel_rfl)) (fun _ => rfl)
      · refine need_no 8 false true rfl (by decide) (fun a w' hin => ins_on hin 8 (by kernel_rfl)) (fun _ => rfl)
      · refine need_no 8 false true rfl (by decide) (fun a w' hin => ins_on hin 8 (by kernel_rfl)) (fun _ => rfl)
      · refine need_no 8 false true rfl (by decide) (fun a w' hin => ins_on hin 8 (by kernel_rfl)) (fun _ => rfl)
      · refine need_no 8 false true rfl (by decide) (fun a w' hin => ins_on hin 8 (by kernel_rfl)) (fun _ => rfl)
      · refine need_no 8 false true rfl (by decide) (fun a w' hin => ins_on hin 8 (by kernel_rfl)) (fun _ => rfl)
      · refine need_no 8 false true rfl (by decide) (fun a w' hin => ins_on hin 8 (by kernel_rfl)) (fun _ => rfl)
      · refine need_no 8 false true rfl (by decide) (fun a w' hin => ins_on hin 8 (by kernel_rfl)) (fun _ => rfl)
      · refine need_plain rfl (fun a w' hg hin => ?_)
        have ec : a.eval (.tmp 15) = .bool true := ins_on hin 8 (by kernel_rfl)
        exact upon_pick rfl ec rfl
      · refine need_plain rfl (fun a w' hg hin => ?_)
        have e : a.eval (.tmp 25) = .bool true := ins_on hin 18 (by kernel_rfl)
        exact upon_assign rfl e
    · intro vs w' hg ht
      obtain ⟨q7, q8, q9, q10, q11, q12, q13, q14, q15, q16, q17, q18, q19, q20, q21, q22, q23, q24, q25, q4, -⟩ := ht
      have r7 : vs 0 = .agg #[.int .i64 d.kind, .int .i64 d.key, .int .i64 d.num, .slice ad d.data.length cd] := q7
      have r8 : vs 1 = .int .i64 WD := q8
      have r9 : vs 2 = .bool true := q9
      have r10 : vs 3 = .bool true := q10
      have r11 : vs 4 = undef := q11
      have r12 : vs 5 = undef := q12
      have r13 : vs 6 = undef := q13
      have r14 : vs 7 = .bool true := q14
      have r15 : vs 8 = .bool true := q15
      have r16 : vs 9 = undef := q16
      have r17 : vs 10 = undef := q17
      have r18 : vs 11 = undef := q18
      have r19 : vs 12 = undef := q19
      have r20 : vs 13 = undef := q20
      have r21 : vs 14 = undef := q21
      have r22 : vs 15 = undef := q22
      have r23 : vs 16 = undef := q23
      have r24 : vs 17 = undef := q24
      have r25 : vs 18 = .bool true := q25
      have r4 : vs 19 = .bool true := q4
      clear q7 q8 q9 q10 q11 q12 q13 q14 q15 q16 q17 q18 q19 q20 q21 q22 q23 q24 q25 q4
      simp only [putAll, Act.put, List.setIfInBounds_toArray, List.set_cons_zero, List.set_cons_succ, r7, r8, r9, r10, r11, r12, r13, r14, r15, r16, r17, r18, r19, r20, r21, r22, r23, r24, r25, r4]
      clear r7 r8 r9 r10 r11 r12 r13 r14 r15 r16 r17 r18 r19 r20 r21 r22 r23 r24 r25 r4
      have gE := gW.trans hg
      clear hg hD hE gW hVW
      go_wp2_with fail
      go_ret
      exact ⟨rfl, gE⟩

end Go.Proofs.YtpfbddhlkckfhabDoor
