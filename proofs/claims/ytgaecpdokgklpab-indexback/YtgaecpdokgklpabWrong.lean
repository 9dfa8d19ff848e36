/-
  What block.Wrong and the document's Wrong tell of any record: the number of what is wrong with it.
  Condition: the record's data lie in memory.
-/
import Derived.Test.YtgaecpdokgklpabJSum
namespace Go.Proofs.Ytgaecpdokgklpab
set_option maxRecDepth 100000
open Go.RowKit
open Go.Proofs.Ytgaecpdokgklpab.Plain Go.Proofs.Ytgaecpdokgklpab.Reg

set_option maxHeartbeats 400000 in
theorem inRange_any (k y n : Int) (l : List UInt8) (v : Value) (w : World) :
  Calls Try.prog 116 #[.agg #[.int .i64 k, .int .i64 y, .int .i64 n, v]] w fun e w' => e = .returned (.bool (inRangeB ⟨k, y, n, l⟩)) ∧ Grow w w' := by
 go_enter Try.func116, Try.ntmps116
 go_wp2
 all_goals go_ret
 all_goals refine ⟨?_, grow_alloc _ _⟩
 all_goals simp_all [inRangeB]
 all_goals first | omega | (rw [Bool.eq_iff_iff]; simp)

set_option maxHeartbeats 400000 in
theorem maxData_any (k : Int) (w : World) :
  Calls Try.prog 117 #[.int .i64 k] w fun e w' => e = .returned (.int .i64 (maxData k)) ∧ w = w' := by
 go_enter Try.func117, Try.ntmps117
 go_wp2
 all_goals go_ret
 all_goals simp_all [maxData]

set_option maxHeartbeats 400000 in
theorem wrong_kind (k y n : Int) (l : List UInt8) (v : Value) (w : World) (hk : k < 1 ∨ 3 < k) :
  Calls Try.prog 108 #[.agg #[.int .i64 k, .int .i64 y, .int .i64 n, v]] w fun e w' => e = .returned (.int .i64 (wrong ⟨k, y, n, l⟩)) ∧ Grow w w' := by
 have HW : Hid (wrong ⟨k, y, n, l⟩ = 1) := by show wrong _ = 1; unfold wrong; rw [if_pos (by exact hk)]
 have d1 : (k != 1) = true := by simp; omega
 have d2 : (k != 2) = true := by simp; omega
 have d3 : (k != 3) = true := by simp; omega
 go_enter Try.func108, Try.ntmps108
 go_wp2_with fail
 go_ret
 exact ⟨ret_int HW.out.symm, grow_alloc _ _⟩

set_option maxHeartbeats 1000000 in
theorem wrong_in (k y n : Int) (l : List UInt8) (v : Value) (w : World) (hk : 1 ≤ k ∧ k ≤ 3) (hv : Bytes w v l) :
  Calls Try.prog 108 #[.agg #[.int .i64 k, .int .i64 y, .int .i64 n, v]] w fun e w' => e = .returned (.int .i64 (wrong ⟨k, y, n, l⟩)) ∧ Grow w w' := by
 obtain ⟨ao, cap, rfl, -, -⟩ := bytes_src hv
 clear hv
 have HK : Hid (k = 1 ∨ k = 2 ∨ k = 3) := by show _ ∨ _; omega
 have hw : wrong ⟨k, y, n, l⟩ = if inRangeB ⟨k, y, n, l⟩ = false then 3 else if maxData k < (l.length : Int) then 4 else 0 := by
  unfold wrong; rw [if_neg (by simp; omega)]
 clear hk
 cases hr : inRangeB ⟨k, y, n, l⟩ with
 | false =>
  have HF : Hid (wrong ⟨k, y, n, l⟩ = 3) := by show wrong _ = 3; rw [hw, hr]; rfl
  have HR : Hid (inRangeB ⟨k, y, n, l⟩ = false) := hr
  clear hw hr
  rcases HK.out with h | h | h
  all_goals
   first
    | (have d1 : (k != 1) = false := by simp [h])
    | (have d1 : (k != 1) = true := by simp [h]); (have d2 : (k != 2) = false := by simp [h])
    | (have d1 : (k != 1) = true := by simp [h]); (have d2 : (k != 2) = true := by simp [h]); (have d3 : (k != 3) = false := by simp [h])
   clear h
   go_enter Try.func108, Try.ntmps108
   go_wp2_with fail
   refine (inRange_any k y n l _ _).mono ?_
   rw [HR.out]
   rintro e w1 ⟨rfl, g1⟩
   go_wp2_with fail
   go_ret
   exact ⟨ret_int HF.out.symm, (grow_alloc _ _).trans g1⟩
 | true =>
  have HW : Hid (wrong ⟨k, y, n, l⟩ = if maxData k < (l.length : Int) then 4 else 0) := by show wrong _ = _; rw [hw, hr]; rfl
  have HR : Hid (inRangeB ⟨k, y, n, l⟩ = true) := hr
  clear hw hr
  rcases HK.out with h | h | h
  ·have d1 : (k != 1) = false := by simp [h]
   clear h
   go_enter Try.func108, Try.ntmps108
   go_wp2_with fail
   refine (inRange_any k y n l _ _).mono ?_
   rw [HR.out]
   rintro e w1 ⟨rfl, g1⟩
   have g : Grow w w1 := (grow_alloc _ _).trans g1
   have hc0 : w1.cell? ⟨w.heap.size, 0, none⟩ = some (.int .i64 k) := (Below.cell g1 (p := ⟨w.heap.size, 0, none⟩) (by simp)).trans (by simp)
   have hc3 : w1.cell? ⟨w.heap.size, 3, none⟩ = some (.slice ao l.length cap) := (Below.cell g1 (p := ⟨w.heap.size, 3, none⟩) (by simp)).trans (by simp)
   clear g1
   go_wp2_with fail
   refine wp_region_told [ex (.pointer (some ⟨w.heap.size, 3, none⟩)), ex (.slice ao l.length cap), ex (.int .i64 l.length), ex (.pointer (some ⟨w.heap.size, 0, none⟩)), ex (.int .i64 k), ex (.int .i64 (maxData k)), ex (.bool (decide (maxData k < (l.length : Int)))), ex (.bool (decide (maxData k < (l.length : Int))))] (by kernel_rfl) (by kernel_rfl) ⟨st_ex _, st_ex _, st_ex _, st_ex _, st_ex _, st_ex _, st_ex _, st_ex _, trivial⟩ ?_ ?_
   ·refine ⟨?_, ?_, ?_, ?_, ?_, ?_, ?_, ?_, trivial⟩
    ·refine need_plain rfl (fun a w' hg hin => ?_)
     have e1 : a.eval (.tmp 1) = .pointer (some ⟨w.heap.size, 0, none⟩) := ins_ext hin 1 (by kernel_rfl)
     refine upon_val ?_ rfl
     clear hin hg
     obtain ⟨ek, ef⟩ := evs a
     generalize a.eval = ev at *
     go_simp
     all_goals first | omega | (intro _; omega) | go_arith
    ·refine need_plain rfl (fun a w' hg hin => ?_)
     have e22 : a.eval (.tmp 22) = _ := ins_on hin 0 (by kernel_rfl)
     have h1 := (Below.cell hg (cell_lt hc3)).trans hc3
     refine upon_val ?_ rfl
     clear hin hg
     obtain ⟨ek, ef⟩ := evs a
     generalize a.eval = ev at *
     go_simp
     all_goals first | omega | (intro _; omega) | go_arith
    ·refine need_plain rfl (fun a w' hg hin => ?_)
     have e23 : a.eval (.tmp 23) = _ := ins_on hin 1 (by kernel_rfl)
     refine upon_val ?_ rfl
     clear hin hg
     obtain ⟨ek, ef⟩ := evs a
     generalize a.eval = ev at *
     go_simp
     all_goals first | omega | (intro _; omega) | go_arith
    ·refine need_plain rfl (fun a w' hg hin => ?_)
     have e1 : a.eval (.tmp 1) = .pointer (some ⟨w.heap.size, 0, none⟩) := ins_ext hin 1 (by kernel_rfl)
     refine upon_val ?_ rfl
     clear hin hg
     obtain ⟨ek, ef⟩ := evs a
     generalize a.eval = ev at *
     go_simp
     all_goals first | omega | (intro _; omega) | go_arith
    ·refine need_plain rfl (fun a w' hg hin => ?_)
     have e25 : a.eval (.tmp 25) = _ := ins_on hin 3 (by kernel_rfl)
     have h1 := (Below.cell hg (cell_lt hc0)).trans hc0
     refine upon_val ?_ rfl
     clear hin hg
     obtain ⟨ek, ef⟩ := evs a
     generalize a.eval = ev at *
     go_simp
     all_goals first | omega | (intro _; omega) | go_arith
    ·refine need_plain rfl (fun a w' hg hin => ?_)
     have e26 : a.eval (.tmp 26) = _ := ins_on hin 4 (by kernel_rfl)
     refine upon_call (f := 117) (args := #[.int .i64 k]) ?_ ((maxData_any k w').mono ?_)
     ·clear hin hg
      obtain ⟨ek, ef⟩ := evs a
      generalize a.eval = ev at *
      go_simp
      all_goals first | omega | (intro _; omega) | go_arith
     ·rintro e w2 ⟨rfl, rfl⟩
      exact ⟨_, rfl, Grow.refl _, rfl⟩
    ·refine need_plain rfl (fun a w' hg hin => ?_)
     have e24 : a.eval (.tmp 24) = _ := ins_on hin 2 (by kernel_rfl)
     have e27 : a.eval (.tmp 27) = _ := ins_on hin 5 (by kernel_rfl)
     refine upon_val ?_ rfl
     clear hin hg
     obtain ⟨ek, ef⟩ := evs a
     generalize a.eval = ev at *
     go_simp
     all_goals first | omega | (intro _; omega) | go_arith
    ·refine need_plain rfl (fun a w' hg hin => ?_)
     have e : a.eval (.tmp 28) = _ := ins_on hin 6 (by kernel_rfl)
     exact upon_assign rfl e
   ·intro vs w' hg ht
    obtain ⟨q22, q23, q24, q25, q26, q27, q28, q21, -⟩ := ht
    have r22 : vs 0 = .pointer (some ⟨w.heap.size, 3, none⟩) := q22
    have r23 : vs 1 = .slice ao l.length cap := q23
    have r24 : vs 2 = .int .i64 l.length := q24
    have r25 : vs 3 = .pointer (some ⟨w.heap.size, 0, none⟩) := q25
    have r26 : vs 4 = .int .i64 k := q26
    have r27 : vs 5 = .int .i64 (maxData k) := q27
    have r28 : vs 6 = .bool (decide (maxData k < (l.length : Int))) := q28
    have r21 : vs 7 = .bool (decide (maxData k < (l.length : Int))) := q21
    clear q22 q23 q24 q25 q26 q27 q28 q21
    simp only [putAll, Act.put, List.setIfInBounds_toArray, List.set_cons_zero, List.set_cons_succ, r22, r23, r24, r25, r26, r27, r28, r21]
    clear r22 r23 r24 r25 r26 r27 r28 r21
    have g2 : Grow w w' := g.trans hg
    clear hg g hc0 hc3
    by_cases hlt : maxData k < (l.length : Int)
    ·have HF : Hid (wrong ⟨k, y, n, l⟩ = 4) := by show wrong _ = 4; rw [HW.out, if_pos hlt]
     rw [decide_eq_true hlt]
     clear hlt
     go_wp2
     go_ret
     exact ⟨ret_int HF.out.symm, g2⟩
    ·have HF : Hid (wrong ⟨k, y, n, l⟩ = 0) := by show wrong _ = 0; rw [HW.out, if_neg hlt]
     rw [decide_eq_false hlt]
     clear hlt
     go_wp2
     go_ret
     exact ⟨ret_int HF.out.symm, g2⟩
  ·have d1 : (k != 1) = true := by simp [h]
   have d2 : (k != 2) = false := by simp [h]
   clear h
   go_enter Try.func108, Try.ntmps108
   go_wp2_with fail
   refine (inRange_any k y n l _ _).mono ?_
   rw [HR.out]
   rintro e w1 ⟨rfl, g1⟩
   have g : Grow w w1 := (grow_alloc _ _).trans g1
   have hc0 : w1.cell? ⟨w.heap.size, 0, none⟩ = some (.int .i64 k) := (Below.cell g1 (p := ⟨w.heap.size, 0, none⟩) (by simp)).trans (by simp)
   have hc3 : w1.cell? ⟨w.heap.size, 3, none⟩ = some (.slice ao l.length cap) := (Below.cell g1 (p := ⟨w.heap.size, 3, none⟩) (by simp)).trans (by simp)
   clear g1
   go_wp2_with fail
   refine wp_region_told [ex (.pointer (some ⟨w.heap.size, 3, none⟩)), ex (.slice ao l.length cap), ex (.int .i64 l.length), ex (.pointer (some ⟨w.heap.size, 0, none⟩)), ex (.int .i64 k), ex (.int .i64 (maxData k)), ex (.bool (decide (maxData k < (l.length : Int)))), ex (.bool (decide (maxData k < (l.length : Int))))] (by kernel_rfl) (by kernel_rfl) ⟨st_ex _, st_ex _, st_ex _, st_ex _, st_ex _, st_ex _, st_ex _, st_ex _, trivial⟩ ?_ ?_
   ·refine ⟨?_, ?_, ?_, ?_, ?_, ?_, ?_, ?_, trivial⟩
    ·refine need_plain rfl (fun a w' hg hin => ?_)
     have e1 : a.eval (.tmp 1) = .pointer (some ⟨w.heap.size, 0, none⟩) := ins_ext hin 1 (by kernel_rfl)
     refine upon_val ?_ rfl
     clear hin hg
     obtain ⟨ek, ef⟩ := evs a
     generalize a.eval = ev at *
     go_simp
     all_goals first | omega | (intro _; omega) | go_arith
    ·refine need_plain rfl (fun a w' hg hin => ?_)
     have e22 : a.eval (.tmp 22) = _ := ins_on hin 0 (by kernel_rfl)
     have h1 := (Below.cell hg (cell_lt hc3)).trans hc3
     refine upon_val ?_ rfl
     clear hin hg
     obtain ⟨ek, ef⟩ := evs a
     generalize a.eval = ev at *
     go_simp
     all_goals first | omega | (intro _; omega) | go_arith
    ·refine need_plain rfl (fun a w' hg hin => ?_)
     have e23 : a.eval (.tmp 23) = _ := ins_on hin 1 (by kernel_rfl)
     refine upon_val ?_ rfl
     clear hin hg
     obtain ⟨ek, ef⟩ := evs a
     generalize a.eval = ev at *
     go_simp
     all_goals first | omega | (intro _; omega) | go_arith
    ·refine need_plain rfl (fun a w' hg hin => ?_)
     have e1 : a.eval (.tmp 1) = .pointer (some ⟨w.heap.size, 0, none⟩) := ins_ext hin 1 (by kernel_rfl)
     refine upon_val ?_ rfl
     clear hin hg
     obtain ⟨ek, ef⟩ := evs a
     generalize a.eval = ev at *
     go_simp
     all_goals first | omega | (intro _; omega) | go_arith
    ·refine need_plain rfl (fun a w' hg hin => ?_)
     have e25 : a.eval (.tmp 25) = _ := ins_on hin 3 (by kernel_rfl)
     have h1 := (Below.cell hg (cell_lt hc0)).trans hc0
     refine upon_val ?_ rfl
     clear hin hg
     obtain ⟨ek, ef⟩ := evs a
     generalize a.eval = ev at *
     go_simp
     all_goals first | omega | (intro _; omega) | go_arith
    ·refine need_plain rfl (fun a w' hg hin => ?_)
     have e26 : a.eval (.tmp 26) = _ := ins_on hin 4 (by kernel_rfl)
     refine upon_call (f := 117) (args := #[.int .i64 k]) ?_ ((maxData_any k w').mono ?_)
     ·clear hin hg
      obtain ⟨ek, ef⟩ := evs a
      generalize a.eval = ev at *
      go_simp
      all_goals first | omega | (intro _; omega) | go_arith
     ·rintro e w2 ⟨rfl, rfl⟩
      exact ⟨_, rfl, Grow.refl _, rfl⟩
    ·refine need_plain rfl (fun a w' hg hin => ?_)
     have e24 : a.eval (.tmp 24) = _ := ins_on hin 2 (by kernel_rfl)
     have e27 : a.eval (.tmp 27) = _ := ins_on hin 5 (by kernel_rfl)
     refine upon_val ?_ rfl
     clear hin hg
     obtain ⟨ek, ef⟩ := evs a
     generalize a.eval = ev at *
     go_simp
     all_goals first | omega | (intro _; omega) | go_arith
    ·refine need_plain rfl (fun a w' hg hin => ?_)
     have e : a.eval (.tmp 28) = _ := ins_on hin 6 (by kernel_rfl)
     exact upon_assign rfl e
   ·intro vs w' hg ht
    obtain ⟨q22, q23, q24, q25, q26, q27, q28, q21, -⟩ := ht
    have r22 : vs 0 = .pointer (some ⟨w.heap.size, 3, none⟩) := q22
    have r23 : vs 1 = .slice ao l.length cap := q23
    have r24 : vs 2 = .int .i64 l.length := q24
    have r25 : vs 3 = .pointer (some ⟨w.heap.size, 0, none⟩) := q25
    have r26 : vs 4 = .int .i64 k := q26
    have r27 : vs 5 = .int .i64 (maxData k) := q27
    have r28 : vs 6 = .bool (decide (maxData k < (l.length : Int))) := q28
    have r21 : vs 7 = .bool (decide (maxData k < (l.length : Int))) := q21
    clear q22 q23 q24 q25 q26 q27 q28 q21
    simp only [putAll, Act.put, List.setIfInBounds_toArray, List.set_cons_zero, List.set_cons_succ, r22, r23, r24, r25, r26, r27, r28, r21]
    clear r22 r23 r24 r25 r26 r27 r28 r21
    have g2 : Grow w w' := g.trans hg
    clear hg g hc0 hc3
    by_cases hlt : maxData k < (l.length : Int)
    ·have HF : Hid (wrong ⟨k, y, n, l⟩ = 4) := by show wrong _ = 4; rw [HW.out, if_pos hlt]
     rw [decide_eq_true hlt]
     clear hlt
     go_wp2
     go_ret
     exact ⟨ret_int HF.out.symm, g2⟩
    ·have HF : Hid (wrong ⟨k, y, n, l⟩ = 0) := by show wrong _ = 0; rw [HW.out, if_neg hlt]
     rw [decide_eq_false hlt]
     clear hlt
     go_wp2
     go_ret
     exact ⟨ret_int HF.out.symm, g2⟩
  ·have d1 : (k != 1) = true := by simp [h]
   have d2 : (k != 2) = true := by simp [h]
   have d3 : (k != 3) = false := by simp [h]
   clear h
   go_enter Try.func108, Try.ntmps108
   go_wp2_with fail
   refine (inRange_any k y n l _ _).mono ?_
   rw [HR.out]
   rintro e w1 ⟨rfl, g1⟩
   have g : Grow w w1 := (grow_alloc _ _).trans g1
   have hc0 : w1.cell? ⟨w.heap.size, 0, none⟩ = some (.int .i64 k) := (Below.cell g1 (p := ⟨w.heap.size, 0, none⟩) (by simp)).trans (by simp)
   have hc3 : w1.cell? ⟨w.heap.size, 3, none⟩ = some (.slice ao l.length cap) := (Below.cell g1 (p := ⟨w.heap.size, 3, none⟩) (by simp)).trans (by simp)
   clear g1
   go_wp2_with fail
   refine wp_region_told [ex (.pointer (some ⟨w.heap.size, 3, none⟩)), ex (.slice ao l.length cap), ex (.int .i64 l.length), ex (.pointer (some ⟨w.heap.size, 0, none⟩)), ex (.int .i64 k), ex (.int .i64 (maxData k)), ex (.bool (decide (maxData k < (l.length : Int)))), ex (.bool (decide (maxData k < (l.length : Int))))] (by kernel_rfl) (by kernel_rfl) ⟨st_ex _, st_ex _, st_ex _, st_ex _, st_ex _, st_ex _, st_ex _, st_ex _, trivial⟩ ?_ ?_
   ·refine ⟨?_, ?_, ?_, ?_, ?_, ?_, ?_, ?_, trivial⟩
    ·refine need_plain rfl (fun a w' hg hin => ?_)
     have e1 : a.eval (.tmp 1) = .pointer (some ⟨w.heap.size, 0, none⟩) := ins_ext hin 1 (by kernel_rfl)
     refine upon_val ?_ rfl
     clear hin hg
     obtain ⟨ek, ef⟩ := evs a
     generalize a.eval = ev at *
     go_simp
     all_goals first | omega | (intro _; omega) | go_arith
    ·refine need_plain rfl (fun a w' hg hin => ?_)
     have e22 : a.eval (.tmp 22) = _ := ins_on hin 0 (by kernel_rfl)
     have h1 := (Below.cell hg (cell_lt hc3)).trans hc3
     refine upon_val ?_ rfl
     clear hin hg
     obtain ⟨ek, ef⟩ := evs a
     generalize a.eval = ev at *
     go_simp
     all_goals first | omega | (intro _; omega) | go_arith
    ·refine need_plain rfl (fun a w' hg hin => ?_)
     have e23 : a.eval (.tmp 23) = _ := ins_on hin 1 (by kernel_rfl)
     refine upon_val ?_ rfl
     clear hin hg
     obtain ⟨ek, ef⟩ := evs a
     generalize a.eval = ev at *
     go_simp
     all_goals first | omega | (intro _; omega) | go_arith
    ·refine need_plain rfl (fun a w' hg hin => ?_)
     have e1 : a.eval (.tmp 1) = .pointer (some ⟨w.heap.size, 0, none⟩) := ins_ext hin 1 (by kernel_rfl)
     refine upon_val ?_ rfl
     clear hin hg
     obtain ⟨ek, ef⟩ := evs a
     generalize a.eval = ev at *
     go_simp
     all_goals first | omega | (intro _; omega) | go_arith
    ·refine need_plain rfl (fun a w' hg hin => ?_)
     have e25 : a.eval (.tmp 25) = _ := ins_on hin 3 (by kernel_rfl)
     have h1 := (Below.cell hg (cell_lt hc0)).trans hc0
     refine upon_val ?_ rfl
     clear hin hg
     obtain ⟨ek, ef⟩ := evs a
     generalize a.eval = ev at *
     go_simp
     all_goals first | omega | (intro _; omega) | go_arith
    ·refine need_plain rfl (fun a w' hg hin => ?_)
     have e26 : a.eval (.tmp 26) = _ := ins_on hin 4 (by kernel_rfl)
     refine upon_call (f := 117) (args := #[.int .i64 k]) ?_ ((maxData_any k w').mono ?_)
     ·clear hin hg
      obtain ⟨ek, ef⟩ := evs a
      generalize a.eval = ev at *
      go_simp
      all_goals first | omega | (intro _; omega) | go_arith
     ·rintro e w2 ⟨rfl, rfl⟩
      exact ⟨_, rfl, Grow.refl _, rfl⟩
    ·refine need_plain rfl (fun a w' hg hin => ?_)
     have e24 : a.eval (.tmp 24) = _ := ins_on hin 2 (by kernel_rfl)
     have e27 : a.eval (.tmp 27) = _ := ins_on hin 5 (by kernel_rfl)
     refine upon_val ?_ rfl
     clear hin hg
     obtain ⟨ek, ef⟩ := evs a
     generalize a.eval = ev at *
     go_simp
     all_goals first | omega | (intro _; omega) | go_arith
    ·refine need_plain rfl (fun a w' hg hin => ?_)
     have e : a.eval (.tmp 28) = _ := ins_on hin 6 (by kernel_rfl)
     exact upon_assign rfl e
   ·intro vs w' hg ht
    obtain ⟨q22, q23, q24, q25, q26, q27, q28, q21, -⟩ := ht
    have r22 : vs 0 = .pointer (some ⟨w.heap.size, 3, none⟩) := q22
    have r23 : vs 1 = .slice ao l.length cap := q23
    have r24 : vs 2 = .int .i64 l.length := q24
    have r25 : vs 3 = .pointer (some ⟨w.heap.size, 0, none⟩) := q25
    have r26 : vs 4 = .int .i64 k := q26
    have r27 : vs 5 = .int .i64 (maxData k) := q27
    have r28 : vs 6 = .bool (decide (maxData k < (l.length : Int))) := q28
    have r21 : vs 7 = .bool (decide (maxData k < (l.length : Int))) := q21
    clear q22 q23 q24 q25 q26 q27 q28 q21
    simp only [putAll, Act.put, List.setIfInBounds_toArray, List.set_cons_zero, List.set_cons_succ, r22, r23, r24, r25, r26, r27, r28, r21]
    clear r22 r23 r24 r25 r26 r27 r28 r21
    have g2 : Grow w w' := g.trans hg
    clear hg g hc0 hc3
    by_cases hlt : maxData k < (l.length : Int)
    ·have HF : Hid (wrong ⟨k, y, n, l⟩ = 4) := by show wrong _ = 4; rw [HW.out, if_pos hlt]
     rw [decide_eq_true hlt]
     clear hlt
     go_wp2
     go_ret
     exact ⟨ret_int HF.out.symm, g2⟩
    ·have HF : Hid (wrong ⟨k, y, n, l⟩ = 0) := by show wrong _ = 0; rw [HW.out, if_neg hlt]
     rw [decide_eq_false hlt]
     clear hlt
     go_wp2
     go_ret
     exact ⟨ret_int HF.out.symm, g2⟩

theorem wrong_any (k y n : Int) (l : List UInt8) (v : Value) (w : World) (hv : Bytes w v l) :
  Calls Try.prog 108 #[.agg #[.int .i64 k, .int .i64 y, .int .i64 n, v]] w fun e w' => e = .returned (.int .i64 (wrong ⟨k, y, n, l⟩)) ∧ Grow w w' := by
 by_cases hk : 1 ≤ k ∧ k ≤ 3
 ·exact wrong_in k y n l v w hk hv
 ·exact wrong_kind k y n l v w (by omega)

theorem md1 : maxData 1 = 0 := rfl
theorem md2 : maxData 2 = 8 := rfl
theorem md3 : maxData 3 = 0 := rfl
theorem wrong_out (k y n : Int) (l : List UInt8) (h : k < 1 ∨ 3 < k) : wrong ⟨k, y, n, l⟩ = 1 := by unfold wrong; rw [if_pos (by exact h)]
theorem wrong_range (k y n : Int) (l : List UInt8) (h : ¬ (k < 1 ∨ 3 < k)) (hr : inRangeB ⟨k, y, n, l⟩ = false) : wrong ⟨k, y, n, l⟩ = 3 := by unfold wrong; rw [if_neg (by exact h), if_pos hr]
theorem wrong_much (k y n : Int) (l : List UInt8) (h : ¬ (k < 1 ∨ 3 < k)) (hr : inRangeB ⟨k, y, n, l⟩ = true) (hm : maxData k < (l.length : Int)) : wrong ⟨k, y, n, l⟩ = 4 := by
 unfold wrong; rw [if_neg (by exact h), if_neg (by rw [hr]; simp), if_pos (by exact hm)]
theorem wrong_ok (k y n : Int) (l : List UInt8) (h : ¬ (k < 1 ∨ 3 < k)) (hr : inRangeB ⟨k, y, n, l⟩ = true) (hm : ¬ maxData k < (l.length : Int)) : wrong ⟨k, y, n, l⟩ = 0 := by
 unfold wrong; rw [if_neg (by exact h), if_neg (by rw [hr]; simp), if_neg (by exact hm)]
theorem range_free (y n : Int) (l : List UInt8) : inRangeB ⟨1, y, n, l⟩ = decide (y = 0 ∧ n = 0) := by simp [inRangeB]
theorem range_some (k y n : Int) (l : List UInt8) (h : k ≠ 1) : inRangeB ⟨k, y, n, l⟩ = decide (1 ≤ y ∧ y ≤ 255 ∧ 1 ≤ n ∧ n ≤ 60000) := by unfold inRangeB; rw [if_neg (by exact h)]

set_option maxHeartbeats 1000000 in
theorem rwrong_out (k y n : Int) (l : List UInt8) (v : Value) (w : World) (h : k < 1 ∨ 3 < k) :
  Calls Try.prog 40 #[.agg #[.int .i64 k, .int .i64 y, .int .i64 n, v]] w fun e w' => e = .returned (.int .i64 (wrong ⟨k, y, n, l⟩)) ∧ Grow w w' := by
 have HW : Hid (wrong ⟨k, y, n, l⟩ = 1) := wrong_out k y n l h
 rcases h with h | h
 ·go_enter Try.func40, Try.ntmps40
  go_wp2
  all_goals go_ret
  all_goals refine ⟨ret_int ?_, grow_alloc _ _⟩
  all_goals symm
  exact HW.out
 ·have h' : ¬ k < 1 := by omega
  go_enter Try.func40, Try.ntmps40
  go_wp2
  all_goals go_ret
  all_goals refine ⟨ret_int ?_, grow_alloc _ _⟩
  all_goals symm
  exact HW.out

set_option maxHeartbeats 1000000 in
theorem rwrong_free (y n : Int) (l : List UInt8) (ao : Option Addr) (cap : Nat) (w : World) :
  Calls Try.prog 40 #[.agg #[.int .i64 1, .int .i64 y, .int .i64 n, .slice ao l.length cap]] w fun e w' => e = .returned (.int .i64 (wrong ⟨1, y, n, l⟩)) ∧ Grow w w' := by
 by_cases h0 : l.length = 0
 all_goals
  first | (have d0 : ((l.length : Int) != 0) = false := by simp [h0]; done) | (have d0 : ((l.length : Int) != 0) = true := by simp [h0]; done)
  go_enter Try.func40, Try.ntmps40
  go_wp2
  all_goals go_ret
  all_goals refine ⟨ret_int ?_, grow_alloc _ _⟩
  all_goals symm
  all_goals first
   | (refine wrong_range 1 y n l ?_ ?_ <;> first | omega | (rw [range_free]; simp; done) | (rw [range_free]; simp; omega) | (rw [md1]; omega))
   | (refine wrong_much 1 y n l ?_ ?_ ?_ <;> first | omega | (rw [range_free]; simp; done) | (rw [range_free]; simp; omega) | (rw [md1]; omega))
   | (refine wrong_ok 1 y n l ?_ ?_ ?_ <;> first | omega | (rw [range_free]; simp; done) | (rw [range_free]; simp; omega) | (rw [md1]; omega))

set_option maxHeartbeats 1000000 in
theorem rwrong_data (y n : Int) (l : List UInt8) (ao : Option Addr) (cap : Nat) (w : World) :
  Calls Try.prog 40 #[.agg #[.int .i64 2, .int .i64 y, .int .i64 n, .slice ao l.length cap]] w fun e w' => e = .returned (.int .i64 (wrong ⟨2, y, n, l⟩)) ∧ Grow w w' := by
 go_enter Try.func40, Try.ntmps40
 go_wp2
 all_goals go_ret
 all_goals refine ⟨ret_int ?_, grow_alloc _ _⟩
 all_goals symm
 all_goals first
  | (refine wrong_range 2 y n l ?_ ?_ <;> first | omega | (rw [range_some _ _ _ _ (by omega)]; simp; done) | (rw [range_some _ _ _ _ (by omega)]; simp; omega) | (rw [md2]; omega))
  | (refine wrong_much 2 y n l ?_ ?_ ?_ <;> first | omega | (rw [range_some _ _ _ _ (by omega)]; simp; done) | (rw [range_some _ _ _ _ (by omega)]; simp; omega) | (rw [md2]; omega))
  | (refine wrong_ok 2 y n l ?_ ?_ ?_ <;> first | omega | (rw [range_some _ _ _ _ (by omega)]; simp; done) | (rw [range_some _ _ _ _ (by omega)]; simp; omega) | (rw [md2]; omega))

set_option maxHeartbeats 1000000 in
theorem rwrong_mark (y n : Int) (l : List UInt8) (ao : Option Addr) (cap : Nat) (w : World) :
  Calls Try.prog 40 #[.agg #[.int .i64 3, .int .i64 y, .int .i64 n, .slice ao l.length cap]] w fun e w' => e = .returned (.int .i64 (wrong ⟨3, y, n, l⟩)) ∧ Grow w w' := by
 by_cases h0 : l.length = 0
 all_goals
  first | (have d0 : ((l.length : Int) != 0) = false := by simp [h0]; done) | (have d0 : ((l.length : Int) != 0) = true := by simp [h0]; done)
  go_enter Try.func40, Try.ntmps40
  go_wp2
  all_goals go_ret
  all_goals refine ⟨ret_int ?_, grow_alloc _ _⟩
  all_goals symm
  all_goals first
   | (refine wrong_range 3 y n l ?_ ?_ <;> first | omega | (rw [range_some _ _ _ _ (by omega)]; simp; done) | (rw [range_some _ _ _ _ (by omega)]; simp; omega) | (rw [md3]; omega))
   | (refine wrong_much 3 y n l ?_ ?_ ?_ <;> first | omega | (rw [range_some _ _ _ _ (by omega)]; simp; done) | (rw [range_some _ _ _ _ (by omega)]; simp; omega) | (rw [md3]; omega))
   | (refine wrong_ok 3 y n l ?_ ?_ ?_ <;> first | omega | (rw [range_some _ _ _ _ (by omega)]; simp; done) | (rw [range_some _ _ _ _ (by omega)]; simp; omega) | (rw [md3]; omega))

theorem rwrong_any (k y n : Int) (l : List UInt8) (v : Value) (w : World) (hv : Bytes w v l) :
  Calls Try.prog 40 #[.agg #[.int .i64 k, .int .i64 y, .int .i64 n, v]] w fun e w' => e = .returned (.int .i64 (wrong ⟨k, y, n, l⟩)) ∧ Grow w w' := by
 obtain ⟨ao, cap, rfl, -, -⟩ := bytes_src hv
 by_cases h : k < 1 ∨ 3 < k
 ·exact rwrong_out k y n l _ w h
 ·have h3 : k = 1 ∨ k = 2 ∨ k = 3 := by omega
  rcases h3 with rfl | rfl | rfl
  ·exact rwrong_free y n l ao cap w
  ·exact rwrong_data y n l ao cap w
  ·exact rwrong_mark y n l ao cap w
end Go.Proofs.Ytgaecpdokgklpab
