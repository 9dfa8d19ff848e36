/-
  What the program's Wrong tells of deeds.
  Condition: the deed's data lie in memory.
-/
import Derived.Test.YtgaecpdokgklpabMdlWC
namespace Go.Proofs.Ytgaecpdokgklpab
set_option maxRecDepth 100000
open Go.RowKit
open Go.Proofs.Ytgaecpdokgklpab.Plain Go.Proofs.Ytgaecpdokgklpab.Reg

def inRangeD (d : Dd) : Bool := if d.kind = 3 then decide (1 ≤ d.key ∧ d.key ≤ 255 ∧ 1 ≤ d.num ∧ d.num ≤ 60000) else decide (1 ≤ d.key ∧ d.key ≤ 255 ∧ d.num = 0)
def maxD (k : Int) : Int := if k = 1 then 8 else 0
theorem wrongD_split (d : Dd) : wrongD d = if d.kind < 1 ∨ 3 < d.kind then 1 else if inRangeD d = false then 3 else if maxD d.kind < (d.data.length : Int) then 4 else 0 := by
 unfold wrongD inRangeD maxD
 by_cases hk : d.kind < 1 ∨ 3 < d.kind
 ·rw [if_pos hk, if_pos hk]
 ·rw [if_neg hk, if_neg hk]
  by_cases h3 : d.kind = 3
  ·rw [if_pos h3, if_pos h3, if_pos h3, if_neg (show ¬ d.kind = 1 by omega)]
   by_cases hr : 1 ≤ d.key ∧ d.key ≤ 255 ∧ 1 ≤ d.num ∧ d.num ≤ 60000
   ·rw [if_neg (show ¬ (d.key < 1 ∨ 255 < d.key ∨ d.num < 1 ∨ 60000 < d.num) by omega), decide_eq_true hr, if_neg (show ¬ true = false by simp)]
    by_cases h0 : d.data.length = 0
    ·rw [if_neg (by omega), if_neg (by omega)]
    ·rw [if_pos (by omega), if_pos (by omega)]
   ·rw [if_pos (show d.key < 1 ∨ 255 < d.key ∨ d.num < 1 ∨ 60000 < d.num by omega), decide_eq_false hr, if_pos rfl]
  ·rw [if_neg h3, if_neg h3, if_neg h3]
   by_cases hr : 1 ≤ d.key ∧ d.key ≤ 255 ∧ d.num = 0
   ·rw [if_neg (show ¬ (d.key < 1 ∨ 255 < d.key ∨ d.num < 0 ∨ 0 < d.num) by omega), decide_eq_true hr, if_neg (show ¬ true = false by simp)]
    by_cases h1 : d.kind = 1
    ·rw [if_pos h1]
     by_cases h8 : 8 < d.data.length
     ·rw [if_pos (by omega), if_pos (by omega)]
     ·rw [if_neg (by omega), if_neg (by omega)]
    ·rw [if_neg h1]
     by_cases h0 : d.data.length = 0
     ·rw [if_neg (by omega), if_neg (by omega)]
     ·rw [if_pos (by omega), if_pos (by omega)]
   ·rw [if_pos (show d.key < 1 ∨ 255 < d.key ∨ d.num < 0 ∨ 0 < d.num by omega), decide_eq_false hr, if_pos rfl]

set_option maxHeartbeats 400000 in
theorem minRange_any (k y n : Int) (l : List UInt8) (v : Value) (w : World) :
  Calls Try.prog 53 #[.agg #[.int .i64 k, .int .i64 y, .int .i64 n, v]] w fun e w' => e = .returned (.bool (inRangeD ⟨k, y, n, l⟩)) ∧ Grow w w' := by
 go_enter Try.func53, Try.ntmps53
 go_wp2
 all_goals go_ret
 all_goals refine ⟨?_, grow_alloc _ _⟩
 all_goals simp_all [inRangeD]
 all_goals first | omega | (split <;> omega) | (rw [Bool.eq_iff_iff]; simp; done) | (rw [Bool.eq_iff_iff]; simp; omega)

set_option maxHeartbeats 400000 in
theorem mmaxData_any (k : Int) (w : World) :
  Calls Try.prog 54 #[.int .i64 k] w fun e w' => e = .returned (.int .i64 (maxD k)) ∧ w = w' := by
 go_enter Try.func54, Try.ntmps54
 go_wp2
 all_goals go_ret
 all_goals simp_all [maxD]

set_option maxHeartbeats 400000 in
theorem mwrong_kind (k y n : Int) (l : List UInt8) (v : Value) (w : World) (hk : k < 1 ∨ 3 < k) :
  Calls Try.prog 18 #[.agg #[.int .i64 k, .int .i64 y, .int .i64 n, v]] w fun e w' => e = .returned (.int .i64 (wrongD ⟨k, y, n, l⟩)) ∧ Grow w w' := by
 have HW : Hid (wrongD ⟨k, y, n, l⟩ = 1) := by show wrongD _ = 1; rw [wrongD_split, if_pos (by exact hk)]
 have d1 : (k != 1) = true := by simp; omega
 have d2 : (k != 2) = true := by simp; omega
 have d3 : (k != 3) = true := by simp; omega
 go_enter Try.func18, Try.ntmps18
 go_wp2_with fail
 go_ret
 exact ⟨ret_int HW.out.symm, grow_alloc _ _⟩

set_option maxHeartbeats 1000000 in
theorem mwrong_in (k y n : Int) (l : List UInt8) (v : Value) (w : World) (hk : 1 ≤ k ∧ k ≤ 3) (hv : Bytes w v l) :
  Calls Try.prog 18 #[.agg #[.int .i64 k, .int .i64 y, .int .i64 n, v]] w fun e w' => e = .returned (.int .i64 (wrongD ⟨k, y, n, l⟩)) ∧ Grow w w' := by
 obtain ⟨ao, cap, rfl, -, -⟩ := bytes_src hv
 clear hv
 have HK : Hid (k = 1 ∨ k = 2 ∨ k = 3) := by show _ ∨ _; omega
 have hw : wrongD ⟨k, y, n, l⟩ = if inRangeD ⟨k, y, n, l⟩ = false then 3 else if maxD k < (l.length : Int) then 4 else 0 := by
  rw [wrongD_split, if_neg (by simp; omega)]
 clear hk
 cases hr : inRangeD ⟨k, y, n, l⟩ with
 | false =>
  have HF : Hid (wrongD ⟨k, y, n, l⟩ = 3) := by show wrongD _ = 3; rw [hw, hr]; rfl
  have HR : Hid (inRangeD ⟨k, y, n, l⟩ = false) := hr
  clear hw hr
  rcases HK.out with h | h | h
  all_goals
   first
    | (have d1 : (k != 1) = false := by simp [h])
    | (have d1 : (k != 1) = true := by simp [h]); (have d2 : (k != 2) = false := by simp [h])
    | (have d1 : (k != 1) = true := by simp [h]); (have d2 : (k != 2) = true := by simp [h]); (have d3 : (k != 3) = false := by simp [h])
   clear h
   go_enter Try.func18, Try.ntmps18
   go_wp2_with fail
   refine (minRange_any k y n l _ _).mono ?_
   rw [HR.out]
   rintro e w1 ⟨rfl, g1⟩
   go_wp2_with fail
   go_ret
   exact ⟨ret_int HF.out.symm, (grow_alloc _ _).trans g1⟩
 | true =>
  have HW : Hid (wrongD ⟨k, y, n, l⟩ = if maxD k < (l.length : Int) then 4 else 0) := by show wrongD _ = _; rw [hw, hr]; rfl
  have HR : Hid (inRangeD ⟨k, y, n, l⟩ = true) := hr
  clear hw hr
  rcases HK.out with h | h | h
  ·have d1 : (k != 1) = false := by simp [h]
   clear h
   go_enter Try.func18, Try.ntmps18
   go_wp2_with fail
   refine (minRange_any k y n l _ _).mono ?_
   rw [HR.out]
   rintro e w1 ⟨rfl, g1⟩
   have g : Grow w w1 := (grow_alloc _ _).trans g1
   have hc0 : w1.cell? ⟨w.heap.size, 0, none⟩ = some (.int .i64 k) := (Below.cell g1 (p := ⟨w.heap.size, 0, none⟩) (by simp)).trans (by simp)
   have hc3 : w1.cell? ⟨w.heap.size, 3, none⟩ = some (.slice ao l.length cap) := (Below.cell g1 (p := ⟨w.heap.size, 3, none⟩) (by simp)).trans (by simp)
   clear g1
   go_wp2_with fail
   refine wp_region_told [ex (.pointer (some ⟨w.heap.size, 3, none⟩)), ex (.slice ao l.length cap), ex (.int .i64 l.length), ex (.pointer (some ⟨w.heap.size, 0, none⟩)), ex (.int .i64 k), ex (.int .i64 (maxD k)), ex (.bool (decide (maxD k < (l.length : Int)))), ex (.bool (decide (maxD k < (l.length : Int))))] (by kernel_rfl) (by kernel_rfl) ⟨st_ex _, st_ex _, st_ex _, st_ex _, st_ex _, st_ex _, st_ex _, st_ex _, trivial⟩ ?_ ?_
   ·refine ⟨?_, ?_, ?_, ?_, ?_, ?_, ?_, ?_, trivial⟩
    ·refine need_plain rfl (fun a w' hg hin => ?_)
     have e1 : a.eval (.tmp 1) = .pointer (some ⟨w.heap.size, 0, none⟩) := ins_ext hin 1 (by kernel_rfl)
     refine upon_val ?_ rfl
     clear hin hg
     obtain ⟨ek, ef⟩ := evs a
     generalize a.eval = ev at *
     go_simp
     all_goals first | omega | (intro _; omega) | go_arith
    ·refine need_plain rfl (fun a w' hg hin => ?_)
     have e22 : a.eval (.tmp 22) = _ := ins_on hin 0 (by kernel_rfl)
     have h1 := (Below.cell hg (cell_lt hc3)).trans hc3
     refine upon_val ?_ rfl
     clear hin hg
     obtain ⟨ek, ef⟩ := evs a
     generalize a.eval = ev at *
     go_simp
     all_goals first | omega | (intro _; omega) | go_arith
    ·refine need_plain rfl (fun a w' hg hin => ?_)
     have e23 : a.eval (.tmp 23) = _ := ins_on hin 1 (by kernel_rfl)
     refine upon_val ?_ rfl
     clear hin hg
     obtain ⟨ek, ef⟩ := evs a
     generalize a.eval = ev at *
     go_simp
     all_goals first | omega | (intro _; omega) | go_arith
    ·refine need_plain rfl (fun a w' hg hin => ?_)
     have e1 : a.eval (.tmp 1) = .pointer (some ⟨w.heap.size, 0, none⟩) := ins_ext hin 1 (by kernel_rfl)
     refine upon_val ?_ rfl
     clear hin hg
     obtain ⟨ek, ef⟩ := evs a
     generalize a.eval = ev at *
     go_simp
     all_goals first | omega | (intro _; omega) | go_arith
    ·refine need_plain rfl (fun a w' hg hin => ?_)
     have e25 : a.eval (.tmp 25) = _ := ins_on hin 3 (by kernel_rfl)
     have h1 := (Below.cell hg (cell_lt hc0)).trans hc0
     refine upon_val ?_ rfl
     clear hin hg
     obtain ⟨ek, ef⟩ := evs a
     generalize a.eval = ev at *
     go_simp
     all_goals first | omega | (intro _; omega) | go_arith
    ·refine need_plain rfl (fun a w' hg hin => ?_)
     have e26 : a.eval (.tmp 26) = _ := ins_on hin 4 (by kernel_rfl)
     refine upon_call (f := 54) (args := #[.int .i64 k]) ?_ ((mmaxData_any k w').mono ?_)
     ·clear hin hg
      obtain ⟨ek, ef⟩ := evs a
      generalize a.eval = ev at *
      go_simp
      all_goals first | omega | (intro _; omega) | go_arith
     ·rintro e w2 ⟨rfl, rfl⟩
      exact ⟨_, rfl, Grow.refl _, rfl⟩
    ·refine need_plain rfl (fun a w' hg hin => ?_)
     have e24 : a.eval (.tmp 24) = _ := ins_on hin 2 (by kernel_rfl)
     have e27 : a.eval (.tmp 27) = _ := ins_on hin 5 (by kernel_rfl)
     refine upon_val ?_ rfl
     clear hin hg
     obtain ⟨ek, ef⟩ := evs a
     generalize a.eval = ev at *
     go_simp
     all_goals first | omega | (intro _; omega) | go_arith
    ·refine need_plain rfl (fun a w' hg hin => ?_)
     have e : a.eval (.tmp 28) = _ := ins_on hin 6 (by kernel_rfl)
     exact upon_assign rfl e
   ·intro vs w' hg ht
    obtain ⟨q22, q23, q24, q25, q26, q27, q28, q21, -⟩ := ht
    have r22 : vs 0 = .pointer (some ⟨w.heap.size, 3, none⟩) := q22
    have r23 : vs 1 = .slice ao l.length cap := q23
    have r24 : vs 2 = .int .i64 l.length := q24
    have r25 : vs 3 = .pointer (some ⟨w.heap.size, 0, none⟩) := q25
    have r26 : vs 4 = .int .i64 k := q26
    have r27 : vs 5 = .int .i64 (maxD k) := q27
    have r28 : vs 6 = .bool (decide (maxD k < (l.length : Int))) := q28
    have r21 : vs 7 = .bool (decide (maxD k < (l.length : Int))) := q21
    clear q22 q23 q24 q25 q26 q27 q28 q21
    simp only [putAll, Act.put, List.setIfInBounds_toArray, List.set_cons_zero, List.set_cons_succ, r22, r23, r24, r25, r26, r27, r28, r21]
    clear r22 r23 r24 r25 r26 r27 r28 r21
    have g2 : Grow w w' := g.trans hg
    clear hg g hc0 hc3
    by_cases hlt : maxD k < (l.length : Int)
    ·have HF : Hid (wrongD ⟨k, y, n, l⟩ = 4) := by show wrongD _ = 4; rw [HW.out, if_pos hlt]
     rw [decide_eq_true hlt]
     clear hlt
     go_wp2
     go_ret
     exact ⟨ret_int HF.out.symm, g2⟩
    ·have HF : Hid (wrongD ⟨k, y, n, l⟩ = 0) := by show wrongD _ = 0; rw [HW.out, if_neg hlt]
     rw [decide_eq_false hlt]
     clear hlt
     go_wp2
     go_ret
     exact ⟨ret_int HF.out.symm, g2⟩
  ·have d1 : (k != 1) = true := by simp [h]
   have d2 : (k != 2) = false := by simp [h]
   clear h
   go_enter Try.func18, Try.ntmps18
   go_wp2_with fail
   refine (minRange_any k y n l _ _).mono ?_
   rw [HR.out]
   rintro e w1 ⟨rfl, g1⟩
   have g : Grow w w1 := (grow_alloc _ _).trans g1
   have hc0 : w1.cell? ⟨w.heap.size, 0, none⟩ = some (.int .i64 k) := (Below.cell g1 (p := ⟨w.heap.size, 0, none⟩) (by simp)).trans (by simp)
   have hc3 : w1.cell? ⟨w.heap.size, 3, none⟩ = some (.slice ao l.length cap) := (Below.cell g1 (p := ⟨w.heap.size, 3, none⟩) (by simp)).trans (by simp)
   clear g1
   go_wp2_with fail
   refine wp_region_told [ex (.pointer (some ⟨w.heap.size, 3, none⟩)), ex (.slice ao l.length cap), ex (.int .i64 l.length), ex (.pointer (some ⟨w.heap.size, 0, none⟩)), ex (.int .i64 k), ex (.int .i64 (maxD k)), ex (.bool (decide (maxD k < (l.length : Int)))), ex (.bool (decide (maxD k < (l.length : Int))))] (by kernel_rfl) (by kernel_rfl) ⟨st_ex _, st_ex _, st_ex _, st_ex _, st_ex _, st_ex _, st_ex _, st_ex _, trivial⟩ ?_ ?_
   ·refine ⟨?_, ?_, ?_, ?_, ?_, ?_, ?_, ?_, trivial⟩
    ·refine need_plain rfl (fun a w' hg hin => ?_)
     have e1 : a.eval (.tmp 1) = .pointer (some ⟨w.heap.size, 0, none⟩) := ins_ext hin 1 (by kernel_rfl)
     refine upon_val ?_ rfl
     clear hin hg
     obtain ⟨ek, ef⟩ := evs a
     generalize a.eval = ev at *
     go_simp
     all_goals first | omega | (intro _; omega) | go_arith
    ·refine need_plain rfl (fun a w' hg hin => ?_)
     have e22 : a.eval (.tmp 22) = _ := ins_on hin 0 (by kernel_rfl)
     have h1 := (Below.cell hg (cell_lt hc3)).trans hc3
     refine upon_val ?_ rfl
     clear hin hg
     obtain ⟨ek, ef⟩ := evs a
     generalize a.eval = ev at *
     go_simp
     all_goals first | omega | (intro _; omega) | go_arith
    ·refine need_plain rfl (fun a w' hg hin => ?_)
     have e23 : a.eval (.tmp 23) = _ := ins_on hin 1 (by kernel_rfl)
     refine upon_val ?_ rfl
     clear hin hg
     obtain ⟨ek, ef⟩ := evs a
     generalize a.eval = ev at *
     go_simp
     all_goals first | omega | (intro _; omega) | go_arith
    ·refine need_plain rfl (fun a w' hg hin => ?_)
     have e1 : a.eval (.tmp 1) = .pointer (some ⟨w.heap.size, 0, none⟩) := ins_ext hin 1 (by kernel_rfl)
     refine upon_val ?_ rfl
     clear hin hg
     obtain ⟨ek, ef⟩ := evs a
     generalize a.eval = ev at *
     go_simp
     all_goals first | omega | (intro _; omega) | go_arith
    ·refine need_plain rfl (fun a w' hg hin => ?_)
     have e25 : a.eval (.tmp 25) = _ := ins_on hin 3 (by kernel_rfl)
     have h1 := (Below.cell hg (cell_lt hc0)).trans hc0
     refine upon_val ?_ rfl
     clear hin hg
     obtain ⟨ek, ef⟩ := evs a
     generalize a.eval = ev at *
     go_simp
     all_goals first | omega | (intro _; omega) | go_arith
    ·refine need_plain rfl (fun a w' hg hin => ?_)
     have e26 : a.eval (.tmp 26) = _ := ins_on hin 4 (by kernel_rfl)
     refine upon_call (f := 54) (args := #[.int .i64 k]) ?_ ((mmaxData_any k w').mono ?_)
     ·clear hin hg
      obtain ⟨ek, ef⟩ := evs a
      generalize a.eval = ev at *
      go_simp
      all_goals first | omega | (intro _; omega) | go_arith
     ·rintro e w2 ⟨rfl, rfl⟩
      exact ⟨_, rfl, Grow.refl _, rfl⟩
    ·refine need_plain rfl (fun a w' hg hin => ?_)
     have e24 : a.eval (.tmp 24) = _ := ins_on hin 2 (by kernel_rfl)
     have e27 : a.eval (.tmp 27) = _ := ins_on hin 5 (by kernel_rfl)
     refine upon_val ?_ rfl
     clear hin hg
     obtain ⟨ek, ef⟩ := evs a
     generalize a.eval = ev at *
     go_simp
     all_goals first | omega | (intro _; omega) | go_arith
    ·refine need_plain rfl (fun a w' hg hin => ?_)
     have e : a.eval (.tmp 28) = _ := ins_on hin 6 (by kernel_rfl)
     exact upon_assign rfl e
   ·intro vs w' hg ht
    obtain ⟨q22, q23, q24, q25, q26, q27, q28, q21, -⟩ := ht
    have r22 : vs 0 = .pointer (some ⟨w.heap.size, 3, none⟩) := q22
    have r23 : vs 1 = .slice ao l.length cap := q23
    have r24 : vs 2 = .int .i64 l.length := q24
    have r25 : vs 3 = .pointer (some ⟨w.heap.size, 0, none⟩) := q25
    have r26 : vs 4 = .int .i64 k := q26
    have r27 : vs 5 = .int .i64 (maxD k) := q27
    have r28 : vs 6 = .bool (decide (maxD k < (l.length : Int))) := q28
    have r21 : vs 7 = .bool (decide (maxD k < (l.length : Int))) := q21
    clear q22 q23 q24 q25 q26 q27 q28 q21
    simp only [putAll, Act.put, List.setIfInBounds_toArray, List.set_cons_zero, List.set_cons_succ, r22, r23, r24, r25, r26, r27, r28, r21]
    clear r22 r23 r24 r25 r26 r27 r28 r21
    have g2 : Grow w w' := g.trans hg
    clear hg g hc0 hc3
    by_cases hlt : maxD k < (l.length : Int)
    ·have HF : Hid (wrongD ⟨k, y, n, l⟩ = 4) := by show wrongD _ = 4; rw [HW.out, if_pos hlt]
     rw [decide_eq_true hlt]
     clear hlt
     go_wp2
     go_ret
     exact ⟨ret_int HF.out.symm, g2⟩
    ·have HF : Hid (wrongD ⟨k, y, n, l⟩ = 0) := by show wrongD _ = 0; rw [HW.out, if_neg hlt]
     rw [decide_eq_false hlt]
     clear hlt
     go_wp2
     go_ret
     exact ⟨ret_int HF.out.symm, g2⟩
  ·have d1 : (k != 1) = true := by simp [h]
   have d2 : (k != 2) = true := by simp [h]
   have d3 : (k != 3) = false := by simp [h]
   clear h
   go_enter Try.func18, Try.ntmps18
   go_wp2_with fail
   refine (minRange_any k y n l _ _).mono ?_
   rw [HR.out]
   rintro e w1 ⟨rfl, g1⟩
   have g : Grow w w1 := (grow_alloc _ _).trans g1
   have hc0 : w1.cell? ⟨w.heap.size, 0, none⟩ = some (.int .i64 k) := (Below.cell g1 (p := ⟨w.heap.size, 0, none⟩) (by simp)).trans (by simp)
   have hc3 : w1.cell? ⟨w.heap.size, 3, none⟩ = some (.slice ao l.length cap) := (Below.cell g1 (p := ⟨w.heap.size, 3, none⟩) (by simp)).trans (by simp)
   clear g1
   go_wp2_with fail
   refine wp_region_told [ex (.pointer (some ⟨w.heap.size, 3, none⟩)), ex (.slice ao l.length cap), ex (.int .i64 l.length), ex (.pointer (some ⟨w.heap.size, 0, none⟩)), ex (.int .i64 k), ex (.int .i64 (maxD k)), ex (.bool (decide (maxD k < (l.length : Int)))), ex (.bool (decide (maxD k < (l.length : Int))))] (by kernel_rfl) (by kernel_rfl) ⟨st_ex _, st_ex _, st_ex _, st_ex _, st_ex _, st_ex _, st_ex _, st_ex _, trivial⟩ ?_ ?_
   ·refine ⟨?_, ?_, ?_, ?_, ?_, ?_, ?_, ?_, trivial⟩
    ·refine need_plain rfl (fun a w' hg hin => ?_)
     have e1 : a.eval (.tmp 1) = .pointer (some ⟨w.heap.size, 0, none⟩) := ins_ext hin 1 (by kernel_rfl)
     refine upon_val ?_ rfl
     clear hin hg
     obtain ⟨ek, ef⟩ := evs a
     generalize a.eval = ev at *
     go_simp
     all_goals first | omega | (intro _; omega) | go_arith
    ·refine need_plain rfl (fun a w' hg hin => ?_)
     have e22 : a.eval (.tmp 22) = _ := ins_on hin 0 (by kernel_rfl)
     have h1 := (Below.cell hg (cell_lt hc3)).trans hc3
     refine upon_val ?_ rfl
     clear hin hg
     obtain ⟨ek, ef⟩ := evs a
     generalize a.eval = ev at *
     go_simp
     all_goals first | omega | (intro _; omega) | go_arith
    ·refine need_plain rfl (fun a w' hg hin => ?_)
     have e23 : a.eval (.tmp 23) = _ := ins_on hin 1 (by kernel_rfl)
     refine upon_val ?_ rfl
     clear hin hg
     obtain ⟨ek, ef⟩ := evs a
     generalize a.eval = ev at *
     go_simp
     all_goals first | omega | (intro _; omega) | go_arith
    ·refine need_plain rfl (fun a w' hg hin => ?_)
     have e1 : a.eval (.tmp 1) = .pointer (some ⟨w.heap.size, 0, none⟩) := ins_ext hin 1 (by kernel_rfl)
     refine upon_val ?_ rfl
     clear hin hg
     obtain ⟨ek, ef⟩ := evs a
     generalize a.eval = ev at *
     go_simp
     all_goals first | omega | (intro _; omega) | go_arith
    ·refine need_plain rfl (fun a w' hg hin => ?_)
     have e25 : a.eval (.tmp 25) = _ := ins_on hin 3 (by kernel_rfl)
     have h1 := (Below.cell hg (cell_lt hc0)).trans hc0
     refine upon_val ?_ rfl
     clear hin hg
     obtain ⟨ek, ef⟩ := evs a
     generalize a.eval = ev at *
     go_simp
     all_goals first | omega | (intro _; omega) | go_arith
    ·refine need_plain rfl (fun a w' hg hin => ?_)
     have e26 : a.eval (.tmp 26) = _ := ins_on hin 4 (by kernel_rfl)
     refine upon_call (f := 54) (args := #[.int .i64 k]) ?_ ((mmaxData_any k w').mono ?_)
     ·clear hin hg
      obtain ⟨ek, ef⟩ := evs a
      generalize a.eval = ev at *
      go_simp
      all_goals first | omega | (intro _; omega) | go_arith
     ·rintro e w2 ⟨rfl, rfl⟩
      exact ⟨_, rfl, Grow.refl _, rfl⟩
    ·refine need_plain rfl (fun a w' hg hin => ?_)
     have e24 : a.eval (.tmp 24) = _ := ins_on hin 2 (by kernel_rfl)
     have e27 : a.eval (.tmp 27) = _ := ins_on hin 5 (by kernel_rfl)
     refine upon_val ?_ rfl
     clear hin hg
     obtain ⟨ek, ef⟩ := evs a
     generalize a.eval = ev at *
     go_simp
     all_goals first | omega | (intro _; omega) | go_arith
    ·refine need_plain rfl (fun a w' hg hin => ?_)
     have e : a.eval (.tmp 28) = _ := ins_on hin 6 (by kernel_rfl)
     exact upon_assign rfl e
   ·intro vs w' hg ht
    obtain ⟨q22, q23, q24, q25, q26, q27, q28, q21, -⟩ := ht
    have r22 : vs 0 = .pointer (some ⟨w.heap.size, 3, none⟩) := q22
    have r23 : vs 1 = .slice ao l.length cap := q23
    have r24 : vs 2 = .int .i64 l.length := q24
    have r25 : vs 3 = .pointer (some ⟨w.heap.size, 0, none⟩) := q25
    have r26 : vs 4 = .int .i64 k := q26
    have r27 : vs 5 = .int .i64 (maxD k) := q27
    have r28 : vs 6 = .bool (decide (maxD k < (l.length : Int))) := q28
    have r21 : vs 7 = .bool (decide (maxD k < (l.length : Int))) := q21
    clear q22 q23 q24 q25 q26 q27 q28 q21
    simp only [putAll, Act.put, List.setIfInBounds_toArray, List.set_cons_zero, List.set_cons_succ, r22, r23, r24, r25, r26, r27, r28, r21]
    clear r22 r23 r24 r25 r26 r27 r28 r21
    have g2 : Grow w w' := g.trans hg
    clear hg g hc0 hc3
    by_cases hlt : maxD k < (l.length : Int)
    ·have HF : Hid (wrongD ⟨k, y, n, l⟩ = 4) := by show wrongD _ = 4; rw [HW.out, if_pos hlt]
     rw [decide_eq_true hlt]
     clear hlt
     go_wp2
     go_ret
     exact ⟨ret_int HF.out.symm, g2⟩
    ·have HF : Hid (wrongD ⟨k, y, n, l⟩ = 0) := by show wrongD _ = 0; rw [HW.out, if_neg hlt]
     rw [decide_eq_false hlt]
     clear hlt
     go_wp2
     go_ret
     exact ⟨ret_int HF.out.symm, g2⟩

theorem mwrongC : MWrongC := by
 rintro ⟨k, y, n, l⟩ a c w _ hb
 by_cases hk : 1 ≤ k ∧ k ≤ 3
 ·exact mwrong_in k y n l _ w hk hb
 ·exact mwrong_kind k y n l _ w (by omega)
end Go.Proofs.Ytgaecpdokgklpab
