/-
  sclaw1.SumTells answers true for every input.
  Condition: the slice holds its bytes, and fewer than 2^47 - 2 of them.
-/
import Derived.Test.YtahclfghlddekaaSealed
namespace Go.Proofs.Ytahclfghlddekaa
open Go.RowKit
open Go.Proofs.Ytahclfghlddekaa.Plain Go.Proofs.Ytahclfghlddekaa.Reg

theorem bytes_two (w : World) (n : Int) : Bytes (w.alloc (.cells #[.int .u8 ((hi n).toNat : Int), .int .u8 ((lo n).toNat : Int)] 5)) (.slice (some ⟨w.heap.size, 0, none⟩) 2 2) [hi n, lo n] := by
  refine .inr ⟨w.heap.size, 0, 2, rfl, by simp, fun i hi => ?_⟩
  match i, hi with
  | 0, _ => simp
  | 1, _ => simp

theorem two_bytes (n : Int) (w : World) :
    Calls Try.prog 6 #[.int .i64 n] w fun e w' => ∃ v, e = .returned v ∧ Grow w w' ∧ Bytes w' v [hi n, lo n] ∧ ∃ b off cap, v = .slice (some ⟨b, off, none⟩) 2 cap :=
  (two_any n w).mono fun e w' ⟨he, hw⟩ => by subst hw; exact ⟨_, he, grow_alloc _ _, bytes_two w n, _, _, _, rfl⟩

/-- Two bytes of n, in a row of their own. -/
def TwoP (n : Int) (v : Value) (w : World) : Prop := ∃ b cap, v = .slice (some ⟨b, 0, none⟩) 2 cap ∧ 2 ≤ cap ∧ w.cell? ⟨b, 0, none⟩ = some (.int .u8 ((hi n).toNat : Int)) ∧ w.cell? ⟨b, 1, none⟩ = some (.int .u8 ((lo n).toNat : Int))
theorem st_two (n : Int) : Stable (TwoP n) := by
  rintro v w w' hg ⟨b, cap, rfl, h1, h2, h3⟩
  exact ⟨b, cap, rfl, h1, (Below.cell hg (cell_lt h2)).trans h2, (Below.cell hg (cell_lt h3)).trans h3⟩
theorem two_p (n : Int) (w : World) :
    Calls Try.prog 6 #[.int .i64 n] w fun e w' => ∃ v, e = .returned v ∧ Grow w w' ∧ TwoP n v w' :=
  (two_any n w).mono fun e w' ⟨he, hw⟩ => by
    subst hw
    exact ⟨_, he, grow_alloc _ _, w.heap.size, 2, rfl, by omega, by simp, by simp⟩

/-- A place that holds this. -/
def CellP (x : Value) (v : Value) (w : World) : Prop := ∃ b off, v = .pointer (some ⟨b, off, none⟩) ∧ w.cell? ⟨b, off, none⟩ = some x
theorem st_cell (x : Value) : Stable (CellP x) := by
  rintro v w w' hg ⟨b, off, rfl, h⟩
  exact ⟨b, off, rfl, (Below.cell hg (cell_lt h)).trans h⟩

set_option maxHeartbeats 1000000 in
theorem sumtells_in (l : List UInt8) (v : Value) (n : Int) (x y : UInt8) (w : World) (hm : l.length ≤ 140737488355326) (hb : Bytes w v l) (h0 : 0 ≤ n) (h1 : n < 65536) :
    Calls Try.prog 3 #[v, .int .i64 n, .int .u8 (x.toNat : Int), .int .u8 (y.toNat : Int)] w fun e w' => e = .returned (.bool true) ∧ Grow w w' := by
  have hx : x.toNat < 256 := UInt8.toNat_lt _
  have hy : y.toNat < 256 := UInt8.toNat_lt _
  have e1 : ((hi n).toNat : Int) = n / 256 := by rw [hi_val]; omega
  have e2 : ((lo n).toNat : Int) = n % 256 := lo_val n
  have E1 : Hid (((hi n).toNat : Int) * 256 + ((lo n).toNat : Int) = n) := by rw [e1, e2]; unfold Hid; omega
  have hh : (hi n).toNat < 256 := UInt8.toNat_lt _
  have hl : (lo n).toNat < 256 := UInt8.toNat_lt _
  clear e1 e2
  go_enter Try.func3, Try.ntmps3
  go_wp2
  refine wp_region_told [ex (.int .i64 n), ex (.bool true), ex (.bool true), ex (.int .i64 n), ex (.bool true), ex (.bool true), ex (.bool true), ex (.int .i64 n), (TwoP n), ex (.int .i64 2), ex (.bool false), ex (.bool false), ex (.int .i64 n), (TwoP n), (CellP (.int .u8 ((hi n).toNat : Int))), ex (.int .u8 ((hi n).toNat : Int)), ex (.int .i64 ((hi n).toNat : Int)), ex (.int .i64 (((hi n).toNat : Int) * 256)), ex (.int .i64 n), (TwoP n), (CellP (.int .u8 ((lo n).toNat : Int))), ex (.int .u8 ((lo n).toNat : Int)), ex (.int .i64 ((lo n).toNat : Int)), ex (.int .i64 n), ex (.int .i64 n), ex (.bool false), ex (.bool false), ex (.bool false)] (by kernel_rfl) (by kernel_rfl) ⟨st_ex _, st_ex _, st_ex _, st_ex _, st_ex _, st_ex _, st_ex _, st_ex _, st_two n, st_ex _, st_ex _, st_ex _, st_ex _, st_two n, st_cell _, st_ex _, st_ex _, st_ex _, st_ex _, st_two n, st_cell _, st_ex _, st_ex _, st_ex _, st_ex _, st_ex _, st_ex _, st_ex _, trivial⟩ ?_ ?_
  · refine ⟨?_, ?_, ?_, ?_, ?_, ?_, ?_, ?_, ?_, ?_, ?_, ?_, ?_, ?_, ?_, ?_, ?_, ?_, ?_, ?_, ?_, ?_, ?_, ?_, ?_, ?_, ?_, ?_, trivial⟩
    · refine need_plain rfl (fun a w' hg hin => ?_)
      have e : a.eval (.tmp 1) = .int .i64 n := ins_ext hin 1 (by kernel_rfl)
      exact upon_move rfl e
    · refine need_plain rfl (fun a w' hg hin => ?_)
      have e9 : a.eval (.tmp 9) = .int .i64 n := ins_on hin 0 (by kernel_rfl)
      refine upon_val ?_ rfl
      clear hin hg
      have ek : ∀ x, a.eval (.const x) = x := fun _ => rfl
      have ef : ∀ f, a.eval (.func f) = .func (.func f) #[] #[] := fun _ => rfl
      generalize a.eval = ev at *
      go_simp
      all_goals first | done | omega | (intro _; omega) | go_arith
    · refine need_plain rfl (fun a w' hg hin => ?_)
      have e : a.eval (.tmp 10) = .bool true := ins_on hin 1 (by kernel_rfl)
      exact upon_move rfl e
    · refine need_yes 2 true rfl (fun a w' hin => ins_on hin 2 (by kernel_rfl)) (fun a w' hg hin => ?_)
      have e : a.eval (.tmp 1) = .int .i64 n := ins_ext hin 1 (by kernel_rfl)
      exact upon_move rfl e
    · refine need_yes 2 true rfl (fun a w' hin => ins_on hin 2 (by kernel_rfl)) (fun a w' hg hin => ?_)
      have e12 : a.eval (.tmp 12) = .int .i64 n := ins_on hin 3 (by kernel_rfl)
      refine upon_val ?_ rfl
      clear hin hg
      have ek : ∀ x, a.eval (.const x) = x := fun _ => rfl
      have ef : ∀ f, a.eval (.func f) = .func (.func f) #[] #[] := fun _ => rfl
      generalize a.eval = ev at *
      go_simp
      all_goals first | done | omega | (intro _; omega) | go_arith
    · refine need_plain rfl (fun a w' hg hin => ?_)
      have ec : a.eval (.tmp 11) = .bool true := ins_on hin 2 (by kernel_rfl)
      have e : a.eval (.tmp 13) = .bool true := ins_on hin 4 (by kernel_rfl)
      exact upon_pick rfl ec e
    · refine need_plain rfl (fun a w' hg hin => ?_)
      have e : a.eval (.tmp 14) = .bool true := ins_on hin 5 (by kernel_rfl)
      exact upon_move rfl e
    · refine need_yes 6 true rfl (fun a w' hin => ins_on hin 6 (by kernel_rfl)) (fun a w' hg hin => ?_)
      have e : a.eval (.tmp 1) = .int .i64 n := ins_ext hin 1 (by kernel_rfl)
      exact upon_move rfl e
    · refine need_yes 6 true rfl (fun a w' hin => ins_on hin 6 (by kernel_rfl)) (fun a w' hg hin => ?_)
      have e16 : a.eval (.tmp 16) = .int .i64 n := ins_on hin 7 (by kernel_rfl)
      refine upon_call (f := 6) (args := #[.int .i64 n]) ?_ (two_p n w')
      clear hin hg
      have ek : ∀ x, a.eval (.const x) = x := fun _ => rfl
      have ef : ∀ f, a.eval (.func f) = .func (.func f) #[] #[] := fun _ => rfl
      generalize a.eval = ev at *
      go_simp
      all_goals first | done | omega | (intro _; omega) | go_arith
    · refine need_yes 6 true rfl (fun a w' hin => ins_on hin 6 (by kernel_rfl)) (fun a w' hg hin => ?_)
      have e17 : (TwoP n) (a.eval (.tmp 17)) w' := ins_on hin 8 (by kernel_rfl)
      obtain ⟨b, cap, e17', -⟩ := e17
      refine upon_val ?_ rfl
      clear hin hg
      have ek : ∀ x, a.eval (.const x) = x := fun _ => rfl
      have ef : ∀ f, a.eval (.func f) = .func (.func f) #[] #[] := fun _ => rfl
      generalize a.eval = ev at *
      go_simp
      all_goals first | done | omega | (intro _; omega) | go_arith
    · refine need_yes 6 true rfl (fun a w' hin => ins_on hin 6 (by kernel_rfl)) (fun a w' hg hin => ?_)
      have e18 : a.eval (.tmp 18) = .int .i64 2 := ins_on hin 9 (by kernel_rfl)
      refine upon_val ?_ rfl
      clear hin hg
      have ek : ∀ x, a.eval (.const x) = x := fun _ => rfl
      have ef : ∀ f, a.eval (.func f) = .func (.func f) #[] #[] := fun _ => rfl
      generalize a.eval = ev at *
      go_simp
      all_goals first | done | omega | (intro _; omega) | go_arith
    · refine need_yes 6 true rfl (fun a w' hin => ins_on hin 6 (by kernel_rfl)) (fun a w' hg hin => ?_)
      have e : a.eval (.tmp 19) = .bool false := ins_on hin 10 (by kernel_rfl)
      exact upon_move rfl e
    · refine need_yes 11 false rfl (fun a w' hin => ins_on hin 11 (by kernel_rfl)) (fun a w' hg hin => ?_)
      have e : a.eval (.tmp 1) = .int .i64 n := ins_ext hin 1 (by kernel_rfl)
      exact upon_move rfl e
    · refine need_yes 11 false rfl (fun a w' hin => ins_on hin 11 (by kernel_rfl)) (fun a w' hg hin => ?_)
      have e21 : a.eval (.tmp 21) = .int .i64 n := ins_on hin 12 (by kernel_rfl)
      refine upon_call (f := 6) (args := #[.int .i64 n]) ?_ (two_p n w')
      clear hin hg
      have ek : ∀ x, a.eval (.const x) = x := fun _ => rfl
      have ef : ∀ f, a.eval (.func f) = .func (.func f) #[] #[] := fun _ => rfl
      generalize a.eval = ev at *
      go_simp
      all_goals first | done | omega | (intro _; omega) | go_arith
    · refine need_yes 11 false rfl (fun a w' hin => ins_on hin 11 (by kernel_rfl)) (fun a w' hg hin => ?_)
      have e22 : (TwoP n) (a.eval (.tmp 22)) w' := ins_on hin 13 (by kernel_rfl)
      obtain ⟨b, cap, e22', h2, h3, h4⟩ := e22
      refine upon_val (v := .pointer (some ⟨b, 0, none⟩)) ?_ ⟨b, 0, rfl, h3⟩
      clear hin hg h3 h4
      have ek : ∀ x, a.eval (.const x) = x := fun _ => rfl
      have ef : ∀ f, a.eval (.func f) = .func (.func f) #[] #[] := fun _ => rfl
      generalize a.eval = ev at *
      go_simp
      all_goals first | done | omega | (intro _; omega) | go_arith
    · refine need_yes 11 false rfl (fun a w' hin => ins_on hin 11 (by kernel_rfl)) (fun a w' hg hin => ?_)
      have e23 : (CellP (.int .u8 ((hi n).toNat : Int))) (a.eval (.tmp 23)) w' := ins_on hin 14 (by kernel_rfl)
      obtain ⟨b, off, e23', h3⟩ := e23
      refine upon_val ?_ rfl
      clear hin hg
      have ek : ∀ x, a.eval (.const x) = x := fun _ => rfl
      have ef : ∀ f, a.eval (.func f) = .func (.func f) #[] #[] := fun _ => rfl
      generalize a.eval = ev at *
      go_simp
      all_goals first | done | omega | (intro _; omega) | go_arith
    · refine need_yes 11 false rfl (fun a w' hin => ins_on hin 11 (by kernel_rfl)) (fun a w' hg hin => ?_)
      have e24 : a.eval (.tmp 24) = .int .u8 ((hi n).toNat : Int) := ins_on hin 15 (by kernel_rfl)
      refine upon_val ?_ rfl
      clear hin hg
      have ek : ∀ x, a.eval (.const x) = x := fun _ => rfl
      have ef : ∀ f, a.eval (.func f) = .func (.func f) #[] #[] := fun _ => rfl
      generalize a.eval = ev at *
      go_simp
      all_goals first | done | omega | (intro _; omega) | go_arith
    · refine need_yes 11 false rfl (fun a w' hin => ins_on hin 11 (by kernel_rfl)) (fun a w' hg hin => ?_)
      have e25 : a.eval (.tmp 25) = .int .i64 ((hi n).toNat : Int) := ins_on hin 16 (by kernel_rfl)
      refine upon_val ?_ rfl
      clear hin hg
      have ek : ∀ x, a.eval (.const x) = x := fun _ => rfl
      have ef : ∀ f, a.eval (.func f) = .func (.func f) #[] #[] := fun _ => rfl
      generalize a.eval = ev at *
      go_simp
      all_goals first | done | omega | (intro _; omega) | go_arith
    · refine need_yes 11 false rfl (fun a w' hin => ins_on hin 11 (by kernel_rfl)) (fun a w' hg hin => ?_)
      have e : a.eval (.tmp 1) = .int .i64 n := ins_ext hin 1 (by kernel_rfl)
      exact upon_move rfl e
    · refine need_yes 11 false rfl (fun a w' hin => ins_on hin 11 (by kernel_rfl)) (fun a w' hg hin => ?_)
      have e27 : a.eval (.tmp 27) = .int .i64 n := ins_on hin 18 (by kernel_rfl)
      refine upon_call (f := 6) (args := #[.int .i64 n]) ?_ (two_p n w')
      clear hin hg
      have ek : ∀ x, a.eval (.const x) = x := fun _ => rfl
      have ef : ∀ f, a.eval (.func f) = .func (.func f) #[] #[] := fun _ => rfl
      generalize a.eval = ev at *
      go_simp
      all_goals first | done | omega | (intro _; omega) | go_arith
    · refine need_yes 11 false rfl (fun a w' hin => ins_on hin 11 (by kernel_rfl)) (fun a w' hg hin => ?_)
      have e28 : (TwoP n) (a.eval (.tmp 28)) w' := ins_on hin 19 (by kernel_rfl)
      obtain ⟨b, cap, e28', h2, h3, h4⟩ := e28
      refine upon_val (v := .pointer (some ⟨b, 1, none⟩)) ?_ ⟨b, 1, rfl, h4⟩
      clear hin hg h3 h4
      have ek : ∀ x, a.eval (.const x) = x := fun _ => rfl
      have ef : ∀ f, a.eval (.func f) = .func (.func f) #[] #[] := fun _ => rfl
      generalize a.eval = ev at *
      go_simp
      all_goals first | done | omega | (intro _; omega) | go_arith
    · refine need_yes 11 false rfl (fun a w' hin => ins_on hin 11 (by kernel_rfl)) (fun a w' hg hin => ?_)
      have e29 : (CellP (.int .u8 ((lo n).toNat : Int))) (a.eval (.tmp 29)) w' := ins_on hin 20 (by kernel_rfl)
      obtain ⟨b, off, e29', h3⟩ := e29
      refine upon_val ?_ rfl
      clear hin hg
      have ek : ∀ x, a.eval (.const x) = x := fun _ => rfl
      have ef : ∀ f, a.eval (.func f) = .func (.func f) #[] #[] := fun _ => rfl
      generalize a.eval = ev at *
      go_simp
      all_goals first | done | omega | (intro _; omega) | go_arith
    · refine need_yes 11 false rfl (fun a w' hin => ins_on hin 11 (by kernel_rfl)) (fun a w' hg hin => ?_)
      have e30 : a.eval (.tmp 30) = .int .u8 ((lo n).toNat : Int) := ins_on hin 21 (by kernel_rfl)
      refine upon_val ?_ rfl
      clear hin hg
      have ek : ∀ x, a.eval (.const x) = x := fun _ => rfl
      have ef : ∀ f, a.eval (.func f) = .func (.func f) #[] #[] := fun _ => rfl
      generalize a.eval = ev at *
      go_simp
      all_goals first | done | omega | (intro _; omega) | go_arith
    · refine need_yes 11 false rfl (fun a w' hin => ins_on hin 11 (by kernel_rfl)) (fun a w' hg hin => ?_)
      have e26 : a.eval (.tmp 26) = .int .i64 (((hi n).toNat : Int) * 256) := ins_on hin 17 (by kernel_rfl)
      have e31 : a.eval (.tmp 31) = .int .i64 ((lo n).toNat : Int) := ins_on hin 22 (by kernel_rfl)
      refine upon_val ?_ (show ex (.int .i64 n) (.int .i64 n) w' from rfl)
      have hw : IntKind.i64.wrap (((hi n).toNat : Int) * 256 + ((lo n).toNat : Int)) = n := by rw [E1.out, IntKind.wrap_i64]; omega
      clear hin hg
      have ek : ∀ x, a.eval (.const x) = x := fun _ => rfl
      have ef : ∀ f, a.eval (.func f) = .func (.func f) #[] #[] := fun _ => rfl
      generalize a.eval = ev at *
      go_simp
      all_goals first | done | omega | (intro _; omega) | go_arith
    · refine need_yes 11 false rfl (fun a w' hin => ins_on hin 11 (by kernel_rfl)) (fun a w' hg hin => ?_)
      have e : a.eval (.tmp 1) = .int .i64 n := ins_ext hin 1 (by kernel_rfl)
      exact upon_move rfl e
    · refine need_yes 11 false rfl (fun a w' hin => ins_on hin 11 (by kernel_rfl)) (fun a w' hg hin => ?_)
      have e32 : a.eval (.tmp 32) = .int .i64 n := ins_on hin 23 (by kernel_rfl)
      have e33 : a.eval (.tmp 33) = .int .i64 n := ins_on hin 24 (by kernel_rfl)
      refine upon_val ?_ rfl
      clear hin hg
      have ek : ∀ x, a.eval (.const x) = x := fun _ => rfl
      have ef : ∀ f, a.eval (.func f) = .func (.func f) #[] #[] := fun _ => rfl
      generalize a.eval = ev at *
      go_simp
      all_goals first | done | omega | (intro _; omega) | go_arith
    · refine need_yes 6 true rfl (fun a w' hin => ins_on hin 6 (by kernel_rfl)) (fun a w' hg hin => ?_)
      have ec : a.eval (.tmp 20) = .bool false := ins_on hin 11 (by kernel_rfl)
      have e : a.eval (.tmp 34) = .bool false := ins_on hin 25 (by kernel_rfl)
      exact upon_pick rfl ec e
    · refine need_plain rfl (fun a w' hg hin => ?_)
      have ec : a.eval (.tmp 15) = .bool true := ins_on hin 6 (by kernel_rfl)
      have e : a.eval (.tmp 35) = .bool false := ins_on hin 26 (by kernel_rfl)
      exact upon_pick rfl ec e
  · intro vs w' hg ht
    obtain ⟨q9, q10, q11, q12, q13, q14, q15, q16, q17, q18, q19, q20, q21, q22, q23, q24, q25, q26, q27, q28, q29, q30, q31, q32, q33, q34, q35, q36, -⟩ := ht
    have r9 : vs 0 = .int .i64 n := q9
    have r10 : vs 1 = .bool true := q10
    have r11 : vs 2 = .bool true := q11
    have r12 : vs 3 = .int .i64 n := q12
    have r13 : vs 4 = .bool true := q13
    have r14 : vs 5 = .bool true := q14
    have r15 : vs 6 = .bool true := q15
    have r16 : vs 7 = .int .i64 n := q16
    have r18 : vs 9 = .int .i64 2 := q18
    have r19 : vs 10 = .bool false := q19
    have r20 : vs 11 = .bool false := q20
    have r21 : vs 12 = .int .i64 n := q21
    have r24 : vs 15 = .int .u8 ((hi n).toNat : Int) := q24
    have r25 : vs 16 = .int .i64 ((hi n).toNat : Int) := q25
    have r26 : vs 17 = .int .i64 (((hi n).toNat : Int) * 256) := q26
    have r27 : vs 18 = .int .i64 n := q27
    have r30 : vs 21 = .int .u8 ((lo n).toNat : Int) := q30
    have r31 : vs 22 = .int .i64 ((lo n).toNat : Int) := q31
    have r32 : vs 23 = .int .i64 n := q32
    have r33 : vs 24 = .int .i64 n := q33
    have r34 : vs 25 = .bool false := q34
    have r35 : vs 26 = .bool false := q35
    have r36 : vs 27 = .bool false := q36
    clear q9 q10 q11 q12 q13 q14 q15 q16 q18 q19 q20 q21 q24 q25 q26 q27 q30 q31 q32 q33 q34 q35 q36
    simp only [putAll, Act.put, List.setIfInBounds_toArray, List.set_cons_zero, List.set_cons_succ, r9, r10, r11, r12, r13, r14, r15, r16, r18, r19, r20, r21, r24, r25, r26, r27, r30, r31, r32, r33, r34, r35, r36]
    clear r9 r10 r11 r12 r13 r14 r15 r16 r18 r19 r20 r21 r24 r25 r26 r27 r30 r31 r32 r33 r34 r35 r36
    go_wp2
    have hg0 := hg
    clear hg E1 hh hl h0 h1
    refine wp_region_told [ex (v), ex (.int .i64 (sumOf l)), ex (v), ex (.int .i64 (sumOf l)), ex (.bool true), ex (.bool true), ex (.int .u8 (x.toNat : Int)), ex (.int .u8 (y.toNat : Int)), ex (.int .i64 ((x.toNat : Int) * 256 + (y.toNat : Int))), ex (.int .u8 (x.toNat : Int)), ex (.int .i64 (x.toNat : Int)), ex (.int .i64 ((x.toNat : Int) * 256)), ex (.int .u8 (y.toNat : Int)), ex (.int .i64 (y.toNat : Int)), ex (.int .i64 ((x.toNat : Int) * 256 + (y.toNat : Int))), ex (.bool true), ex (.bool true), ex (.bool true), ex (v), (fun v w => Bytes w v (sealed l)), ex (str (sealed l)), ex (v), (fun v w => Bytes w v (sealed l)), ex (str (sealed l)), ex (.bool true), ex (.bool true), ex (.bool true), ex (v), ex (.bool (sealedB l)), ex (v), ex (.bool (sealedB l)), ex (.bool true), ex (.bool true), ex (.bool true)] (by kernel_rfl) (by kernel_rfl) ⟨st_ex _, st_ex _, st_ex _, st_ex _, st_ex _, st_ex _, st_ex _, st_ex _, st_ex _, st_ex _, st_ex _, st_ex _, st_ex _, st_ex _, st_ex _, st_ex _, st_ex _, st_ex _, st_ex _, st_bytes _, st_ex _, st_ex _, st_bytes _, st_ex _, st_ex _, st_ex _, st_ex _, st_ex _, st_ex _, st_ex _, st_ex _, st_ex _, st_ex _, st_ex _, trivial⟩ ?_ ?_
    · refine ⟨?_, ?_, ?_, ?_, ?_, ?_, ?_, ?_, ?_, ?_, ?_, ?_, ?_, ?_, ?_, ?_, ?_, ?_, ?_, ?_, ?_, ?_, ?_, ?_, ?_, ?_, ?_, ?_, ?_, ?_, ?_, ?_, ?_, ?_, trivial⟩
      · refine need_plain rfl (fun a w' hg hin => ?_)
        have e : a.eval (.tmp 0) = v := ins_ext hin 0 (by kernel_rfl)
        exact upon_move rfl e
      · refine need_plain rfl (fun a w' hg hin => ?_)
        have e37 : a.eval (.tmp 37) = v := ins_on hin 0 (by kernel_rfl)
        refine upon_call (f := 7) (args := #[v]) ?_ ((of_any l v w' (by omega) (bytes_grow hb (hg0.trans hg))).mono ?_)
        · clear hin hg
          have ek : ∀ x, a.eval (.const x) = x := fun _ => rfl
          have ef : ∀ f, a.eval (.func f) = .func (.func f) #[] #[] := fun _ => rfl
          generalize a.eval = ev at *
          go_simp
          all_goals first | done | omega | (intro _; omega) | go_arith
        · rintro e w2 ⟨rfl, rfl⟩
          exact ⟨_, rfl, Grow.refl _, rfl⟩
      · refine need_plain rfl (fun a w' hg hin => ?_)
        have e : a.eval (.tmp 0) = v := ins_ext hin 0 (by kernel_rfl)
        exact upon_move rfl e
      · refine need_plain rfl (fun a w' hg hin => ?_)
        have e39 : a.eval (.tmp 39) = v := ins_on hin 2 (by kernel_rfl)
        refine upon_call (f := 8) (args := #[v]) ?_ ((rsum_any l v w' (by omega) (bytes_grow hb (hg0.trans hg))).mono ?_)
        · clear hin hg
          have ek : ∀ x, a.eval (.const x) = x := fun _ => rfl
          have ef : ∀ f, a.eval (.func f) = .func (.func f) #[] #[] := fun _ => rfl
          generalize a.eval = ev at *
          go_simp
          all_goals first | done | omega | (intro _; omega) | go_arith
        · rintro e w2 ⟨rfl, rfl⟩
          exact ⟨_, rfl, Grow.refl _, rfl⟩
      · refine need_plain rfl (fun a w' hg hin => ?_)
        have e38 : a.eval (.tmp 38) = .int .i64 (sumOf l) := ins_on hin 1 (by kernel_rfl)
        have e40 : a.eval (.tmp 40) = .int .i64 (sumOf l) := ins_on hin 3 (by kernel_rfl)
        refine upon_val ?_ rfl
        clear hin hg
        have ek : ∀ x, a.eval (.const x) = x := fun _ => rfl
        have ef : ∀ f, a.eval (.func f) = .func (.func f) #[] #[] := fun _ => rfl
        generalize a.eval = ev at *
        go_simp
        all_goals first | done | omega | (intro _; omega) | go_arith
      · refine need_plain rfl (fun a w' hg hin => ?_)
        have e : a.eval (.tmp 41) = .bool true := ins_on hin 4 (by kernel_rfl)
        exact upon_move rfl e
      · refine need_yes 5 true rfl (fun a w' hin => ins_on hin 5 (by kernel_rfl)) (fun a w' hg hin => ?_)
        have e : a.eval (.tmp 2) = .int .u8 (x.toNat : Int) := ins_ext hin 2 (by kernel_rfl)
        exact upon_move rfl e
      · refine need_yes 5 true rfl (fun a w' hin => ins_on hin 5 (by kernel_rfl)) (fun a w' hg hin => ?_)
        have e : a.eval (.tmp 3) = .int .u8 (y.toNat : Int) := ins_ext hin 3 (by kernel_rfl)
        exact upon_move rfl e
      · refine need_yes 5 true rfl (fun a w' hin => ins_on hin 5 (by kernel_rfl)) (fun a w' hg hin => ?_)
        have e43 : a.eval (.tmp 43) = .int .u8 (x.toNat : Int) := ins_on hin 6 (by kernel_rfl)
        have e44 : a.eval (.tmp 44) = .int .u8 (y.toNat : Int) := ins_on hin 7 (by kernel_rfl)
        refine upon_call (f := 9) (args := #[.int .u8 (x.toNat : Int), .int .u8 (y.toNat : Int)]) ?_ ((number_any x y w').mono ?_)
        · clear hin hg
          have ek : ∀ x, a.eval (.const x) = x := fun _ => rfl
          have ef : ∀ f, a.eval (.func f) = .func (.func f) #[] #[] := fun _ => rfl
          generalize a.eval = ev at *
          go_simp
          all_goals first | done | omega | (intro _; omega) | go_arith
        · rintro e w2 ⟨rfl, rfl⟩
          exact ⟨_, rfl, Grow.refl _, rfl⟩
      · refine need_yes 5 true rfl (fun a w' hin => ins_on hin 5 (by kernel_rfl)) (fun a w' hg hin => ?_)
        have e : a.eval (.tmp 2) = .int .u8 (x.toNat : Int) := ins_ext hin 2 (by kernel_rfl)
        exact upon_move rfl e
      · refine need_yes 5 true rfl (fun a w' hin => ins_on hin 5 (by kernel_rfl)) (fun a w' hg hin => ?_)
        have e46 : a.eval (.tmp 46) = .int .u8 (x.toNat : Int) := ins_on hin 9 (by kernel_rfl)
        refine upon_val ?_ rfl
        clear hin hg
        have ek : ∀ x, a.eval (.const x) = x := fun _ => rfl
        have ef : ∀ f, a.eval (.func f) = .func (.func f) #[] #[] := fun _ => rfl
        generalize a.eval = ev at *
        go_simp
        all_goals first | done | omega | (intro _; omega) | go_arith
      · refine need_yes 5 true rfl (fun a w' hin => ins_on hin 5 (by kernel_rfl)) (fun a w' hg hin => ?_)
        have e47 : a.eval (.tmp 47) = .int .i64 (x.toNat : Int) := ins_on hin 10 (by kernel_rfl)
        refine upon_val ?_ rfl
        clear hin hg
        have ek : ∀ x, a.eval (.const x) = x := fun _ => rfl
        have ef : ∀ f, a.eval (.func f) = .func (.func f) #[] #[] := fun _ => rfl
        generalize a.eval = ev at *
        go_simp
        all_goals first | done | omega | (intro _; omega) | go_arith
      · refine need_yes 5 true rfl (fun a w' hin => ins_on hin 5 (by kernel_rfl)) (fun a w' hg hin => ?_)
        have e : a.eval (.tmp 3) = .int .u8 (y.toNat : Int) := ins_ext hin 3 (by kernel_rfl)
        exact upon_move rfl e
      · refine need_yes 5 true rfl (fun a w' hin => ins_on hin 5 (by kernel_rfl)) (fun a w' hg hin => ?_)
        have e49 : a.eval (.tmp 49) = .int .u8 (y.toNat : Int) := ins_on hin 12 (by kernel_rfl)
        refine upon_val ?_ rfl
        clear hin hg
        have ek : ∀ x, a.eval (.const x) = x := fun _ => rfl
        have ef : ∀ f, a.eval (.func f) = .func (.func f) #[] #[] := fun _ => rfl
        generalize a.eval = ev at *
        go_simp
        all_goals first | done | omega | (intro _; omega) | go_arith
      · refine need_yes 5 true rfl (fun a w' hin => ins_on hin 5 (by kernel_rfl)) (fun a w' hg hin => ?_)
        have e48 : a.eval (.tmp 48) = .int .i64 ((x.toNat : Int) * 256) := ins_on hin 11 (by kernel_rfl)
        have e50 : a.eval (.tmp 50) = .int .i64 (y.toNat : Int) := ins_on hin 13 (by kernel_rfl)
        refine upon_val ?_ rfl
        clear hin hg
        have ek : ∀ x, a.eval (.const x) = x := fun _ => rfl
        have ef : ∀ f, a.eval (.func f) = .func (.func f) #[] #[] := fun _ => rfl
        generalize a.eval = ev at *
        go_simp
        all_goals first | done | omega | (intro _; omega) | go_arith
      · refine need_yes 5 true rfl (fun a w' hin => ins_on hin 5 (by kernel_rfl)) (fun a w' hg hin => ?_)
        have e45 : a.eval (.tmp 45) = .int .i64 ((x.toNat : Int) * 256 + (y.toNat : Int)) := ins_on hin 8 (by kernel_rfl)
        have e51 : a.eval (.tmp 51) = .int .i64 ((x.toNat : Int) * 256 + (y.toNat : Int)) := ins_on hin 14 (by kernel_rfl)
        refine upon_val ?_ rfl
        clear hin hg
        have ek : ∀ x, a.eval (.const x) = x := fun _ => rfl
        have ef : ∀ f, a.eval (.func f) = .func (.func f) #[] #[] := fun _ => rfl
        generalize a.eval = ev at *
        go_simp
        all_goals first | done | omega | (intro _; omega) | go_arith
      · refine need_plain rfl (fun a w' hg hin => ?_)
        have ec : a.eval (.tmp 42) = .bool true := ins_on hin 5 (by kernel_rfl)
        have e : a.eval (.tmp 52) = .bool true := ins_on hin 15 (by kernel_rfl)
        exact upon_pick rfl ec e
      · refine need_plain rfl (fun a w' hg hin => ?_)
        have e : a.eval (.tmp 53) = .bool true := ins_on hin 16 (by kernel_rfl)
        exact upon_move rfl e
      · refine need_yes 17 true rfl (fun a w' hin => ins_on hin 17 (by kernel_rfl)) (fun a w' hg hin => ?_)
        have e : a.eval (.tmp 0) = v := ins_ext hin 0 (by kernel_rfl)
        exact upon_move rfl e
      · refine need_yes 17 true rfl (fun a w' hin => ins_on hin 17 (by kernel_rfl)) (fun a w' hg hin => ?_)
        have e55 : a.eval (.tmp 55) = v := ins_on hin 18 (by kernel_rfl)
        refine upon_call (f := 10) (args := #[v]) ?_ ((seal_any l v w' hm (bytes_grow hb (hg0.trans hg))).mono ?_)
        · clear hin hg
          have ek : ∀ x, a.eval (.const x) = x := fun _ => rfl
          have ef : ∀ f, a.eval (.func f) = .func (.func f) #[] #[] := fun _ => rfl
          generalize a.eval = ev at *
          go_simp
          all_goals first | done | omega | (intro _; omega) | go_arith
        · rintro e w2 ⟨v', rfl, ho, hgr⟩
          exact ⟨_, rfl, hgr, bytes_own ho⟩
      · refine need_yes 17 true rfl (fun a w' hin => ins_on hin 17 (by kernel_rfl)) (fun a w' hg hin => ?_)
        have e56 : (fun v w => Bytes w v (sealed l)) (a.eval (.tmp 56)) w' := ins_on hin 19 (by kernel_rfl)
        refine upon_val ?_ rfl
        have hrun := run_str w' _ _ e56
        clear hin hg e56
        have ek : ∀ x, a.eval (.const x) = x := fun _ => rfl
        have ef : ∀ f, a.eval (.func f) = .func (.func f) #[] #[] := fun _ => rfl
        generalize a.eval = ev at *
        go_simp
        all_goals first | done | omega | (intro _; omega) | go_arith
      · refine need_yes 17 true rfl (fun a w' hin => ins_on hin 17 (by kernel_rfl)) (fun a w' hg hin => ?_)
        have e : a.eval (.tmp 0) = v := ins_ext hin 0 (by kernel_rfl)
        exact upon_move rfl e
      · refine need_yes 17 true rfl (fun a w' hin => ins_on hin 17 (by kernel_rfl)) (fun a w' hg hin => ?_)
        have e58 : a.eval (.tmp 58) = v := ins_on hin 21 (by kernel_rfl)
        refine upon_call (f := 11) (args := #[v]) ?_ ((rseal_any l v w' hm (bytes_grow hb (hg0.trans hg))).mono ?_)
        · clear hin hg
          have ek : ∀ x, a.eval (.const x) = x := fun _ => rfl
          have ef : ∀ f, a.eval (.func f) = .func (.func f) #[] #[] := fun _ => rfl
          generalize a.eval = ev at *
          go_simp
          all_goals first | done | omega | (intro _; omega) | go_arith
        · rintro e w2 ⟨v', rfl, ho, hgr⟩
          exact ⟨_, rfl, hgr, bytes_own ho⟩
      · refine need_yes 17 true rfl (fun a w' hin => ins_on hin 17 (by kernel_rfl)) (fun a w' hg hin => ?_)
        have e59 : (fun v w => Bytes w v (sealed l)) (a.eval (.tmp 59)) w' := ins_on hin 22 (by kernel_rfl)
        refine upon_val ?_ rfl
        have hrun := run_str w' _ _ e59
        clear hin hg e59
        have ek : ∀ x, a.eval (.const x) = x := fun _ => rfl
        have ef : ∀ f, a.eval (.func f) = .func (.func f) #[] #[] := fun _ => rfl
        generalize a.eval = ev at *
        go_simp
        all_goals first | done | omega | (intro _; omega) | go_arith
      · refine need_yes 17 true rfl (fun a w' hin => ins_on hin 17 (by kernel_rfl)) (fun a w' hg hin => ?_)
        have e57 : a.eval (.tmp 57) = str (sealed l) := ins_on hin 20 (by kernel_rfl)
        have e60 : a.eval (.tmp 60) = str (sealed l) := ins_on hin 23 (by kernel_rfl)
        refine upon_val ?_ rfl
        unfold str at e57 e60
        clear hin hg
        have ek : ∀ x, a.eval (.const x) = x := fun _ => rfl
        have ef : ∀ f, a.eval (.func f) = .func (.func f) #[] #[] := fun _ => rfl
        generalize a.eval = ev at *
        go_simp
        all_goals first | done | omega | (intro _; omega) | go_arith
      · refine need_plain rfl (fun a w' hg hin => ?_)
        have ec : a.eval (.tmp 54) = .bool true := ins_on hin 17 (by kernel_rfl)
        have e : a.eval (.tmp 61) = .bool true := ins_on hin 24 (by kernel_rfl)
        exact upon_pick rfl ec e
      · refine need_plain rfl (fun a w' hg hin => ?_)
        have e : a.eval (.tmp 62) = .bool true := ins_on hin 25 (by kernel_rfl)
        exact upon_move rfl e
      · refine need_yes 26 true rfl (fun a w' hin => ins_on hin 26 (by kernel_rfl)) (fun a w' hg hin => ?_)
        have e : a.eval (.tmp 0) = v := ins_ext hin 0 (by kernel_rfl)
        exact upon_move rfl e
      · refine need_yes 26 true rfl (fun a w' hin => ins_on hin 26 (by kernel_rfl)) (fun a w' hg hin => ?_)
        have e64 : a.eval (.tmp 64) = v := ins_on hin 27 (by kernel_rfl)
        refine upon_call (f := 12) (args := #[v]) ?_ ((issealed_any l v w' (by omega) (bytes_grow hb (hg0.trans hg))).mono ?_)
        · clear hin hg
          have ek : ∀ x, a.eval (.const x) = x := fun _ => rfl
          have ef : ∀ f, a.eval (.func f) = .func (.func f) #[] #[] := fun _ => rfl
          generalize a.eval = ev at *
          go_simp
          all_goals first | done | omega | (intro _; omega) | go_arith
        · rintro e w2 ⟨rfl, hgr⟩
          exact ⟨_, rfl, hgr, rfl⟩
      · refine need_yes 26 true rfl (fun a w' hin => ins_on hin 26 (by kernel_rfl)) (fun a w' hg hin => ?_)
        have e : a.eval (.tmp 0) = v := ins_ext hin 0 (by kernel_rfl)
        exact upon_move rfl e
      · refine need_yes 26 true rfl (fun a w' hin => ins_on hin 26 (by kernel_rfl)) (fun a w' hg hin => ?_)
        have e66 : a.eval (.tmp 66) = v := ins_on hin 29 (by kernel_rfl)
        refine upon_call (f := 13) (args := #[v]) ?_ ((rsealed_any l v w' (by omega) (bytes_grow hb (hg0.trans hg))).mono ?_)
        · clear hin hg
          have ek : ∀ x, a.eval (.const x) = x := fun _ => rfl
          have ef : ∀ f, a.eval (.func f) = .func (.func f) #[] #[] := fun _ => rfl
          generalize a.eval = ev at *
          go_simp
          all_goals first | done | omega | (intro _; omega) | go_arith
        · rintro e w2 ⟨rfl, hgr⟩
          exact ⟨_, rfl, hgr, rfl⟩
      · refine need_yes 26 true rfl (fun a w' hin => ins_on hin 26 (by kernel_rfl)) (fun a w' hg hin => ?_)
        have e65 : a.eval (.tmp 65) = .bool (sealedB l) := ins_on hin 28 (by kernel_rfl)
        have e67 : a.eval (.tmp 67) = .bool (sealedB l) := ins_on hin 30 (by kernel_rfl)
        refine upon_val ?_ rfl
        clear hin hg
        have ek : ∀ x, a.eval (.const x) = x := fun _ => rfl
        have ef : ∀ f, a.eval (.func f) = .func (.func f) #[] #[] := fun _ => rfl
        generalize a.eval = ev at *
        go_simp
        all_goals first | done | omega | (intro _; omega) | go_arith
      · refine need_plain rfl (fun a w' hg hin => ?_)
        have ec : a.eval (.tmp 63) = .bool true := ins_on hin 26 (by kernel_rfl)
        have e : a.eval (.tmp 68) = .bool true := ins_on hin 31 (by kernel_rfl)
        exact upon_pick rfl ec e
      · refine need_plain rfl (fun a w' hg hin => ?_)
        have e : a.eval (.tmp 69) = .bool true := ins_on hin 32 (by kernel_rfl)
        exact upon_assign rfl e
    · intro vs w' hg ht
      obtain ⟨q37, q38, q39, q40, q41, q42, q43, q44, q45, q46, q47, q48, q49, q50, q51, q52, q53, q54, q55, q56, q57, q58, q59, q60, q61, q62, q63, q64, q65, q66, q67, q68, q69, q8, -⟩ := ht
      have r37 : vs 0 = v := q37
      have r38 : vs 1 = .int .i64 (sumOf l) := q38
      have r39 : vs 2 = v := q39
      have r40 : vs 3 = .int .i64 (sumOf l) := q40
      have r41 : vs 4 = .bool true := q41
      have r42 : vs 5 = .bool true := q42
      have r43 : vs 6 = .int .u8 (x.toNat : Int) := q43
      have r44 : vs 7 = .int .u8 (y.toNat : Int) := q44
      have r45 : vs 8 = .int .i64 ((x.toNat : Int) * 256 + (y.toNat : Int)) := q45
      have r46 : vs 9 = .int .u8 (x.toNat : Int) := q46
      have r47 : vs 10 = .int .i64 (x.toNat : Int) := q47
      have r48 : vs 11 = .int .i64 ((x.toNat : Int) * 256) := q48
      have r49 : vs 12 = .int .u8 (y.toNat : Int) := q49
      have r50 : vs 13 = .int .i64 (y.toNat : Int) := q50
      have r51 : vs 14 = .int .i64 ((x.toNat : Int) * 256 + (y.toNat : Int)) := q51
      have r52 : vs 15 = .bool true := q52
      have r53 : vs 16 = .bool true := q53
      have r54 : vs 17 = .bool true := q54
      have r55 : vs 18 = v := q55
      have r57 : vs 20 = str (sealed l) := q57
      have r58 : vs 21 = v := q58
      have r60 : vs 23 = str (sealed l) := q60
      have r61 : vs 24 = .bool true := q61
      have r62 : vs 25 = .bool true := q62
      have r63 : vs 26 = .bool true := q63
      have r64 : vs 27 = v := q64
      have r65 : vs 28 = .bool (sealedB l) := q65
      have r66 : vs 29 = v := q66
      have r67 : vs 30 = .bool (sealedB l) := q67
      have r68 : vs 31 = .bool true := q68
      have r69 : vs 32 = .bool true := q69
      have r8 : vs 33 = .bool true := q8
      clear q37 q38 q39 q40 q41 q42 q43 q44 q45 q46 q47 q48 q49 q50 q51 q52 q53 q54 q55 q57 q58 q60 q61 q62 q63 q64 q65 q66 q67 q68 q69 q8
      simp only [putAll, Act.put, List.setIfInBounds_toArray, List.set_cons_zero, List.set_cons_succ, r37, r38, r39, r40, r41, r42, r43, r44, r45, r46, r47, r48, r49, r50, r51, r52, r53, r54, r55, r57, r58, r60, r61, r62, r63, r64, r65, r66, r67, r68, r69, r8]
      clear r37 r38 r39 r40 r41 r42 r43 r44 r45 r46 r47 r48 r49 r50 r51 r52 r53 r54 r55 r57 r58 r60 r61 r62 r63 r64 r65 r66 r67 r68 r69 r8
      go_wp2
      go_ret
      exact ⟨rfl, hg0.trans hg⟩

set_option maxHeartbeats 1000000 in
theorem sumtells_neg (l : List UInt8) (v : Value) (n : Int) (x y : UInt8) (w : World) (hm : l.length ≤ 140737488355326) (hb : Bytes w v l) (h0 : n < 0) :
    Calls Try.prog 3 #[v, .int .i64 n, .int .u8 (x.toNat : Int), .int .u8 (y.toNat : Int)] w fun e w' => e = .returned (.bool true) ∧ Grow w w' := by
  have hx : x.toNat < 256 := UInt8.toNat_lt _
  have hy : y.toNat < 256 := UInt8.toNat_lt _
  go_enter Try.func3, Try.ntmps3
  go_wp2
  refine wp_region_told [ex (.int .i64 n), ex (.bool false), ex (.bool false), ex (undef), ex (undef), ex (.bool false), ex (.bool false), ex (undef), ex (undef), ex (undef), ex (undef), ex (undef), ex (undef), ex (undef), ex (undef), ex (undef), ex (undef), ex (undef), ex (undef), ex (undef), ex (undef), ex (undef), ex (undef), ex (undef), ex (undef), ex (undef), ex (undef), ex (.bool false)] (by kernel_rfl) (by kernel_rfl) ⟨st_ex _, st_ex _, st_ex _, st_ex _, st_ex _, st_ex _, st_ex _, st_ex _, st_ex _, st_ex _, st_ex _, st_ex _, st_ex _, st_ex _, st_ex _, st_ex _, st_ex _, st_ex _, st_ex _, st_ex _, st_ex _, st_ex _, st_ex _, st_ex _, st_ex _, st_ex _, st_ex _, st_ex _, trivial⟩ ?_ ?_
  · refine ⟨?_, ?_, ?_, ?_, ?_, ?_, ?_, ?_, ?_, ?_, ?_, ?_, ?_, ?_, ?_, ?_, ?_, ?_, ?_, ?_, ?_, ?_, ?_, ?_, ?_, ?_, ?_, ?_, trivial⟩
    · refine need_plain rfl (fun a w' hg hin => ?_)
      have e : a.eval (.tmp 1) = .int .i64 n := ins_ext hin 1 (by kernel_rfl)
      exact upon_move rfl e
    · refine need_plain rfl (fun a w' hg hin => ?_)
      have e9 : a.eval (.tmp 9) = .int .i64 n := ins_on hin 0 (by kernel_rfl)
      refine upon_val ?_ rfl
      clear hin hg
      have ek : ∀ x, a.eval (.const x) = x := fun _ => rfl
      have ef : ∀ f, a.eval (.func f) = .func (.func f) #[] #[] := fun _ => rfl
      generalize a.eval = ev at *
      go_simp
      all_goals first | done | omega | (intro _; omega) | go_arith
    · refine need_plain rfl (fun a w' hg hin => ?_)
      have e : a.eval (.tmp 10) = .bool false := ins_on hin 1 (by kernel_rfl)
      exact upon_move rfl e
    · refine need_no 2 true false rfl (by decide) (fun a w' hin => ins_on hin 2 (by kernel_rfl)) (fun _ => rfl)
    · refine need_no 2 true false rfl (by decide) (fun a w' hin => ins_on hin 2 (by kernel_rfl)) (fun _ => rfl)
    · refine need_plain rfl (fun a w' hg hin => ?_)
      have ec : a.eval (.tmp 11) = .bool false := ins_on hin 2 (by kernel_rfl)
      exact upon_pick rfl ec rfl
    · refine need_plain rfl (fun a w' hg hin => ?_)
      have e : a.eval (.tmp 14) = .bool false := ins_on hin 5 (by kernel_rfl)
      exact upon_move rfl e
    · refine need_no 6 true false rfl (by decide) (fun a w' hin => ins_on hin 6 (by kernel_rfl)) (fun _ => rfl)
    · refine need_no 6 true false rfl (by decide) (fun a w' hin => ins_on hin 6 (by kernel_rfl)) (fun _ => rfl)
    · refine need_no 6 true false rfl (by decide) (fun a w' hin => ins_on hin 6 (by kernel_rfl)) (fun _ => rfl)
    · refine need_no 6 true false rfl (by decide) (fun a w' hin => ins_on hin 6 (by kernel_rfl)) (fun _ => rfl)
    · refine need_no 6 true false rfl (by decide) (fun a w' hin => ins_on hin 6 (by kernel_rfl)) (fun _ => rfl)
    · refine need_undef 11 false rfl (fun a w' hin => ins_on hin 11 (by kernel_rfl)) (fun _ => rfl)
    · refine need_undef 11 false rfl (fun a w' hin => ins_on hin 11 (by kernel_rfl)) (fun _ => rfl)
    · refine need_undef 11 false rfl (fun a w' hin => ins_on hin 11 (by kernel_rfl)) (fun _ => rfl)
    · refine need_undef 11 false rfl (fun a w' hin => ins_on hin 11 (by kernel_rfl)) (fun _ => rfl)
    · refine need_undef 11 false rfl (fun a w' hin => ins_on hin 11 (by kernel_rfl)) (fun _ => rfl)
    · refine need_undef 11 false rfl (fun a w' hin => ins_on hin 11 (by kernel_rfl)) (fun _ => rfl)
    · refine need_undef 11 false rfl (fun a w' hin => ins_on hin 11 (by kernel_rfl)) (fun _ => rfl)
    · refine need_undef 11 false rfl (fun a w' hin => ins_on hin 11 (by kernel_rfl)) (fun _ => rfl)
    · refine need_undef 11 false rfl (fun a w' hin => ins_on hin 11 (by kernel_rfl)) (fun _ => rfl)
    · refine need_undef 11 false rfl (fun a w' hin => ins_on hin 11 (by kernel_rfl)) (fun _ => rfl)
    · refine need_undef 11 false rfl (fun a w' hin => ins_on hin 11 (by kernel_rfl)) (fun _ => rfl)
    · refine need_undef 11 false rfl (fun a w' hin => ins_on hin 11 (by kernel_rfl)) (fun _ => rfl)
    · refine need_undef 11 false rfl (fun a w' hin => ins_on hin 11 (by kernel_rfl)) (fun _ => rfl)
    · refine need_undef 11 false rfl (fun a w' hin => ins_on hin 11 (by kernel_rfl)) (fun _ => rfl)
    · refine need_no 6 true false rfl (by decide) (fun a w' hin => ins_on hin 6 (by kernel_rfl)) (fun _ => rfl)
    · refine need_plain rfl (fun a w' hg hin => ?_)
      have ec : a.eval (.tmp 15) = .bool false := ins_on hin 6 (by kernel_rfl)
      exact upon_pick rfl ec rfl
  · intro vs w' hg ht
    obtain ⟨q9, q10, q11, q12, q13, q14, q15, q16, q17, q18, q19, q20, q21, q22, q23, q24, q25, q26, q27, q28, q29, q30, q31, q32, q33, q34, q35, q36, -⟩ := ht
    have r9 : vs 0 = .int .i64 n := q9
    have r10 : vs 1 = .bool false := q10
    have r11 : vs 2 = .bool false := q11
    have r12 : vs 3 = undef := q12
    have r13 : vs 4 = undef := q13
    have r14 : vs 5 = .bool false := q14
    have r15 : vs 6 = .bool false := q15
    have r16 : vs 7 = undef := q16
    have r17 : vs 8 = undef := q17
    have r18 : vs 9 = undef := q18
    have r19 : vs 10 = undef := q19
    have r20 : vs 11 = undef := q20
    have r21 : vs 12 = undef := q21
    have r22 : vs 13 = undef := q22
    have r23 : vs 14 = undef := q23
    have r24 : vs 15 = undef := q24
    have r25 : vs 16 = undef := q25
    have r26 : vs 17 = undef := q26
    have r27 : vs 18 = undef := q27
    have r28 : vs 19 = undef := q28
    have r29 : vs 20 = undef := q29
    have r30 : vs 21 = undef := q30
    have r31 : vs 22 = undef := q31
    have r32 : vs 23 = undef := q32
    have r33 : vs 24 = undef := q33
    have r34 : vs 25 = undef := q34
    have r35 : vs 26 = undef := q35
    have r36 : vs 27 = .bool false := q36
    clear q9 q10 q11 q12 q13 q14 q15 q16 q17 q18 q19 q20 q21 q22 q23 q24 q25 q26 q27 q28 q29 q30 q31 q32 q33 q34 q35 q36
    simp only [putAll, Act.put, List.setIfInBounds_toArray, List.set_cons_zero, List.set_cons_succ, r9, r10, r11, r12, r13, r14, r15, r16, r17, r18, r19, r20, r21, r22, r23, r24, r25, r26, r27, r28, r29, r30, r31, r32, r33, r34, r35, r36]
    clear r9 r10 r11 r12 r13 r14 r15 r16 r17 r18 r19 r20 r21 r22 r23 r24 r25 r26 r27 r28 r29 r30 r31 r32 r33 r34 r35 r36
    go_wp2
    have hg0 := hg
    clear hg h0
    refine wp_region_told [ex (v), ex (.int .i64 (sumOf l)), ex (v), ex (.int .i64 (sumOf l)), ex (.bool true), ex (.bool true), ex (.int .u8 (x.toNat : Int)), ex (.int .u8 (y.toNat : Int)), ex (.int .i64 ((x.toNat : Int) * 256 + (y.toNat : Int))), ex (.int .u8 (x.toNat : Int)), ex (.int .i64 (x.toNat : Int)), ex (.int .i64 ((x.toNat : Int) * 256)), ex (.int .u8 (y.toNat : Int)), ex (.int .i64 (y.toNat : Int)), ex (.int .i64 ((x.toNat : Int) * 256 + (y.toNat : Int))), ex (.bool true), ex (.bool true), ex (.bool true), ex (v), (fun v w => Bytes w v (sealed l)), ex (str (sealed l)), ex (v), (fun v w => Bytes w v (sealed l)), ex (str (sealed l)), ex (.bool true), ex (.bool true), ex (.bool true), ex (v), ex (.bool (sealedB l)), ex (v), ex (.bool (sealedB l)), ex (.bool true), ex (.bool true), ex (.bool true)] (by kernel_rfl) (by kernel_rfl) ⟨st_ex _, st_ex _, st_ex _, st_ex _, st_ex _, st_ex _, st_ex _, st_ex _, st_ex _, st_ex _, st_ex _, st_ex _, st_ex _, st_ex _, st_ex _, st_ex _, st_ex _, st_ex _, st_ex _, st_bytes _, st_ex _, st_ex _, st_bytes _, st_ex _, st_ex _, st_ex _, st_ex _, st_ex _, st_ex _, st_ex _, st_ex _, st_ex _, st_ex _, st_ex _, trivial⟩ ?_ ?_
    · refine ⟨?_, ?_, ?_, ?_, ?_, ?_, ?_, ?_, ?_, ?_, ?_, ?_, ?_, ?_, ?_, ?_, ?_, ?_, ?_, ?_, ?_, ?_, ?_, ?_, ?_, ?_, ?_, ?_, ?_, ?_, ?_, ?_, ?_, ?_, trivial⟩
      · refine need_plain rfl (fun a w' hg hin => ?_)
        have e : a.eval (.tmp 0) = v := ins_ext hin 0 (by kernel_rfl)
        exact upon_move rfl e
      · refine need_plain rfl (fun a w' hg hin => ?_)
        have e37 : a.eval (.tmp 37) = v := ins_on hin 0 (by kernel_rfl)
        refine upon_call (f := 7) (args := #[v]) ?_ ((of_any l v w' (by omega) (bytes_grow hb (hg0.trans hg))).mono ?_)
        · clear hin hg
          have ek : ∀ x, a.eval (.const x) = x := fun _ => rfl
          have ef : ∀ f, a.eval (.func f) = .func (.func f) #[] #[] := fun _ => rfl
          generalize a.eval = ev at *
          go_simp
          all_goals first | done | omega | (intro _; omega) | go_arith
        · rintro e w2 ⟨rfl, rfl⟩
          exact ⟨_, rfl, Grow.refl _, rfl⟩
      · refine need_plain rfl (fun a w' hg hin => ?_)
        have e : a.eval (.tmp 0) = v := ins_ext hin 0 (by kernel_rfl)
        exact upon_move rfl e
      · refine need_plain rfl (fun a w' hg hin => ?_)
        have e39 : a.eval (.tmp 39) = v := ins_on hin 2 (by kernel_rfl)
        refine upon_call (f := 8) (args := #[v]) ?_ ((rsum_any l v w' (by omega) (bytes_grow hb (hg0.trans hg))).mono ?_)
        · clear hin hg
          have ek : ∀ x, a.eval (.const x) = x := fun _ => rfl
          have ef : ∀ f, a.eval (.func f) = .func (.func f) #[] #[] := fun _ => rfl
          generalize a.eval = ev at *
          go_simp
          all_goals first | done | omega | (intro _; omega) | go_arith
        · rintro e w2 ⟨rfl, rfl⟩
          exact ⟨_, rfl, Grow.refl _, rfl⟩
      · refine need_plain rfl (fun a w' hg hin => ?_)
        have e38 : a.eval (.tmp 38) = .int .i64 (sumOf l) := ins_on hin 1 (by kernel_rfl)
        have e40 : a.eval (.tmp 40) = .int .i64 (sumOf l) := ins_on hin 3 (by kernel_rfl)
        refine upon_val ?_ rfl
        clear hin hg
        have ek : ∀ x, a.eval (.const x) = x := fun _ => rfl
        have ef : ∀ f, a.eval (.func f) = .func (.func f) #[] #[] := fun _ => rfl
        generalize a.eval = ev at *
        go_simp
        all_goals first | done | omega | (intro _; omega) | go_arith
      · refine need_plain rfl (fun a w' hg hin => ?_)
        have e : a.eval (.tmp 41) = .bool true := ins_on hin 4 (by kernel_rfl)
        exact upon_move rfl e
      · refine need_yes 5 true rfl (fun a w' hin => ins_on hin 5 (by kernel_rfl)) (fun a w' hg hin => ?_)
        have e : a.eval (.tmp 2) = .int .u8 (x.toNat : Int) := ins_ext hin 2 (by kernel_rfl)
        exact upon_move rfl e
      · refine need_yes 5 true rfl (fun a w' hin => ins_on hin 5 (by kernel_rfl)) (fun a w' hg hin => ?_)
        have e : a.eval (.tmp 3) = .int .u8 (y.toNat : Int) := ins_ext hin 3 (by kernel_rfl)
        exact upon_move rfl e
      · refine need_yes 5 true rfl (fun a w' hin => ins_on hin 5 (by kernel_rfl)) (fun a w' hg hin => ?_)
        have e43 : a.eval (.tmp 43) = .int .u8 (x.toNat : Int) := ins_on hin 6 (by kernel_rfl)
        have e44 : a.eval (.tmp 44) = .int .u8 (y.toNat : Int) := ins_on hin 7 (by kernel_rfl)
        refine upon_call (f := 9) (args := #[.int .u8 (x.toNat : Int), .int .u8 (y.toNat : Int)]) ?_ ((number_any x y w').mono ?_)
        · clear hin hg
          have ek : ∀ x, a.eval (.const x) = x := fun _ => rfl
          have ef : ∀ f, a.eval (.func f) = .func (.func f) #[] #[] := fun _ => rfl
          generalize a.eval = ev at *
          go_simp
          all_goals first | done | omega | (intro _; omega) | go_arith
        · rintro e w2 ⟨rfl, rfl⟩
          exact ⟨_, rfl, Grow.refl _, rfl⟩
      · refine need_yes 5 true rfl (fun a w' hin => ins_on hin 5 (by kernel_rfl)) (fun a w' hg hin => ?_)
        have e : a.eval (.tmp 2) = .int .u8 (x.toNat : Int) := ins_ext hin 2 (by kernel_rfl)
        exact upon_move rfl e
      · refine need_yes 5 true rfl (fun a w' hin => ins_on hin 5 (by kernel_rfl)) (fun a w' hg hin => ?_)
        have e46 : a.eval (.tmp 46) = .int .u8 (x.toNat : Int) := ins_on hin 9 (by kernel_rfl)
        refine upon_val ?_ rfl
        clear hin hg
        have ek : ∀ x, a.eval (.const x) = x := fun _ => rfl
        have ef : ∀ f, a.eval (.func f) = .func (.func f) #[] #[] := fun _ => rfl
        generalize a.eval = ev at *
        go_simp
        all_goals first | done | omega | (intro _; omega) | go_arith
      · refine need_yes 5 true rfl (fun a w' hin => ins_on hin 5 (by kernel_rfl)) (fun a w' hg hin => ?_)
        have e47 : a.eval (.tmp 47) = .int .i64 (x.toNat : Int) := ins_on hin 10 (by kernel_rfl)
        refine upon_val ?_ rfl
        clear hin hg
        have ek : ∀ x, a.eval (.const x) = x := fun _ => rfl
        have ef : ∀ f, a.eval (.func f) = .func (.func f) #[] #[] := fun _ => rfl
        generalize a.eval = ev at *
        go_simp
        all_goals first | done | omega | (intro _; omega) | go_arith
      · refine need_yes 5 true rfl (fun a w' hin => ins_on hin 5 (by kernel_rfl)) (fun a w' hg hin => ?_)
        have e : a.eval (.tmp 3) = .int .u8 (y.toNat : Int) := ins_ext hin 3 (by kernel_rfl)
        exact upon_move rfl e
      · refine need_yes 5 true rfl (fun a w' hin => ins_on hin 5 (by kernel_rfl)) (fun a w' hg hin => ?_)
        have e49 : a.eval (.tmp 49) = .int .u8 (y.toNat : Int) := ins_on hin 12 (by kernel_rfl)
        refine upon_val ?_ rfl
        clear hin hg
        have ek : ∀ x, a.eval (.const x) = x := fun _ => rfl
        have ef : ∀ f, a.eval (.func f) = .func (.func f) #[] #[] := fun _ => rfl
        generalize a.eval = ev at *
        go_simp
        all_goals first | done | omega | (intro _; omega) | go_arith
      · refine need_yes 5 true rfl (fun a w' hin => ins_on hin 5 (by kernel_rfl)) (fun a w' hg hin => ?_)
        have e48 : a.eval (.tmp 48) = .int .i64 ((x.toNat : Int) * 256) := ins_on hin 11 (by kernel_rfl)
        have e50 : a.eval (.tmp 50) = .int .i64 (y.toNat : Int) := ins_on hin 13 (by kernel_rfl)
        refine upon_val ?_ rfl
        clear hin hg
        have ek : ∀ x, a.eval (.const x) = x := fun _ => rfl
        have ef : ∀ f, a.eval (.func f) = .func (.func f) #[] #[] := fun _ => rfl
        generalize a.eval = ev at *
        go_simp
        all_goals first | done | omega | (intro _; omega) | go_arith
      · refine need_yes 5 true rfl (fun a w' hin => ins_on hin 5 (by kernel_rfl)) (fun a w' hg hin => ?_)
        have e45 : a.eval (.tmp 45) = .int .i64 ((x.toNat : Int) * 256 + (y.toNat : Int)) := ins_on hin 8 (by kernel_rfl)
        have e51 : a.eval (.tmp 51) = .int .i64 ((x.toNat : Int) * 256 + (y.toNat : Int)) := ins_on hin 14 (by kernel_rfl)
        refine upon_val ?_ rfl
        clear hin hg
        have ek : ∀ x, a.eval (.const x) = x := fun _ => rfl
        have ef : ∀ f, a.eval (.func f) = .func (.func f) #[] #[] := fun _ => rfl
        generalize a.eval = ev at *
        go_simp
        all_goals first | done | omega | (intro _; omega) | go_arith
      · refine need_plain rfl (fun a w' hg hin => ?_)
        have ec : a.eval (.tmp 42) = .bool true := ins_on hin 5 (by kernel_rfl)
        have e : a.eval (.tmp 52) = .bool true := ins_on hin 15 (by kernel_rfl)
        exact upon_pick rfl ec e
      · refine need_plain rfl (fun a w' hg hin => ?_)
        have e : a.eval (.tmp 53) = .bool true := ins_on hin 16 (by kernel_rfl)
        exact upon_move rfl e
      · refine need_yes 17 true rfl (fun a w' hin => ins_on hin 17 (by kernel_rfl)) (fun a w' hg hin => ?_)
        have e : a.eval (.tmp 0) = v := ins_ext hin 0 (by kernel_rfl)
        exact upon_move rfl e
      · refine need_yes 17 true rfl (fun a w' hin => ins_on hin 17 (by kernel_rfl)) (fun a w' hg hin => ?_)
        have e55 : a.eval (.tmp 55) = v := ins_on hin 18 (by kernel_rfl)
        refine upon_call (f := 10) (args := #[v]) ?_ ((seal_any l v w' hm (bytes_grow hb (hg0.trans hg))).mono ?_)
        · clear hin hg
          have ek : ∀ x, a.eval (.const x) = x := fun _ => rfl
          have ef : ∀ f, a.eval (.func f) = .func (.func f) #[] #[] := fun _ => rfl
          generalize a.eval = ev at *
          go_simp
          all_goals first | done | omega | (intro _; omega) | go_arith
        · rintro e w2 ⟨v', rfl, ho, hgr⟩
          exact ⟨_, rfl, hgr, bytes_own ho⟩
      · refine need_yes 17 true rfl (fun a w' hin => ins_on hin 17 (by kernel_rfl)) (fun a w' hg hin => ?_)
        have e56 : (fun v w => Bytes w v (sealed l)) (a.eval (.tmp 56)) w' := ins_on hin 19 (by kernel_rfl)
        refine upon_val ?_ rfl
        have hrun := run_str w' _ _ e56
        clear hin hg e56
        have ek : ∀ x, a.eval (.const x) = x := fun _ => rfl
        have ef : ∀ f, a.eval (.func f) = .func (.func f) #[] #[] := fun _ => rfl
        generalize a.eval = ev at *
        go_simp
        all_goals first | done | omega | (intro _; omega) | go_arith
      · refine need_yes 17 true rfl (fun a w' hin => ins_on hin 17 (by kernel_rfl)) (fun a w' hg hin => ?_)
        have e : a.eval (.tmp 0) = v := ins_ext hin 0 (by kernel_rfl)
        exact upon_move rfl e
      · refine need_yes 17 true rfl (fun a w' hin => ins_on hin 17 (by kernel_rfl)) (fun a w' hg hin => ?_)
        have e58 : a.eval (.tmp 58) = v := ins_on hin 21 (by kernel_rfl)
        refine upon_call (f := 11) (args := #[v]) ?_ ((rseal_any l v w' hm (bytes_grow hb (hg0.trans hg))).mono ?_)
        · clear hin hg
          have ek : ∀ x, a.eval (.const x) = x := fun _ => rfl
          have ef : ∀ f, a.eval (.func f) = .func (.func f) #[] #[] := fun _ => rfl
          generalize a.eval = ev at *
          go_simp
          all_goals first | done | omega | (intro _; omega) | go_arith
        · rintro e w2 ⟨v', rfl, ho, hgr⟩
          exact ⟨_, rfl, hgr, bytes_own ho⟩
      · refine need_yes 17 true rfl (fun a w' hin => ins_on hin 17 (by kernel_rfl)) (fun a w' hg hin => ?_)
        have e59 : (fun v w => Bytes w v (sealed l)) (a.eval (.tmp 59)) w' := ins_on hin 22 (by kernel_rfl)
        refine upon_val ?_ rfl
        have hrun := run_str w' _ _ e59
        clear hin hg e59
        have ek : ∀ x, a.eval (.const x) = x := fun _ => rfl
        have ef : ∀ f, a.eval (.func f) = .func (.func f) #[] #[] := fun _ => rfl
        generalize a.eval = ev at *
        go_simp
        all_goals first | done | omega | (intro _; omega) | go_arith
      · refine need_yes 17 true rfl (fun a w' hin => ins_on hin 17 (by kernel_rfl)) (fun a w' hg hin => ?_)
        have e57 : a.eval (.tmp 57) = str (sealed l) := ins_on hin 20 (by kernel_rfl)
        have e60 : a.eval (.tmp 60) = str (sealed l) := ins_on hin 23 (by kernel_rfl)
        refine upon_val ?_ rfl
        unfold str at e57 e60
        clear hin hg
        have ek : ∀ x, a.eval (.const x) = x := fun _ => rfl
        have ef : ∀ f, a.eval (.func f) = .func (.func f) #[] #[] := fun _ => rfl
        generalize a.eval = ev at *
        go_simp
        all_goals first | done | omega | (intro _; omega) | go_arith
      · refine need_plain rfl (fun a w' hg hin => ?_)
        have ec : a.eval (.tmp 54) = .bool true := ins_on hin 17 (by kernel_rfl)
        have e : a.eval (.tmp 61) = .bool true := ins_on hin 24 (by kernel_rfl)
        exact upon_pick rfl ec e
      · refine need_plain rfl (fun a w' hg hin => ?_)
        have e : a.eval (.tmp 62) = .bool true := ins_on hin 25 (by kernel_rfl)
        exact upon_move rfl e
      · refine need_yes 26 true rfl (fun a w' hin => ins_on hin 26 (by kernel_rfl)) (fun a w' hg hin => ?_)
        have e : a.eval (.tmp 0) = v := ins_ext hin 0 (by kernel_rfl)
        exact upon_move rfl e
      · refine need_yes 26 true rfl (fun a w' hin => ins_on hin 26 (by kernel_rfl)) (fun a w' hg hin => ?_)
        have e64 : a.eval (.tmp 64) = v := ins_on hin 27 (by kernel_rfl)
        refine upon_call (f := 12) (args := #[v]) ?_ ((issealed_any l v w' (by omega) (bytes_grow hb (hg0.trans hg))).mono ?_)
        · clear hin hg
          have ek : ∀ x, a.eval (.const x) = x := fun _ => rfl
          have ef : ∀ f, a.eval (.func f) = .func (.func f) #[] #[] := fun _ => rfl
          generalize a.eval = ev at *
          go_simp
          all_goals first | done | omega | (intro _; omega) | go_arith
        · rintro e w2 ⟨rfl, hgr⟩
          exact ⟨_, rfl, hgr, rfl⟩
      · refine need_yes 26 true rfl (fun a w' hin => ins_on hin 26 (by kernel_rfl)) (fun a w' hg hin => ?_)
        have e : a.eval (.tmp 0) = v := ins_ext hin 0 (by kernel_rfl)
        exact upon_move rfl e
      · refine need_yes 26 true rfl (fun a w' hin => ins_on hin 26 (by kernel_rfl)) (fun a w' hg hin => ?_)
        have e66 : a.eval (.tmp 66) = v := ins_on hin 29 (by kernel_rfl)
        refine upon_call (f := 13) (args := #[v]) ?_ ((rsealed_any l v w' (by omega) (bytes_grow hb (hg0.trans hg))).mono ?_)
        · clear hin hg
          have ek : ∀ x, a.eval (.const x) = x := fun _ => rfl
          have ef : ∀ f, a.eval (.func f) = .func (.func f) #[] #[] := fun _ => rfl
          generalize a.eval = ev at *
          go_simp
          all_goals first | done | omega | (intro _; omega) | go_arith
        · rintro e w2 ⟨rfl, hgr⟩
          exact ⟨_, rfl, hgr, rfl⟩
      · refine need_yes 26 true rfl (fun a w' hin => ins_on hin 26 (by kernel_rfl)) (fun a w' hg hin => ?_)
        have e65 : a.eval (.tmp 65) = .bool (sealedB l) := ins_on hin 28 (by kernel_rfl)
        have e67 : a.eval (.tmp 67) = .bool (sealedB l) := ins_on hin 30 (by kernel_rfl)
        refine upon_val ?_ rfl
        clear hin hg
        have ek : ∀ x, a.eval (.const x) = x := fun _ => rfl
        have ef : ∀ f, a.eval (.func f) = .func (.func f) #[] #[] := fun _ => rfl
        generalize a.eval = ev at *
        go_simp
        all_goals first | done | omega | (intro _; omega) | go_arith
      · refine need_plain rfl (fun a w' hg hin => ?_)
        have ec : a.eval (.tmp 63) = .bool true := ins_on hin 26 (by kernel_rfl)
        have e : a.eval (.tmp 68) = .bool true := ins_on hin 31 (by kernel_rfl)
        exact upon_pick rfl ec e
      · refine need_plain rfl (fun a w' hg hin => ?_)
        have e : a.eval (.tmp 69) = .bool true := ins_on hin 32 (by kernel_rfl)
        exact upon_assign rfl e
    · intro vs w' hg ht
      obtain ⟨q37, q38, q39, q40, q41, q42, q43, q44, q45, q46, q47, q48, q49, q50, q51, q52, q53, q54, q55, q56, q57, q58, q59, q60, q61, q62, q63, q64, q65, q66, q67, q68, q69, q8, -⟩ := ht
      have r37 : vs 0 = v := q37
      have r38 : vs 1 = .int .i64 (sumOf l) := q38
      have r39 : vs 2 = v := q39
      have r40 : vs 3 = .int .i64 (sumOf l) := q40
      have r41 : vs 4 = .bool true := q41
      have r42 : vs 5 = .bool true := q42
      have r43 : vs 6 = .int .u8 (x.toNat : Int) := q43
      have r44 : vs 7 = .int .u8 (y.toNat : Int) := q44
      have r45 : vs 8 = .int .i64 ((x.toNat : Int) * 256 + (y.toNat : Int)) := q45
      have r46 : vs 9 = .int .u8 (x.toNat : Int) := q46
      have r47 : vs 10 = .int .i64 (x.toNat : Int) := q47
      have r48 : vs 11 = .int .i64 ((x.toNat : Int) * 256) := q48
      have r49 : vs 12 = .int .u8 (y.toNat : Int) := q49
      have r50 : vs 13 = .int .i64 (y.toNat : Int) := q50
      have r51 : vs 14 = .int .i64 ((x.toNat : Int) * 256 + (y.toNat : Int)) := q51
      have r52 : vs 15 = .bool true := q52
      have r53 : vs 16 = .bool true := q53
      have r54 : vs 17 = .bool true := q54
      have r55 : vs 18 = v := q55
      have r57 : vs 20 = str (sealed l) := q57
      have r58 : vs 21 = v := q58
      have r60 : vs 23 = str (sealed l) := q60
      have r61 : vs 24 = .bool true := q61
      have r62 : vs 25 = .bool true := q62
      have r63 : vs 26 = .bool true := q63
      have r64 : vs 27 = v := q64
      have r65 : vs 28 = .bool (sealedB l) := q65
      have r66 : vs 29 = v := q66
      have r67 : vs 30 = .bool (sealedB l) := q67
      have r68 : vs 31 = .bool true := q68
      have r69 : vs 32 = .bool true := q69
      have r8 : vs 33 = .bool true := q8
      clear q37 q38 q39 q40 q41 q42 q43 q44 q45 q46 q47 q48 q49 q50 q51 q52 q53 q54 q55 q57 q58 q60 q61 q62 q63 q64 q65 q66 q67 q68 q69 q8
      simp only [putAll, Act.put, List.setIfInBounds_toArray, List.set_cons_zero, List.set_cons_succ, r37, r38, r39, r40, r41, r42, r43, r44, r45, r46, r47, r48, r49, r50, r51, r52, r53, r54, r55, r57, r58, r60, r61, r62, r63, r64, r65, r66, r67, r68, r69, r8]
      clear r37 r38 r39 r40 r41 r42 r43 r44 r45 r46 r47 r48 r49 r50 r51 r52 r53 r54 r55 r57 r58 r60 r61 r62 r63 r64 r65 r66 r67 r68 r69 r8
      go_wp2
      go_ret
      exact ⟨rfl, hg0.trans hg⟩

set_option maxHeartbeats 1000000 in
theorem sumtells_big (l : List UInt8) (v : Value) (n : Int) (x y : UInt8) (w : World) (hm : l.length ≤ 140737488355326) (hb : Bytes w v l) (h0 : 65536 ≤ n) :
    Calls Try.prog 3 #[v, .int .i64 n, .int .u8 (x.toNat : Int), .int .u8 (y.toNat : Int)] w fun e w' => e = .returned (.bool true) ∧ Grow w w' := by
  have hx : x.toNat < 256 := UInt8.toNat_lt _
  have hy : y.toNat < 256 := UInt8.toNat_lt _
  go_enter Try.func3, Try.ntmps3
  go_wp2
  refine wp_region_told [ex (.int .i64 n), ex (.bool true), ex (.bool true), ex (.int .i64 n), ex (.bool false), ex (.bool false), ex (.bool false), ex (undef), ex (undef), ex (undef), ex (undef), ex (undef), ex (undef), ex (undef), ex (undef), ex (undef), ex (undef), ex (undef), ex (undef), ex (undef), ex (undef), ex (undef), ex (undef), ex (undef), ex (undef), ex (undef), ex (undef), ex (.bool false)] (by kernel_rfl) (by kernel_rfl) ⟨st_ex _, st_ex _, st_ex _, st_ex _, st_ex _, st_ex _, st_ex _, st_ex _, st_ex _, st_ex _, st_ex _, st_ex _, st_ex _, st_ex _, st_ex _, st_ex _, st_ex _, st_ex _, st_ex _, st_ex _, st_ex _, st_ex _, st_ex _, st_ex _, st_ex _, st_ex _, st_ex _, st_ex _, trivial⟩ ?_ ?_
  · refine ⟨?_, ?_, ?_, ?_, ?_, ?_, ?_, ?_, ?_, ?_, ?_, ?_, ?_, ?_, ?_, ?_, ?_, ?_, ?_, ?_, ?_, ?_, ?_, ?_, ?_, ?_, ?_, ?_, trivial⟩
    · refine need_plain rfl (fun a w' hg hin => ?_)
      have e : a.eval (.tmp 1) = .int .i64 n := ins_ext hin 1 (by kernel_rfl)
      exact upon_move rfl e
    · refine need_plain rfl (fun a w' hg hin => ?_)
      have e9 : a.eval (.tmp 9) = .int .i64 n := ins_on hin 0 (by kernel_rfl)
      refine upon_val ?_ rfl
      clear hin hg
      have ek : ∀ x, a.eval (.const x) = x := fun _ => rfl
      have ef : ∀ f, a.eval (.func f) = .func (.func f) #[] #[] := fun _ => rfl
      generalize a.eval = ev at *
      go_simp
      all_goals first | done | omega | (intro _; omega) | go_arith
    · refine need_plain rfl (fun a w' hg hin => ?_)
      have e : a.eval (.tmp 10) = .bool true := ins_on hin 1 (by kernel_rfl)
      exact upon_move rfl e
    · refine need_yes 2 true rfl (fun a w' hin => ins_on hin 2 (by kernel_rfl)) (fun a w' hg hin => ?_)
      have e : a.eval (.tmp 1) = .int .i64 n := ins_ext hin 1 (by kernel_rfl)
      exact upon_move rfl e
    · refine need_yes 2 true rfl (fun a w' hin => ins_on hin 2 (by kernel_rfl)) (fun a w' hg hin => ?_)
      have e12 : a.eval (.tmp 12) = .int .i64 n := ins_on hin 3 (by kernel_rfl)
      refine upon_val ?_ rfl
      clear hin hg
      have ek : ∀ x, a.eval (.const x) = x := fun _ => rfl
      have ef : ∀ f, a.eval (.func f) = .func (.func f) #[] #[] := fun _ => rfl
      generalize a.eval = ev at *
      go_simp
      all_goals first | done | omega | (intro _; omega) | go_arith
    · refine need_plain rfl (fun a w' hg hin => ?_)
      have ec : a.eval (.tmp 11) = .bool true := ins_on hin 2 (by kernel_rfl)
      have e : a.eval (.tmp 13) = .bool false := ins_on hin 4 (by kernel_rfl)
      exact upon_pick rfl ec e
    · refine need_plain rfl (fun a w' hg hin => ?_)
      have e : a.eval (.tmp 14) = .bool false := ins_on hin 5 (by kernel_rfl)
      exact upon_move rfl e
    · refine need_no 6 true false rfl (by decide) (fun a w' hin => ins_on hin 6 (by kernel_rfl)) (fun _ => rfl)
    · refine need_no 6 true false rfl (by decide) (fun a w' hin => ins_on hin 6 (by kernel_rfl)) (fun _ => rfl)
    · refine need_no 6 true false rfl (by decide) (fun a w' hin => ins_on hin 6 (by kernel_rfl)) (fun _ => rfl)
    · refine need_no 6 true false rfl (by decide) (fun a w' hin => ins_on hin 6 (by kernel_rfl)) (fun _ => rfl)
    · refine need_no 6 true false rfl (by decide) (fun a w' hin => ins_on hin 6 (by kernel_rfl)) (fun _ => rfl)
    · refine need_undef 11 false rfl (fun a w' hin => ins_on hin 11 (by kernel_rfl)) (fun _ => rfl)
    · refine need_undef 11 false rfl (fun a w' hin => ins_on hin 11 (by kernel_rfl)) (fun _ => rfl)
    · refine need_undef 11 false rfl (fun a w' hin => ins_on hin 11 (by kernel_rfl)) (fun _ => rfl)
    · refine need_undef 11 false rfl (fun a w' hin => ins_on hin 11 (by kernel_rfl)) (fun _ => rfl)
    · refine need_undef 11 false rfl (fun a w' hin => ins_on hin 11 (by kernel_rfl)) (fun _ => rfl)
    · refine need_undef 11 false rfl (fun a w' hin => ins_on hin 11 (by kernel_rfl)) (fun _ => rfl)
    · refine need_undef 11 false rfl (fun a w' hin => ins_on hin 11 (by kernel_rfl)) (fun _ => rfl)
    · refine need_undef 11 false rfl (fun a w' hin => ins_on hin 11 (by kernel_rfl)) (fun _ => rfl)
    · refine need_undef 11 false rfl (fun a w' hin => ins_on hin 11 (by kernel_rfl)) (fun _ => rfl)
    · refine need_undef 11 false rfl (fun a w' hin => ins_on hin 11 (by kernel_rfl)) (fun _ => rfl)
    · refine need_undef 11 false rfl (fun a w' hin => ins_on hin 11 (by kernel_rfl)) (fun _ => rfl)
    · refine need_undef 11 false rfl (fun a w' hin => ins_on hin 11 (by kernel_rfl)) (fun _ => rfl)
    · refine need_undef 11 false rfl (fun a w' hin => ins_on hin 11 (by kernel_rfl)) (fun _ => rfl)
    · refine need_undef 11 false rfl (fun a w' hin => ins_on hin 11 (by kernel_rfl)) (fun _ => rfl)
    · refine need_no 6 true false rfl (by decide) (fun a w' hin => ins_on hin 6 (by kernel_rfl)) (fun _ => rfl)
    · refine need_plain rfl (fun a w' hg hin => ?_)
      have ec : a.eval (.tmp 15) = .bool false := ins_on hin 6 (by kernel_rfl)
      exact upon_pick rfl ec rfl
  · intro vs w' hg ht
    obtain ⟨q9, q10, q11, q12, q13, q14, q15, q16, q17, q18, q19, q20, q21, q22, q23, q24, q25, q26, q27, q28, q29, q30, q31, q32, q33, q34, q35, q36, -⟩ := ht
    have r9 : vs 0 = .int .i64 n := q9
    have r10 : vs 1 = .bool true := q10
    have r11 : vs 2 = .bool true := q11
    have r12 : vs 3 = .int .i64 n := q12
    have r13 : vs 4 = .bool false := q13
    have r14 : vs 5 = .bool false := q14
    have r15 : vs 6 = .bool false := q15
    have r16 : vs 7 = undef := q16
    have r17 : vs 8 = undef := q17
    have r18 : vs 9 = undef := q18
    have r19 : vs 10 = undef := q19
    have r20 : vs 11 = undef := q20
    have r21 : vs 12 = undef := q21
    have r22 : vs 13 = undef := q22
    have r23 : vs 14 = undef := q23
    have r24 : vs 15 = undef := q24
    have r25 : vs 16 = undef := q25
    have r26 : vs 17 = undef := q26
    have r27 : vs 18 = undef := q27
    have r28 : vs 19 = undef := q28
    have r29 : vs 20 = undef := q29
    have r30 : vs 21 = undef := q30
    have r31 : vs 22 = undef := q31
    have r32 : vs 23 = undef := q32
    have r33 : vs 24 = undef := q33
    have r34 : vs 25 = undef := q34
    have r35 : vs 26 = undef := q35
    have r36 : vs 27 = .bool false := q36
    clear q9 q10 q11 q12 q13 q14 q15 q16 q17 q18 q19 q20 q21 q22 q23 q24 q25 q26 q27 q28 q29 q30 q31 q32 q33 q34 q35 q36
    simp only [putAll, Act.put, List.setIfInBounds_toArray, List.set_cons_zero, List.set_cons_succ, r9, r10, r11, r12, r13, r14, r15, r16, r17, r18, r19, r20, r21, r22, r23, r24, r25, r26, r27, r28, r29, r30, r31, r32, r33, r34, r35, r36]
    clear r9 r10 r11 r12 r13 r14 r15 r16 r17 r18 r19 r20 r21 r22 r23 r24 r25 r26 r27 r28 r29 r30 r31 r32 r33 r34 r35 r36
    go_wp2
    have hg0 := hg
    clear hg h0
    refine wp_region_told [ex (v), ex (.int .i64 (sumOf l)), ex (v), ex (.int .i64 (sumOf l)), ex (.bool true), ex (.bool true), ex (.int .u8 (x.toNat : Int)), ex (.int .u8 (y.toNat : Int)), ex (.int .i64 ((x.toNat : Int) * 256 + (y.toNat : Int))), ex (.int .u8 (x.toNat : Int)), ex (.int .i64 (x.toNat : Int)), ex (.int .i64 ((x.toNat : Int) * 256)), ex (.int .u8 (y.toNat : Int)), ex (.int .i64 (y.toNat : Int)), ex (.int .i64 ((x.toNat : Int) * 256 + (y.toNat : Int))), ex (.bool true), ex (.bool true), ex (.bool true), ex (v), (fun v w => Bytes w v (sealed l)), ex (str (sealed l)), ex (v), (fun v w => Bytes w v (sealed l)), ex (str (sealed l)), ex (.bool true), ex (.bool true), ex (.bool true), ex (v), ex (.bool (sealedB l)), ex (v), ex (.bool (sealedB l)), ex (.bool true), ex (.bool true), ex (.bool true)] (by kernel_rfl) (by kernel_rfl) ⟨st_ex _, st_ex _, st_ex _, st_ex _, st_ex _, st_ex _, st_ex _, st_ex _, st_ex _, st_ex _, st_ex _, st_ex _, st_ex _, st_ex _, st_ex _, st_ex _, st_ex _, st_ex _, st_ex _, st_bytes _, st_ex _, st_ex _, st_bytes _, st_ex _, st_ex _, st_ex _, st_ex _, st_ex _, st_ex _, st_ex _, st_ex _, st_ex _, st_ex _, st_ex _, trivial⟩ ?_ ?_
    · refine ⟨?_, ?_, ?_, ?_, ?_, ?_, ?_, ?_, ?_, ?_, ?_, ?_, ?_, ?_, ?_, ?_, ?_, ?_, ?_, ?_, ?_, ?_, ?_, ?_, ?_, ?_, ?_, ?_, ?_, ?_, ?_, ?_, ?_, ?_, trivial⟩
      · refine need_plain rfl (fun a w' hg hin => ?_)
        have e : a.eval (.tmp 0) = v := ins_ext hin 0 (by kernel_rfl)
        exact upon_move rfl e
      · refine need_plain rfl (fun a w' hg hin => ?_)
        have e37 : a.eval (.tmp 37) = v := ins_on hin 0 (by kernel_rfl)
        refine upon_call (f := 7) (args := #[v]) ?_ ((of_any l v w' (by omega) (bytes_grow hb (hg0.trans hg))).mono ?_)
        · clear hin hg
          have ek : ∀ x, a.eval (.const x) = x := fun _ => rfl
          have ef : ∀ f, a.eval (.func f) = .func (.func f) #[] #[] := fun _ => rfl
          generalize a.eval = ev at *
          go_simp
          all_goals first | done | omega | (intro _; omega) | go_arith
        · rintro e w2 ⟨rfl, rfl⟩
          exact ⟨_, rfl, Grow.refl _, rfl⟩
      · refine need_plain rfl (fun a w' hg hin => ?_)
        have e : a.eval (.tmp 0) = v := ins_ext hin 0 (by kernel_rfl)
        exact upon_move rfl e
      · refine need_plain rfl (fun a w' hg hin => ?_)
        have e39 : a.eval (.tmp 39) = v := ins_on hin 2 (by kernel_rfl)
        refine upon_call (f := 8) (args := #[v]) ?_ ((rsum_any l v w' (by omega) (bytes_grow hb (hg0.trans hg))).mono ?_)
        · clear hin hg
          have ek : ∀ x, a.eval (.const x) = x := fun _ => rfl
          have ef : ∀ f, a.eval (.func f) = .func (.func f) #[] #[] := fun _ => rfl
          generalize a.eval = ev at *
          go_simp
          all_goals first | done | omega | (intro _; omega) | go_arith
        · rintro e w2 ⟨rfl, rfl⟩
          exact ⟨_, rfl, Grow.refl _, rfl⟩
      · refine need_plain rfl (fun a w' hg hin => ?_)
        have e38 : a.eval (.tmp 38) = .int .i64 (sumOf l) := ins_on hin 1 (by kernel_rfl)
        have e40 : a.eval (.tmp 40) = .int .i64 (sumOf l) := ins_on hin 3 (by kernel_rfl)
        refine upon_val ?_ rfl
        clear hin hg
        have ek : ∀ x, a.eval (.const x) = x := fun _ => rfl
        have ef : ∀ f, a.eval (.func f) = .func (.func f) #[] #[] := fun _ => rfl
        generalize a.eval = ev at *
        go_simp
        all_goals first | done | omega | (intro _; omega) | go_arith
      · refine need_plain rfl (fun a w' hg hin => ?_)
        have e : a.eval (.tmp 41) = .bool true := ins_on hin 4 (by kernel_rfl)
        exact upon_move rfl e
      · refine need_yes 5 true rfl (fun a w' hin => ins_on hin 5 (by kernel_rfl)) (fun a w' hg hin => ?_)
        have e : a.eval (.tmp 2) = .int .u8 (x.toNat : Int) := ins_ext hin 2 (by kernel_rfl)
        exact upon_move rfl e
      · refine need_yes 5 true rfl (fun a w' hin => ins_on hin 5 (by kernel_rfl)) (fun a w' hg hin => ?_)
        have e : a.eval (.tmp 3) = .int .u8 (y.toNat : Int) := ins_ext hin 3 (by kernel_rfl)
        exact upon_move rfl e
      · refine need_yes 5 true rfl (fun a w' hin => ins_on hin 5 (by kernel_rfl)) (fun a w' hg hin => ?_)
        have e43 : a.eval (.tmp 43) = .int .u8 (x.toNat : Int) := ins_on hin 6 (by kernel_rfl)
        have e44 : a.eval (.tmp 44) = .int .u8 (y.toNat : Int) := ins_on hin 7 (by kernel_rfl)
        refine upon_call (f := 9) (args := #[.int .u8 (x.toNat : Int), .int .u8 (y.toNat : Int)]) ?_ ((number_any x y w').mono ?_)
        · clear hin hg
          have ek : ∀ x, a.eval (.const x) = x := fun _ => rfl
          have ef : ∀ f, a.eval (.func f) = .func (.func f) #[] #[] := fun _ => rfl
          generalize a.eval = ev at *
          go_simp
          all_goals first | done | omega | (intro _; omega) | go_arith
        · rintro e w2 ⟨rfl, rfl⟩
          exact ⟨_, rfl, Grow.refl _, rfl⟩
      · refine need_yes 5 true rfl (fun a w' hin => ins_on hin 5 (by kernel_rfl)) (fun a w' hg hin => ?_)
        have e : a.eval (.tmp 2) = .int .u8 (x.toNat : Int) := ins_ext hin 2 (by kernel_rfl)
        exact upon_move rfl e
      · refine need_yes 5 true rfl (fun a w' hin => ins_on hin 5 (by kernel_rfl)) (fun a w' hg hin => ?_)
        have e46 : a.eval (.tmp 46) = .int .u8 (x.toNat : Int) := ins_on hin 9 (by kernel_rfl)
        refine upon_val ?_ rfl
        clear hin hg
        have ek : ∀ x, a.eval (.const x) = x := fun _ => rfl
        have ef : ∀ f, a.eval (.func f) = .func (.func f) #[] #[] := fun _ => rfl
        generalize a.eval = ev at *
        go_simp
        all_goals first | done | omega | (intro _; omega) | go_arith
      · refine need_yes 5 true rfl (fun a w' hin => ins_on hin 5 (by kernel_rfl)) (fun a w' hg hin => ?_)
        have e47 : a.eval (.tmp 47) = .int .i64 (x.toNat : Int) := ins_on hin 10 (by kernel_rfl)
        refine upon_val ?_ rfl
        clear hin hg
        have ek : ∀ x, a.eval (.const x) = x := fun _ => rfl
        have ef : ∀ f, a.eval (.func f) = .func (.func f) #[] #[] := fun _ => rfl
        generalize a.eval = ev at *
        go_simp
        all_goals first | done | omega | (intro _; omega) | go_arith
      · refine need_yes 5 true rfl (fun a w' hin => ins_on hin 5 (by kernel_rfl)) (fun a w' hg hin => ?_)
        have e : a.eval (.tmp 3) = .int .u8 (y.toNat : Int) := ins_ext hin 3 (by kernel_rfl)
        exact upon_move rfl e
      · refine need_yes 5 true rfl (fun a w' hin => ins_on hin 5 (by kernel_rfl)) (fun a w' hg hin => ?_)
        have e49 : a.eval (.tmp 49) = .int .u8 (y.toNat : Int) := ins_on hin 12 (by kernel_rfl)
        refine upon_val ?_ rfl
        clear hin hg
        have ek : ∀ x, a.eval (.const x) = x := fun _ => rfl
        have ef : ∀ f, a.eval (.func f) = .func (.func f) #[] #[] := fun _ => rfl
        generalize a.eval = ev at *
        go_simp
        all_goals first | done | omega | (intro _; omega) | go_arith
      · refine need_yes 5 true rfl (fun a w' hin => ins_on hin 5 (by kernel_rfl)) (fun a w' hg hin => ?_)
        have e48 : a.eval (.tmp 48) = .int .i64 ((x.toNat : Int) * 256) := ins_on hin 11 (by kernel_rfl)
        have e50 : a.eval (.tmp 50) = .int .i64 (y.toNat : Int) := ins_on hin 13 (by kernel_rfl)
        refine upon_val ?_ rfl
        clear hin hg
        have ek : ∀ x, a.eval (.const x) = x := fun _ => rfl
        have ef : ∀ f, a.eval (.func f) = .func (.func f) #[] #[] := fun _ => rfl
        generalize a.eval = ev at *
        go_simp
        all_goals first | done | omega | (intro _; omega) | go_arith
      · refine need_yes 5 true rfl (fun a w' hin => ins_on hin 5 (by kernel_rfl)) (fun a w' hg hin => ?_)
        have e45 : a.eval (.tmp 45) = .int .i64 ((x.toNat : Int) * 256 + (y.toNat : Int)) := ins_on hin 8 (by kernel_rfl)
        have e51 : a.eval (.tmp 51) = .int .i64 ((x.toNat : Int) * 256 + (y.toNat : Int)) := ins_on hin 14 (by kernel_rfl)
        refine upon_val ?_ rfl
        clear hin hg
        have ek : ∀ x, a.eval (.const x) = x := fun _ => rfl
        have ef : ∀ f, a.eval (.func f) = .func (.func f) #[] #[] := fun _ => rfl
        generalize a.eval = ev at *
        go_simp
        all_goals first | done | omega | (intro _; omega) | go_arith
      · refine need_plain rfl (fun a w' hg hin => ?_)
        have ec : a.eval (.tmp 42) = .bool true := ins_on hin 5 (by kernel_rfl)
        have e : a.eval (.tmp 52) = .bool true := ins_on hin 15 (by kernel_rfl)
        exact upon_pick rfl ec e
      · refine need_plain rfl (fun a w' hg hin => ?_)
        have e : a.eval (.tmp 53) = .bool true := ins_on hin 16 (by kernel_rfl)
        exact upon_move rfl e
      · refine need_yes 17 true rfl (fun a w' hin => ins_on hin 17 (by kernel_rfl)) (fun a w' hg hin => ?_)
        have e : a.eval (.tmp 0) = v := ins_ext hin 0 (by kernel_rfl)
        exact upon_move rfl e
      · refine need_yes 17 true rfl (fun a w' hin => ins_on hin 17 (by kernel_rfl)) (fun a w' hg hin => ?_)
        have e55 : a.eval (.tmp 55) = v := ins_on hin 18 (by kernel_rfl)
        refine upon_call (f := 10) (args := #[v]) ?_ ((seal_any l v w' hm (bytes_grow hb (hg0.trans hg))).mono ?_)
        · clear hin hg
          have ek : ∀ x, a.eval (.const x) = x := fun _ => rfl
          have ef : ∀ f, a.eval (.func f) = .func (.func f) #[] #[] := fun _ => rfl
          generalize a.eval = ev at *
          go_simp
          all_goals first | done | omega | (intro _; omega) | go_arith
        · rintro e w2 ⟨v', rfl, ho, hgr⟩
          exact ⟨_, rfl, hgr, bytes_own ho⟩
      · refine need_yes 17 true rfl (fun a w' hin => ins_on hin 17 (by kernel_rfl)) (fun a w' hg hin => ?_)
        have e56 : (fun v w => Bytes w v (sealed l)) (a.eval (.tmp 56)) w' := ins_on hin 19 (by kernel_rfl)
        refine upon_val ?_ rfl
        have hrun := run_str w' _ _ e56
        clear hin hg e56
        have ek : ∀ x, a.eval (.const x) = x := fun _ => rfl
        have ef : ∀ f, a.eval (.func f) = .func (.func f) #[] #[] := fun _ => rfl
        generalize a.eval = ev at *
        go_simp
        all_goals first | done | omega | (intro _; omega) | go_arith
      · refine need_yes 17 true rfl (fun a w' hin => ins_on hin 17 (by kernel_rfl)) (fun a w' hg hin => ?_)
        have e : a.eval (.tmp 0) = v := ins_ext hin 0 (by kernel_rfl)
        exact upon_move rfl e
      · refine need_yes 17 true rfl (fun a w' hin => ins_on hin 17 (by kernel_rfl)) (fun a w' hg hin => ?_)
        have e58 : a.eval (.tmp 58) = v := ins_on hin 21 (by kernel_rfl)
        refine upon_call (f := 11) (args := #[v]) ?_ ((rseal_any l v w' hm (bytes_grow hb (hg0.trans hg))).mono ?_)
        · clear hin hg
          have ek : ∀ x, a.eval (.const x) = x := fun _ => rfl
          have ef : ∀ f, a.eval (.func f) = .func (.func f) #[] #[] := fun _ => rfl
          generalize a.eval = ev at *
          go_simp
          all_goals first | done | omega | (intro _; omega) | go_arith
        · rintro e w2 ⟨v', rfl, ho, hgr⟩
          exact ⟨_, rfl, hgr, bytes_own ho⟩
      · refine need_yes 17 true rfl (fun a w' hin => ins_on hin 17 (by kernel_rfl)) (fun a w' hg hin => ?_)
        have e59 : (fun v w => Bytes w v (sealed l)) (a.eval (.tmp 59)) w' := ins_on hin 22 (by kernel_rfl)
        refine upon_val ?_ rfl
        have hrun := run_str w' _ _ e59
        clear hin hg e59
        have ek : ∀ x, a.eval (.const x) = x := fun _ => rfl
        have ef : ∀ f, a.eval (.func f) = .func (.func f) #[] #[] := fun _ => rfl
        generalize a.eval = ev at *
        go_simp
        all_goals first | done | omega | (intro _; omega) | go_arith
      · refine need_yes 17 true rfl (fun a w' hin => ins_on hin 17 (by kernel_rfl)) (fun a w' hg hin => ?_)
        have e57 : a.eval (.tmp 57) = str (sealed l) := ins_on hin 20 (by kernel_rfl)
        have e60 : a.eval (.tmp 60) = str (sealed l) := ins_on hin 23 (by kernel_rfl)
        refine upon_val ?_ rfl
        unfold str at e57 e60
        clear hin hg
        have ek : ∀ x, a.eval (.const x) = x := fun _ => rfl
        have ef : ∀ f, a.eval (.func f) = .func (.func f) #[] #[] := fun _ => rfl
        generalize a.eval = ev at *
        go_simp
        all_goals first | done | omega | (intro _; omega) | go_arith
      · refine need_plain rfl (fun a w' hg hin => ?_)
        have ec : a.eval (.tmp 54) = .bool true := ins_on hin 17 (by kernel_rfl)
        have e : a.eval (.tmp 61) = .bool true := ins_on hin 24 (by kernel_rfl)
        exact upon_pick rfl ec e
      · refine need_plain rfl (fun a w' hg hin => ?_)
        have e : a.eval (.tmp 62) = .bool true := ins_on hin 25 (by kernel_rfl)
        exact upon_move rfl e
      · refine need_yes 26 true rfl (fun a w' hin => ins_on hin 26 (by kernel_rfl)) (fun a w' hg hin => ?_)
        have e : a.eval (.tmp 0) = v := ins_ext hin 0 (by kernel_rfl)
        exact upon_move rfl e
      · refine need_yes 26 true rfl (fun a w' hin => ins_on hin 26 (by kernel_rfl)) (fun a w' hg hin => ?_)
        have e64 : a.eval (.tmp 64) = v := ins_on hin 27 (by kernel_rfl)
        refine upon_call (f := 12) (args := #[v]) ?_ ((issealed_any l v w' (by omega) (bytes_grow hb (hg0.trans hg))).mono ?_)
        · clear hin hg
          have ek : ∀ x, a.eval (.const x) = x := fun _ => rfl
          have ef : ∀ f, a.eval (.func f) = .func (.func f) #[] #[] := fun _ => rfl
          generalize a.eval = ev at *
          go_simp
          all_goals first | done | omega | (intro _; omega) | go_arith
        · rintro e w2 ⟨rfl, hgr⟩
          exact ⟨_, rfl, hgr, rfl⟩
      · refine need_yes 26 true rfl (fun a w' hin => ins_on hin 26 (by kernel_rfl)) (fun a w' hg hin => ?_)
        have e : a.eval (.tmp 0) = v := ins_ext hin 0 (by kernel_rfl)
        exact upon_move rfl e
      · refine need_yes 26 true rfl (fun a w' hin => ins_on hin 26 (by kernel_rfl)) (fun a w' hg hin => ?_)
        have e66 : a.eval (.tmp 66) = v := ins_on hin 29 (by kernel_rfl)
        refine upon_call (f := 13) (args := #[v]) ?_ ((rsealed_any l v w' (by omega) (bytes_grow hb (hg0.trans hg))).mono ?_)
        · clear hin hg
          have ek : ∀ x, a.eval (.const x) = x := fun _ => rfl
          have ef : ∀ f, a.eval (.func f) = .func (.func f) #[] #[] := fun _ => rfl
          generalize a.eval = ev at *
          go_simp
          all_goals first | done | omega | (intro _; omega) | go_arith
        · rintro e w2 ⟨rfl, hgr⟩
          exact ⟨_, rfl, hgr, rfl⟩
      · refine need_yes 26 true rfl (fun a w' hin => ins_on hin 26 (by kernel_rfl)) (fun a w' hg hin => ?_)
        have e65 : a.eval (.tmp 65) = .bool (sealedB l) := ins_on hin 28 (by kernel_rfl)
        have e67 : a.eval (.tmp 67) = .bool (sealedB l) := ins_on hin 30 (by kernel_rfl)
        refine upon_val ?_ rfl
        clear hin hg
        have ek : ∀ x, a.eval (.const x) = x := fun _ => rfl
        have ef : ∀ f, a.eval (.func f) = .func (.func f) #[] #[] := fun _ => rfl
        generalize a.eval = ev at *
        go_simp
        all_goals first | done | omega | (intro _; omega) | go_arith
      · refine need_plain rfl (fun a w' hg hin => ?_)
        have ec : a.eval (.tmp 63) = .bool true := ins_on hin 26 (by kernel_rfl)
        have e : a.eval (.tmp 68) = .bool true := ins_on hin 31 (by kernel_rfl)
        exact upon_pick rfl ec e
      · refine need_plain rfl (fun a w' hg hin => ?_)
        have e : a.eval (.tmp 69) = .bool true := ins_on hin 32 (by kernel_rfl)
        exact upon_assign rfl e
    · intro vs w' hg ht
      obtain ⟨q37, q38, q39, q40, q41, q42, q43, q44, q45, q46, q47, q48, q49, q50, q51, q52, q53, q54, q55, q56, q57, q58, q59, q60, q61, q62, q63, q64, q65, q66, q67, q68, q69, q8, -⟩ := ht
      have r37 : vs 0 = v := q37
      have r38 : vs 1 = .int .i64 (sumOf l) := q38
      have r39 : vs 2 = v := q39
      have r40 : vs 3 = .int .i64 (sumOf l) := q40
      have r41 : vs 4 = .bool true := q41
      have r42 : vs 5 = .bool true := q42
      have r43 : vs 6 = .int .u8 (x.toNat : Int) := q43
      have r44 : vs 7 = .int .u8 (y.toNat : Int) := q44
      have r45 : vs 8 = .int .i64 ((x.toNat : Int) * 256 + (y.toNat : Int)) := q45
      have r46 : vs 9 = .int .u8 (x.toNat : Int) := q46
      have r47 : vs 10 = .int .i64 (x.toNat : Int) := q47
      have r48 : vs 11 = .int .i64 ((x.toNat : Int) * 256) := q48
      have r49 : vs 12 = .int .u8 (y.toNat : Int) := q49
      have r50 : vs 13 = .int .i64 (y.toNat : Int) := q50
      have r51 : vs 14 = .int .i64 ((x.toNat : Int) * 256 + (y.toNat : Int)) := q51
      have r52 : vs 15 = .bool true := q52
      have r53 : vs 16 = .bool true := q53
      have r54 : vs 17 = .bool true := q54
      have r55 : vs 18 = v := q55
      have r57 : vs 20 = str (sealed l) := q57
      have r58 : vs 21 = v := q58
      have r60 : vs 23 = str (sealed l) := q60
      have r61 : vs 24 = .bool true := q61
      have r62 : vs 25 = .bool true := q62
      have r63 : vs 26 = .bool true := q63
      have r64 : vs 27 = v := q64
      have r65 : vs 28 = .bool (sealedB l) := q65
      have r66 : vs 29 = v := q66
      have r67 : vs 30 = .bool (sealedB l) := q67
      have r68 : vs 31 = .bool true := q68
      have r69 : vs 32 = .bool true := q69
      have r8 : vs 33 = .bool true := q8
      clear q37 q38 q39 q40 q41 q42 q43 q44 q45 q46 q47 q48 q49 q50 q51 q52 q53 q54 q55 q57 q58 q60 q61 q62 q63 q64 q65 q66 q67 q68 q69 q8
      simp only [putAll, Act.put, List.setIfInBounds_toArray, List.set_cons_zero, List.set_cons_succ, r37, r38, r39, r40, r41, r42, r43, r44, r45, r46, r47, r48, r49, r50, r51, r52, r53, r54, r55, r57, r58, r60, r61, r62, r63, r64, r65, r66, r67, r68, r69, r8]
      clear r37 r38 r39 r40 r41 r42 r43 r44 r45 r46 r47 r48 r49 r50 r51 r52 r53 r54 r55 r57 r58 r60 r61 r62 r63 r64 r65 r66 r67 r68 r69 r8
      go_wp2
      go_ret
      exact ⟨rfl, hg0.trans hg⟩

theorem sumtells_any (l : List UInt8) (v : Value) (n : Int) (x y : UInt8) (w : World) (hm : l.length ≤ 140737488355326) (hb : Bytes w v l) :
    Calls Try.prog 3 #[v, .int .i64 n, .int .u8 (x.toNat : Int), .int .u8 (y.toNat : Int)] w fun e w' => e = .returned (.bool true) ∧ Grow w w' := by
  by_cases h0 : n < 0
  · exact sumtells_neg l v n x y w hm hb h0
  · by_cases h1 : n < 65536
    · exact sumtells_in l v n x y w hm hb (by omega) h1
    · exact sumtells_big l v n x y w hm hb (by omega)
end Go.Proofs.Ytahclfghlddekaa
