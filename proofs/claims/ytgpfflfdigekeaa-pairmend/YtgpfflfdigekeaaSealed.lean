/-
  What sum.Sealed tells of any bytes: whether there are two at least, and the last two are those of the sum of the ones ahead.
  Condition: the slice holds those bytes, and fewer than 2^47 of them.
-/
import Derived.Test.YtgpfflfdigekeaaSeal
import Derived.Handy
namespace Go.Proofs.Ytgpfflfdigekeaa
set_option maxRecDepth 100000
open Go.RowKit
open Go.Proofs.Ytgpfflfdigekeaa.Plain Go.Proofs.Ytgpfflfdigekeaa.Reg

set_option maxHeartbeats 400000 in
theorem issealed_short (l : List UInt8) (ao : Option Addr) (cap : Nat) (w : World) (hs : l.length < 2) :
    Calls Try.prog 20 #[.slice ao l.length cap] w fun e w' => e = .returned (.bool false) ∧ Grow w w' := by
  have hd : decide ((0 : Int) ≤ (l.length : Int) - 2) = false := by simp; omega
  go_enter Try.func20, Try.ntmps20
  go_wp2
  refine wp_region_told [ex (.int .i64 ((l.length : Int) - 2)), ex (.bool false), ex (.bool false), ex (undef), ex (undef), ex (undef), ex (undef), ex (undef), ex (undef), ex (undef), ex (undef), ex (undef), ex (undef), ex (undef), ex (undef), ex (undef), ex (undef), ex (undef), ex (.bool false), ex (.bool false)] (by kernel_rfl) (by kernel_rfl) ⟨st_ex _, st_ex _, st_ex _, st_ex _, st_ex _, st_ex _, st_ex _, st_ex _, st_ex _, st_ex _, st_ex _, st_ex _, st_ex _, st_ex _, st_ex _, st_ex _, st_ex _, st_ex _, st_ex _, st_ex _, trivial⟩ ?_ ?_
  · refine ⟨?_, ?_, ?_, ?_, ?_, ?_, ?_, ?_, ?_, ?_, ?_, ?_, ?_, ?_, ?_, ?_, ?_, ?_, ?_, ?_, trivial⟩
    · refine need_plain rfl (fun a w' hg hin => ?_)
      have e : a.eval (.tmp 3) = .int .i64 ((l.length : Int) - 2) := ins_ext hin 3 (by kernel_rfl)
      exact upon_move rfl e
    · refine need_plain rfl (fun a w' hg hin => ?_)
      have e7 : a.eval (.tmp 7) = .int .i64 ((l.length : Int) - 2) := ins_on hin 0 (by kernel_rfl)
      refine upon_val ?_ rfl
      clear hin hg
      have ek : ∀ x, a.eval (.const x) = x := fun _ => rfl
      have ef : ∀ f, a.eval (.func f) = .func (.func f) #[] #[] := fun _ => rfl
      generalize a.eval = ev at *
      go_simp
      all_goals first | done | omega | (intro _; omega) | go_arith
    · refine need_plain rfl (fun a w' hg hin => ?_)
      have e : a.eval (.tmp 8) = .bool false := ins_on hin 1 (by kernel_rfl)
      exact upon_move rfl e
    · refine need_no 2 true false rfl (by decide) (fun a w' hin => ins_on hin 2 (by kernel_rfl)) (fun _ => rfl)
    · refine need_no 2 true false rfl (by decide) (fun a w' hin => ins_on hin 2 (by kernel_rfl)) (fun _ => rfl)
    · refine need_no 2 true false rfl (by decide) (fun a w' hin => ins_on hin 2 (by kernel_rfl)) (fun _ => rfl)
    · refine need_no 2 true false rfl (by decide) (fun a w' hin => ins_on hin 2 (by kernel_rfl)) (fun _ => rfl)
    · refine need_no 2 true false rfl (by decide) (fun a w' hin => ins_on hin 2 (by kernel_rfl)) (fun _ => rfl)
    · refine need_no 2 true false rfl (by decide) (fun a w' hin => ins_on hin 2 (by kernel_rfl)) (fun _ => rfl)
    · refine need_no 2 true false rfl (by decide) (fun a w' hin => ins_on hin 2 (by kernel_rfl)) (fun _ => rfl)
    · refine need_no 2 true false rfl (by decide) (fun a w' hin => ins_on hin 2 (by kernel_rfl)) (fun _ => rfl)
    · refine need_no 2 true false rfl (by decide) (fun a w' hin => ins_on hin 2 (by kernel_rfl)) (fun _ => rfl)
    · refine need_no 2 true false rfl (by decide) (fun a w' hin => ins_on hin 2 (by kernel_rfl)) (fun _ => rfl)
    · refine need_no 2 true false rfl (by decide) (fun a w' hin => ins_on hin 2 (by kernel_rfl)) (fun _ => rfl)
    · refine need_no 2 true false rfl (by decide) (fun a w' hin => ins_on hin 2 (by kernel_rfl)) (fun _ => rfl)
    · refine need_no 2 true false rfl (by decide) (fun a w' hin => ins_on hin 2 (by kernel_rfl)) (fun _ => rfl)
    · refine need_no 2 true false rfl (by decide) (fun a w' hin => ins_on hin 2 (by kernel_rfl)) (fun _ => rfl)
    · refine need_no 2 true false rfl (by decide) (fun a w' hin => ins_on hin 2 (by kernel_rfl)) (fun _ => rfl)
    · refine need_plain rfl (fun a w' hg hin => ?_)
      have ec : a.eval (.tmp 9) = .bool false := ins_on hin 2 (by kernel_rfl)
      exact upon_pick rfl ec rfl
    · refine need_plain rfl (fun a w' hg hin => ?_)
      have e : a.eval (.tmp 25) = .bool false := ins_on hin 18 (by kernel_rfl)
      exact upon_assign rfl e
  · intro vs w' hg ht
    obtain ⟨q7, q8, q9, q10, q11, q12, q13, q14, q15, q16, q17, q18, q19, q20, q21, q22, q23, q24, q25, q2, -⟩ := ht
    have r7 : vs 0 = .int .i64 ((l.length : Int) - 2) := q7
    have r8 : vs 1 = .bool false := q8
    have r9 : vs 2 = .bool false := q9
    have r10 : vs 3 = undef := q10
    have r11 : vs 4 = undef := q11
    have r12 : vs 5 = undef := q12
    have r13 : vs 6 = undef := q13
    have r14 : vs 7 = undef := q14
    have r15 : vs 8 = undef := q15
    have r16 : vs 9 = undef := q16
    have r17 : vs 10 = undef := q17
    have r18 : vs 11 = undef := q18
    have r19 : vs 12 = undef := q19
    have r20 : vs 13 = undef := q20
    have r21 : vs 14 = undef := q21
    have r22 : vs 15 = undef := q22
    have r23 : vs 16 = undef := q23
    have r24 : vs 17 = undef := q24
    have r25 : vs 18 = .bool false := q25
    have r2 : vs 19 = .bool false := q2
    clear q7 q8 q9 q10 q11 q12 q13 q14 q15 q16 q17 q18 q19 q20 q21 q22 q23 q24 q25 q2
    simp only [putAll, Act.put, List.setIfInBounds_toArray, List.set_cons_zero, List.set_cons_succ, r7, r8, r9, r10, r11, r12, r13, r14, r15, r16, r17, r18, r19, r20, r21, r22, r23, r24, r25, r2]
    clear r7 r8 r9 r10 r11 r12 r13 r14 r15 r16 r17 r18 r19 r20 r21 r22 r23 r24 r25 r2
    go_wp2
    go_ret
    exact ⟨rfl, hg⟩

theorem slice_bytes {w : World} {b off cap n m : Nat} {l : List UInt8} (hl : l.length = m) (hn : n ≤ m) (hcap : m ≤ cap) (hc : ∀ (i : Nat) (h : i < l.length), w.cell? ⟨b, off + i, none⟩ = some (.int .u8 (l[i].toNat : Int))) :
    Bytes w (.slice (some ⟨b, off, none⟩) n cap) (l.take n) := by
  have e : (l.take n).length = n := by simp; omega
  refine .inr ⟨b, off, cap, by rw [e], by omega, fun i hi => ?_⟩
  rw [List.getElem_take]
  exact hc i (by omega)

set_option maxHeartbeats 400000 in
theorem issealed_long (l : List UInt8) (x y : UInt8) (b off cap n : Nat) (w : World) (hm : n ≤ 140737488355326) (hcap : n + 2 ≤ cap) (hl : l.length = n)
    (hc : ∀ (i : Nat) (h : i < l.length), w.cell? ⟨b, off + i, none⟩ = some (.int .u8 (l[i].toNat : Int)))
    (hx : w.cell? ⟨b, off + n, none⟩ = some (.int .u8 (x.toNat : Int))) (hy : w.cell? ⟨b, off + (n + 1), none⟩ = some (.int .u8 (y.toNat : Int))) :
    Calls Try.prog 20 #[.slice (some ⟨b, off, none⟩) (n + 2) cap] w fun e w' => e = .returned (.bool ((x.toNat : Int) * 256 + (y.toNat : Int) == sumOf l)) ∧ Grow w w' := by
  have HL : Hid (l.length = n) := hl
  clear hl
  have hb0 : Bytes w (.slice (some ⟨b, off, none⟩) n cap) l := .inr ⟨b, off, cap, by rw [HL.out], by have := HL.out; omega, hc⟩
  go_enter Try.func20, Try.ntmps20
  go_wp2
  refine wp_region_told [ex (.int .i64 n), ex (.bool true), ex (.bool true), ex (.slice (some ⟨b, off, none⟩) (n + 2) cap), ex (.int .i64 n), ex (.pointer (some ⟨b, off + n, none⟩)), ex (.int .u8 (x.toNat : Int)), ex (.slice (some ⟨b, off, none⟩) (n + 2) cap), ex (.int .i64 n), ex (.int .i64 ((n : Int) + 1)), ex (.pointer (some ⟨b, off + (n + 1), none⟩)), ex (.int .u8 (y.toNat : Int)), ex (.int .i64 ((x.toNat : Int) * 256 + (y.toNat : Int))), ex (.slice (some ⟨b, off, none⟩) (n + 2) cap), ex (.int .i64 n), ex (.slice (some ⟨b, off, none⟩) n cap), ex (.int .i64 (sumOf l)), ex (.bool ((x.toNat : Int) * 256 + (y.toNat : Int) == sumOf l)), ex (.bool ((x.toNat : Int) * 256 + (y.toNat : Int) == sumOf l)), ex (.bool ((x.toNat : Int) * 256 + (y.toNat : Int) == sumOf l))] (by kernel_rfl) (by kernel_rfl) ⟨st_ex _, st_ex _, st_ex _, st_ex _, st_ex _, st_ex _, st_ex _, st_ex _, st_ex _, st_ex _, st_ex _, st_ex _, st_ex _, st_ex _, st_ex _, st_ex _, st_ex _, st_ex _, st_ex _, st_ex _, trivial⟩ ?_ ?_
  · refine ⟨?_, ?_, ?_, ?_, ?_, ?_, ?_, ?_, ?_, ?_, ?_, ?_, ?_, ?_, ?_, ?_, ?_, ?_, ?_, ?_, trivial⟩
    · refine need_plain rfl (fun a w' hg hin => ?_)
      have e : a.eval (.tmp 3) = .int .i64 n := ins_ext hin 3 (by kernel_rfl)
      exact upon_move rfl e
    · refine need_plain rfl (fun a w' hg hin => ?_)
      have e7 : a.eval (.tmp 7) = .int .i64 n := ins_on hin 0 (by kernel_rfl)
      refine upon_val ?_ rfl
      clear hin hg
      have ek : ∀ x, a.eval (.const x) = x := fun _ => rfl
      have ef : ∀ f, a.eval (.func f) = .func (.func f) #[] #[] := fun _ => rfl
      generalize a.eval = ev at *
      go_simp
      all_goals first | done | omega | (intro _; omega) | go_arith
    · refine need_plain rfl (fun a w' hg hin => ?_)
      have e : a.eval (.tmp 8) = .bool true := ins_on hin 1 (by kernel_rfl)
      exact upon_move rfl e
    · refine need_yes 2 true rfl (fun a w' hin => ins_on hin 2 (by kernel_rfl)) (fun a w' hg hin => ?_)
      have e : a.eval (.tmp 0) = .slice (some ⟨b, off, none⟩) (n + 2) cap := ins_ext hin 0 (by kernel_rfl)
      exact upon_move rfl e
    · refine need_yes 2 true rfl (fun a w' hin => ins_on hin 2 (by kernel_rfl)) (fun a w' hg hin => ?_)
      have e : a.eval (.tmp 3) = .int .i64 n := ins_ext hin 3 (by kernel_rfl)
      exact upon_move rfl e
    · refine need_yes 2 true rfl (fun a w' hin => ins_on hin 2 (by kernel_rfl)) (fun a w' hg hin => ?_)
      have e10 : a.eval (.tmp 10) = .slice (some ⟨b, off, none⟩) (n + 2) cap := ins_on hin 3 (by kernel_rfl)
      have e11 : a.eval (.tmp 11) = .int .i64 n := ins_on hin 4 (by kernel_rfl)
      refine upon_val ?_ rfl
      clear hin hg
      have ek : ∀ x, a.eval (.const x) = x := fun _ => rfl
      have ef : ∀ f, a.eval (.func f) = .func (.func f) #[] #[] := fun _ => rfl
      generalize a.eval = ev at *
      go_simp
      all_goals first | done | omega | (intro _; omega) | go_arith
    · refine need_yes 2 true rfl (fun a w' hin => ins_on hin 2 (by kernel_rfl)) (fun a w' hg hin => ?_)
      have e12 : a.eval (.tmp 12) = .pointer (some ⟨b, off + n, none⟩) := ins_on hin 5 (by kernel_rfl)
      have h1 : w'.cell? ⟨b, off + n, none⟩ = some (.int .u8 (x.toNat : Int)) := (Below.cell hg (cell_lt hx)).trans hx
      refine upon_val ?_ rfl
      clear hin hg
      have ek : ∀ x, a.eval (.const x) = x := fun _ => rfl
      have ef : ∀ f, a.eval (.func f) = .func (.func f) #[] #[] := fun _ => rfl
      generalize a.eval = ev at *
      go_simp
      all_goals first | done | omega | (intro _; omega) | go_arith
    · refine need_yes 2 true rfl (fun a w' hin => ins_on hin 2 (by kernel_rfl)) (fun a w' hg hin => ?_)
      have e : a.eval (.tmp 0) = .slice (some ⟨b, off, none⟩) (n + 2) cap := ins_ext hin 0 (by kernel_rfl)
      exact upon_move rfl e
    · refine need_yes 2 true rfl (fun a w' hin => ins_on hin 2 (by kernel_rfl)) (fun a w' hg hin => ?_)
      have e : a.eval (.tmp 3) = .int .i64 n := ins_ext hin 3 (by kernel_rfl)
      exact upon_move rfl e
    · refine need_yes 2 true rfl (fun a w' hin => ins_on hin 2 (by kernel_rfl)) (fun a w' hg hin => ?_)
      have e15 : a.eval (.tmp 15) = .int .i64 n := ins_on hin 8 (by kernel_rfl)
      refine upon_val ?_ rfl
      clear hin hg
      have ek : ∀ x, a.eval (.const x) = x := fun _ => rfl
      have ef : ∀ f, a.eval (.func f) = .func (.func f) #[] #[] := fun _ => rfl
      generalize a.eval = ev at *
      go_simp
      all_goals first | done | omega | (intro _; omega) | go_arith
    · refine need_yes 2 true rfl (fun a w' hin => ins_on hin 2 (by kernel_rfl)) (fun a w' hg hin => ?_)
      have e14 : a.eval (.tmp 14) = .slice (some ⟨b, off, none⟩) (n + 2) cap := ins_on hin 7 (by kernel_rfl)
      have e16 : a.eval (.tmp 16) = .int .i64 ((n : Int) + 1) := ins_on hin 9 (by kernel_rfl)
      refine upon_val ?_ rfl
      clear hin hg
      have ek : ∀ x, a.eval (.const x) = x := fun _ => rfl
      have ef : ∀ f, a.eval (.func f) = .func (.func f) #[] #[] := fun _ => rfl
      generalize a.eval = ev at *
      go_simp
      all_goals first | done | omega | (intro _; omega) | go_arith
    · refine need_yes 2 true rfl (fun a w' hin => ins_on hin 2 (by kernel_rfl)) (fun a w' hg hin => ?_)
      have e17 : a.eval (.tmp 17) = .pointer (some ⟨b, off + (n + 1), none⟩) := ins_on hin 10 (by kernel_rfl)
      have h1 : w'.cell? ⟨b, off + (n + 1), none⟩ = some (.int .u8 (y.toNat : Int)) := (Below.cell hg (cell_lt hy)).trans hy
      refine upon_val ?_ rfl
      clear hin hg
      have ek : ∀ x, a.eval (.const x) = x := fun _ => rfl
      have ef : ∀ f, a.eval (.func f) = .func (.func f) #[] #[] := fun _ => rfl
      generalize a.eval = ev at *
      go_simp
      all_goals first | done | omega | (intro _; omega) | go_arith
    · refine need_yes 2 true rfl (fun a w' hin => ins_on hin 2 (by kernel_rfl)) (fun a w' hg hin => ?_)
      have e13 : a.eval (.tmp 13) = .int .u8 (x.toNat : Int) := ins_on hin 6 (by kernel_rfl)
      have e18 : a.eval (.tmp 18) = .int .u8 (y.toNat : Int) := ins_on hin 11 (by kernel_rfl)
      refine upon_call (f := 17) (args := #[.int .u8 (x.toNat : Int), .int .u8 (y.toNat : Int)]) ?_ ((number_any x y w').mono ?_)
      · clear hin hg
        have ek : ∀ x, a.eval (.const x) = x := fun _ => rfl
        have ef : ∀ f, a.eval (.func f) = .func (.func f) #[] #[] := fun _ => rfl
        generalize a.eval = ev at *
        go_simp
        all_goals first | done | omega | (intro _; omega) | go_arith
      · rintro e w2 ⟨rfl, rfl⟩
        exact ⟨_, rfl, Grow.refl _, rfl⟩
    · refine need_yes 2 true rfl (fun a w' hin => ins_on hin 2 (by kernel_rfl)) (fun a w' hg hin => ?_)
      have e : a.eval (.tmp 0) = .slice (some ⟨b, off, none⟩) (n + 2) cap := ins_ext hin 0 (by kernel_rfl)
      exact upon_move rfl e
    · refine need_yes 2 true rfl (fun a w' hin => ins_on hin 2 (by kernel_rfl)) (fun a w' hg hin => ?_)
      have e : a.eval (.tmp 3) = .int .i64 n := ins_ext hin 3 (by kernel_rfl)
      exact upon_move rfl e
    · refine need_yes 2 true rfl (fun a w' hin => ins_on hin 2 (by kernel_rfl)) (fun a w' hg hin => ?_)
      have e20 : a.eval (.tmp 20) = .slice (some ⟨b, off, none⟩) (n + 2) cap := ins_on hin 13 (by kernel_rfl)
      have e21 : a.eval (.tmp 21) = .int .i64 n := ins_on hin 14 (by kernel_rfl)
      refine upon_val ?_ rfl
      clear hin hg
      have ek : ∀ x, a.eval (.const x) = x := fun _ => rfl
      have ef : ∀ f, a.eval (.func f) = .func (.func f) #[] #[] := fun _ => rfl
      generalize a.eval = ev at *
      go_simp
      all_goals first | done | omega | (intro _; omega) | go_arith
    · refine need_yes 2 true rfl (fun a w' hin => ins_on hin 2 (by kernel_rfl)) (fun a w' hg hin => ?_)
      have e22 : a.eval (.tmp 22) = .slice (some ⟨b, off, none⟩) n cap := ins_on hin 15 (by kernel_rfl)
      refine upon_call (f := 15) (args := #[.slice (some ⟨b, off, none⟩) n cap]) ?_ ((of_any l _ w' (by have := HL.out; omega) (bytes_grow hb0 hg)).mono ?_)
      · clear hin hg
        have ek : ∀ x, a.eval (.const x) = x := fun _ => rfl
        have ef : ∀ f, a.eval (.func f) = .func (.func f) #[] #[] := fun _ => rfl
        generalize a.eval = ev at *
        go_simp
        all_goals first | done | omega | (intro _; omega) | go_arith
      · rintro e w2 ⟨rfl, rfl⟩
        exact ⟨_, rfl, Grow.refl _, rfl⟩
    · refine need_yes 2 true rfl (fun a w' hin => ins_on hin 2 (by kernel_rfl)) (fun a w' hg hin => ?_)
      have e19 : a.eval (.tmp 19) = .int .i64 ((x.toNat : Int) * 256 + (y.toNat : Int)) := ins_on hin 12 (by kernel_rfl)
      have e23 : a.eval (.tmp 23) = .int .i64 (sumOf l) := ins_on hin 16 (by kernel_rfl)
      refine upon_val ?_ rfl
      clear hin hg
      have ek : ∀ x, a.eval (.const x) = x := fun _ => rfl
      have ef : ∀ f, a.eval (.func f) = .func (.func f) #[] #[] := fun _ => rfl
      generalize a.eval = ev at *
      go_simp
      all_goals first | done | omega | (intro _; omega) | go_arith
    · refine need_plain rfl (fun a w' hg hin => ?_)
      have ec : a.eval (.tmp 9) = .bool true := ins_on hin 2 (by kernel_rfl)
      have e : a.eval (.tmp 24) = .bool ((x.toNat : Int) * 256 + (y.toNat : Int) == sumOf l) := ins_on hin 17 (by kernel_rfl)
      exact upon_pick rfl ec e
    · refine need_plain rfl (fun a w' hg hin => ?_)
      have e : a.eval (.tmp 25) = .bool ((x.toNat : Int) * 256 + (y.toNat : Int) == sumOf l) := ins_on hin 18 (by kernel_rfl)
      exact upon_assign rfl e
  · intro vs w' hg ht
    obtain ⟨q7, q8, q9, q10, q11, q12, q13, q14, q15, q16, q17, q18, q19, q20, q21, q22, q23, q24, q25, q2, -⟩ := ht
    have r7 : vs 0 = .int .i64 n := q7
    have r8 : vs 1 = .bool true := q8
    have r9 : vs 2 = .bool true := q9
    have r10 : vs 3 = .slice (some ⟨b, off, none⟩) (n + 2) cap := q10
    have r11 : vs 4 = .int .i64 n := q11
    have r12 : vs 5 = .pointer (some ⟨b, off + n, none⟩) := q12
    have r13 : vs 6 = .int .u8 (x.toNat : Int) := q13
    have r14 : vs 7 = .slice (some ⟨b, off, none⟩) (n + 2) cap := q14
    have r15 : vs 8 = .int .i64 n := q15
    have r16 : vs 9 = .int .i64 ((n : Int) + 1) := q16
    have r17 : vs 10 = .pointer (some ⟨b, off + (n + 1), none⟩) := q17
    have r18 : vs 11 = .int .u8 (y.toNat : Int) := q18
    have r19 : vs 12 = .int .i64 ((x.toNat : Int) * 256 + (y.toNat : Int)) := q19
    have r20 : vs 13 = .slice (some ⟨b, off, none⟩) (n + 2) cap := q20
    have r21 : vs 14 = .int .i64 n := q21
    have r22 : vs 15 = .slice (some ⟨b, off, none⟩) n cap := q22
    have r23 : vs 16 = .int .i64 (sumOf l) := q23
    have r24 : vs 17 = .bool ((x.toNat : Int) * 256 + (y.toNat : Int) == sumOf l) := q24
    have r25 : vs 18 = .bool ((x.toNat : Int) * 256 + (y.toNat : Int) == sumOf l) := q25
    have r2 : vs 19 = .bool ((x.toNat : Int) * 256 + (y.toNat : Int) == sumOf l) := q2
    clear q7 q8 q9 q10 q11 q12 q13 q14 q15 q16 q17 q18 q19 q20 q21 q22 q23 q24 q25 q2
    simp only [putAll, Act.put, List.setIfInBounds_toArray, List.set_cons_zero, List.set_cons_succ, r7, r8, r9, r10, r11, r12, r13, r14, r15, r16, r17, r18, r19, r20, r21, r22, r23, r24, r25, r2]
    clear r7 r8 r9 r10 r11 r12 r13 r14 r15 r16 r17 r18 r19 r20 r21 r22 r23 r24 r25 r2
    go_wp2
    go_ret
    exact ⟨rfl, hg⟩

theorem issealed_any (l : List UInt8) (v : Value) (w : World) (hm : l.length ≤ 140737488355328) (h : Bytes w v l) :
    Calls Try.prog 20 #[v] w fun e w' => e = .returned (.bool (sealedB l)) ∧ Grow w w' := by
  by_cases hs : l.length < 2
  · have e : sealedB l = false := by simp [sealedB]; omega
    rw [e]
    rcases h with ⟨ao, cap, rfl, rfl, h0⟩ | ⟨b, off, cap, rfl, hcap, hc⟩
    · exact issealed_short [] ao cap w hs
    · exact issealed_short l _ cap w hs
  · rcases h with ⟨ao, cap, rfl, rfl, h0⟩ | ⟨b, off, cap, rfl, hcap, hc⟩
    · simp at hs
    · have hl : l.length = (l.length - 2) + 2 := by omega
      have e : sealedB l = ((((l.getD (l.length - 2) 0).toNat : Int) * 256 + ((l.getD (l.length - 1) 0).toNat : Int)) == sumOf (l.take (l.length - 2))) := by
        unfold sealedB; rw [decide_eq_true (by omega : 2 ≤ l.length), Bool.true_and]
      rw [e, show (Value.slice (some ⟨b, off, none⟩) l.length cap) = .slice (some ⟨b, off, none⟩) ((l.length - 2) + 2) cap from by rw [← hl]]
      refine issealed_long (l.take (l.length - 2)) _ _ b off cap (l.length - 2) w (by omega) (by omega) (by simp) (fun i hi => ?_) ?_ ?_
      · rw [List.getElem_take]; exact hc i (by simp at hi; omega)
      · have := hc (l.length - 2) (by omega)
        rw [this, List.getD_eq_getElem?_getD, List.getElem?_eq_getElem (by omega)]; rfl
      · have := hc (l.length - 1) (by omega)
        rw [show l.length - 2 + 1 = l.length - 1 from by omega, this, List.getD_eq_getElem?_getD, List.getElem?_eq_getElem (by omega)]; rfl

/-- Bytes as a string. -/
def str (l : List UInt8) : Value := .string ⟨l.toArray⟩

theorem push_fold (l : List UInt8) : ∀ (s : ByteArray), (l.map (fun c => (c.toNat : Int))).foldl (fun r n => r.push (UInt8.ofNat n.toNat)) s = ⟨s.data ++ l.toArray⟩ := by
  induction l with
  | nil => intro s; simp
  | cons c l ih =>
    intro s
    simp only [List.map_cons, List.foldl_cons]
    rw [ih]
    simp [ByteArray.push]

theorem run_str (w : World) (v : Value) (l : List UInt8) (h : Bytes w v l) : (convert 22 9 v).run Try.prog w = .ok (str l) w := by
  obtain ⟨ao, cap, rfl, hnone, hcells⟩ := bytes_src h
  rw [run_convert_bytes_string w 22 9 5 ao l.length cap Try.underlying22 Try.underlying5 Try.underlying9]
  cases ao with
  | none =>
    obtain ⟨h1, _⟩ := hnone rfl
    obtain rfl := List.eq_nil_of_length_eq_zero h1
    rfl
  | some ad =>
    have h1 : (loadCells ad l.length).run Try.prog w = .ok ((l.map (fun c => (c.toNat : Int))).map (Value.int .u8)).toArray w := by
      have h2 := run_loadCells_list (P := Try.prog) (w := w) ad (l.map bv) (hcells ad rfl)
      simp only [List.length_map] at h2
      rw [h2]
      simp [bv, Function.comp_def]
    rw [run_bytesToString w ad l.length cap _ h1, push_fold]
    simp [str]

theorem st_bytes (l : List UInt8) : Stable (fun v w => Bytes w v l) := fun _ _ _ hg h => bytes_grow h hg

set_option maxHeartbeats 400000 in
theorem rsealed_short (l : List UInt8) (ao : Option Addr) (cap : Nat) (w : World) (hs : l.length < 2) :
    Calls Try.prog 21 #[.slice ao l.length cap] w fun e w' => e = .returned (.bool false) ∧ Grow w w' := by
  go_enter Try.func21, Try.ntmps21
  go_wp2
  refine wp_region_told [ex (.slice ao l.length cap), ex (.int .i64 (l.length : Int)), ex (.bool false), ex (.bool false), ex (undef), ex (undef), ex (undef), ex (undef), ex (undef), ex (undef), ex (undef), ex (undef), ex (undef), ex (undef), ex (.bool false), ex (.bool false)] (by kernel_rfl) (by kernel_rfl) ⟨st_ex _, st_ex _, st_ex _, st_ex _, st_ex _, st_ex _, st_ex _, st_ex _, st_ex _, st_ex _, st_ex _, st_ex _, st_ex _, st_ex _, st_ex _, st_ex _, trivial⟩ ?_ ?_
  · refine ⟨?_, ?_, ?_, ?_, ?_, ?_, ?_, ?_, ?_, ?_, ?_, ?_, ?_, ?_, ?_, ?_, trivial⟩
    · refine need_plain rfl (fun a w' hg hin => ?_)
      have e : a.eval (.tmp 0) = .slice ao l.length cap := ins_ext hin 0 (by kernel_rfl)
      exact upon_move rfl e
    · refine need_plain rfl (fun a w' hg hin => ?_)
      have e3 : a.eval (.tmp 3) = .slice ao l.length cap := ins_on hin 0 (by kernel_rfl)
      refine upon_val ?_ rfl
      clear hin hg
      have ek : ∀ x, a.eval (.const x) = x := fun _ => rfl
      have ef : ∀ f, a.eval (.func f) = .func (.func f) #[] #[] := fun _ => rfl
      generalize a.eval = ev at *
      go_simp
      all_goals first | done | omega | (intro _; omega) | go_arith
    · refine need_plain rfl (fun a w' hg hin => ?_)
      have e4 : a.eval (.tmp 4) = .int .i64 (l.length : Int) := ins_on hin 1 (by kernel_rfl)
      refine upon_val ?_ rfl
      clear hin hg
      have ek : ∀ x, a.eval (.const x) = x := fun _ => rfl
      have ef : ∀ f, a.eval (.func f) = .func (.func f) #[] #[] := fun _ => rfl
      generalize a.eval = ev at *
      go_simp
      all_goals first | done | omega | (intro _; omega) | go_arith
    · refine need_plain rfl (fun a w' hg hin => ?_)
      have e : a.eval (.tmp 5) = .bool false := ins_on hin 2 (by kernel_rfl)
      exact upon_move rfl e
    · refine need_no 3 true false rfl (by decide) (fun a w' hin => ins_on hin 3 (by kernel_rfl)) (fun _ => rfl)
    · refine need_no 3 true false rfl (by decide) (fun a w' hin => ins_on hin 3 (by kernel_rfl)) (fun _ => rfl)
    · refine need_no 3 true false rfl (by decide) (fun a w' hin => ins_on hin 3 (by kernel_rfl)) (fun _ => rfl)
    · refine need_no 3 true false rfl (by decide) (fun a w' hin => ins_on hin 3 (by kernel_rfl)) (fun _ => rfl)
    · refine need_no 3 true false rfl (by decide) (fun a w' hin => ins_on hin 3 (by kernel_rfl)) (fun _ => rfl)
    · refine need_no 3 true false rfl (by decide) (fun a w' hin => ins_on hin 3 (by kernel_rfl)) (fun _ => rfl)
    · refine need_no 3 true false rfl (by decide) (fun a w' hin => ins_on hin 3 (by kernel_rfl)) (fun _ => rfl)
    · refine need_no 3 true false rfl (by decide) (fun a w' hin => ins_on hin 3 (by kernel_rfl)) (fun _ => rfl)
    · refine need_no 3 true false rfl (by decide) (fun a w' hin => ins_on hin 3 (by kernel_rfl)) (fun _ => rfl)
    · refine need_no 3 true false rfl (by decide) (fun a w' hin => ins_on hin 3 (by kernel_rfl)) (fun _ => rfl)
    · refine need_plain rfl (fun a w' hg hin => ?_)
      have ec : a.eval (.tmp 6) = .bool false := ins_on hin 3 (by kernel_rfl)
      exact upon_pick rfl ec rfl
    · refine need_plain rfl (fun a w' hg hin => ?_)
      have e : a.eval (.tmp 17) = .bool false := ins_on hin 14 (by kernel_rfl)
      exact upon_assign rfl e
  · intro vs w' hg ht
    obtain ⟨q3, q4, q5, q6, q7, q8, q9, q10, q11, q12, q13, q14, q15, q16, q17, q2, -⟩ := ht
    have r3 : vs 0 = .slice ao l.length cap := q3
    have r4 : vs 1 = .int .i64 (l.length : Int) := q4
    have r5 : vs 2 = .bool false := q5
    have r6 : vs 3 = .bool false := q6
    have r7 : vs 4 = undef := q7
    have r8 : vs 5 = undef := q8
    have r9 : vs 6 = undef := q9
    have r10 : vs 7 = undef := q10
    have r11 : vs 8 = undef := q11
    have r12 : vs 9 = undef := q12
    have r13 : vs 10 = undef := q13
    have r14 : vs 11 = undef := q14
    have r15 : vs 12 = undef := q15
    have r16 : vs 13 = undef := q16
    have r17 : vs 14 = .bool false := q17
    have r2 : vs 15 = .bool false := q2
    clear q3 q4 q5 q6 q7 q8 q9 q10 q11 q12 q13 q14 q15 q16 q17 q2
    simp only [putAll, Act.put, List.setIfInBounds_toArray, List.set_cons_zero, List.set_cons_succ, r3, r4, r5, r6, r7, r8, r9, r10, r11, r12, r13, r14, r15, r16, r17, r2]
    clear r3 r4 r5 r6 r7 r8 r9 r10 r11 r12 r13 r14 r15 r16 r17 r2
    go_wp2
    go_ret
    exact ⟨rfl, hg⟩

set_option maxHeartbeats 400000 in
theorem rsealed_long (l m : List UInt8) (b off cap n : Nat) (w : World) (hm : n ≤ 140737488355326) (hcap : n + 2 ≤ cap) (hl : l.length = n)
    (hb : Bytes w (.slice (some ⟨b, off, none⟩) n cap) l) (hbm : Bytes w (.slice (some ⟨b, off, none⟩) (n + 2) cap) m) :
    Calls Try.prog 21 #[.slice (some ⟨b, off, none⟩) (n + 2) cap] w fun e w' => e = .returned (.bool (sealed l == m)) ∧ Grow w w' := by
  have HL : Hid (l.length = n) := hl
  clear hl
  go_enter Try.func21, Try.ntmps21
  go_wp2
  refine wp_region_told [ex (.slice (some ⟨b, off, none⟩) (n + 2) cap), ex (.int .i64 ((n : Int) + 2)), ex (.bool true), ex (.bool true), ex (.slice (some ⟨b, off, none⟩) (n + 2) cap), ex (.slice (some ⟨b, off, none⟩) (n + 2) cap), ex (.int .i64 ((n : Int) + 2)), ex (.int .i64 (n : Int)), ex (.slice (some ⟨b, off, none⟩) n cap), (fun v w => Bytes w v (sealed l)), ex (str (sealed l)), ex (.slice (some ⟨b, off, none⟩) (n + 2) cap), ex (str m), ex (.bool (sealed l == m)), ex (.bool (sealed l == m)), ex (.bool (sealed l == m))] (by kernel_rfl) (by kernel_rfl) ⟨st_ex _, st_ex _, st_ex _, st_ex _, st_ex _, st_ex _, st_ex _, st_ex _, st_ex _, st_bytes _, st_ex _, st_ex _, st_ex _, st_ex _, st_ex _, st_ex _, trivial⟩ ?_ ?_
  · refine ⟨?_, ?_, ?_, ?_, ?_, ?_, ?_, ?_, ?_, ?_, ?_, ?_, ?_, ?_, ?_, ?_, trivial⟩
    · refine need_plain rfl (fun a w' hg hin => ?_)
      have e : a.eval (.tmp 0) = .slice (some ⟨b, off, none⟩) (n + 2) cap := ins_ext hin 0 (by kernel_rfl)
      exact upon_move rfl e
    · refine need_plain rfl (fun a w' hg hin => ?_)
      have e3 : a.eval (.tmp 3) = .slice (some ⟨b, off, none⟩) (n + 2) cap := ins_on hin 0 (by kernel_rfl)
      refine upon_val ?_ rfl
      clear hin hg
      have ek : ∀ x, a.eval (.const x) = x := fun _ => rfl
      have ef : ∀ f, a.eval (.func f) = .func (.func f) #[] #[] := fun _ => rfl
      generalize a.eval = ev at *
      go_simp
      all_goals first | done | omega | (intro _; omega) | go_arith
    · refine need_plain rfl (fun a w' hg hin => ?_)
      have e4 : a.eval (.tmp 4) = .int .i64 ((n : Int) + 2) := ins_on hin 1 (by kernel_rfl)
      refine upon_val ?_ rfl
      clear hin hg
      have ek : ∀ x, a.eval (.const x) = x := fun _ => rfl
      have ef : ∀ f, a.eval (.func f) = .func (.func f) #[] #[] := fun _ => rfl
      generalize a.eval = ev at *
      go_simp
      all_goals first | done | omega | (intro _; omega) | go_arith
    · refine need_plain rfl (fun a w' hg hin => ?_)
      have e : a.eval (.tmp 5) = .bool true := ins_on hin 2 (by kernel_rfl)
      exact upon_move rfl e
    · refine need_yes 3 true rfl (fun a w' hin => ins_on hin 3 (by kernel_rfl)) (fun a w' hg hin => ?_)
      have e : a.eval (.tmp 0) = .slice (some ⟨b, off, none⟩) (n + 2) cap := ins_ext hin 0 (by kernel_rfl)
      exact upon_move rfl e
    · refine need_yes 3 true rfl (fun a w' hin => ins_on hin 3 (by kernel_rfl)) (fun a w' hg hin => ?_)
      have e : a.eval (.tmp 0) = .slice (some ⟨b, off, none⟩) (n + 2) cap := ins_ext hin 0 (by kernel_rfl)
      exact upon_move rfl e
    · refine need_yes 3 true rfl (fun a w' hin => ins_on hin 3 (by kernel_rfl)) (fun a w' hg hin => ?_)
      have e8 : a.eval (.tmp 8) = .slice (some ⟨b, off, none⟩) (n + 2) cap := ins_on hin 5 (by kernel_rfl)
      refine upon_val ?_ rfl
      clear hin hg
      have ek : ∀ x, a.eval (.const x) = x := fun _ => rfl
      have ef : ∀ f, a.eval (.func f) = .func (.func f) #[] #[] := fun _ => rfl
      generalize a.eval = ev at *
      go_simp
      all_goals first | done | omega | (intro _; omega) | go_arith
    · refine need_yes 3 true rfl (fun a w' hin => ins_on hin 3 (by kernel_rfl)) (fun a w' hg hin => ?_)
      have e9 : a.eval (.tmp 9) = .int .i64 ((n : Int) + 2) := ins_on hin 6 (by kernel_rfl)
      refine upon_val ?_ rfl
      clear hin hg
      have ek : ∀ x, a.eval (.const x) = x := fun _ => rfl
      have ef : ∀ f, a.eval (.func f) = .func (.func f) #[] #[] := fun _ => rfl
      generalize a.eval = ev at *
      go_simp
      all_goals first | done | omega | (intro _; omega) | go_arith
    · refine need_yes 3 true rfl (fun a w' hin => ins_on hin 3 (by kernel_rfl)) (fun a w' hg hin => ?_)
      have e7 : a.eval (.tmp 7) = .slice (some ⟨b, off, none⟩) (n + 2) cap := ins_on hin 4 (by kernel_rfl)
      have e10 : a.eval (.tmp 10) = .int .i64 (n : Int) := ins_on hin 7 (by kernel_rfl)
      refine upon_val ?_ rfl
      clear hin hg
      have ek : ∀ x, a.eval (.const x) = x := fun _ => rfl
      have ef : ∀ f, a.eval (.func f) = .func (.func f) #[] #[] := fun _ => rfl
      generalize a.eval = ev at *
      go_simp
      all_goals first | done | omega | (intro _; omega) | go_arith
    · refine need_yes 3 true rfl (fun a w' hin => ins_on hin 3 (by kernel_rfl)) (fun a w' hg hin => ?_)
      have e11 : a.eval (.tmp 11) = .slice (some ⟨b, off, none⟩) n cap := ins_on hin 8 (by kernel_rfl)
      refine upon_call (f := 19) (args := #[.slice (some ⟨b, off, none⟩) n cap]) ?_ ((rseal_any l _ w' (by have := HL.out; omega) (bytes_grow hb hg)).mono ?_)
      · clear hin hg
        have ek : ∀ x, a.eval (.const x) = x := fun _ => rfl
        have ef : ∀ f, a.eval (.func f) = .func (.func f) #[] #[] := fun _ => rfl
        generalize a.eval = ev at *
        go_simp
        all_goals first | done | omega | (intro _; omega) | go_arith
      · rintro e w2 ⟨v', rfl, ho, hgr⟩
        exact ⟨_, rfl, hgr, bytes_own ho⟩
    · refine need_yes 3 true rfl (fun a w' hin => ins_on hin 3 (by kernel_rfl)) (fun a w' hg hin => ?_)
      have e12 : (fun v w => Bytes w v (sealed l)) (a.eval (.tmp 12)) w' := ins_on hin 9 (by kernel_rfl)
      refine upon_val ?_ rfl
      have hrun := run_str w' _ _ e12
      clear hin hg e12
      have ek : ∀ x, a.eval (.const x) = x := fun _ => rfl
      have ef : ∀ f, a.eval (.func f) = .func (.func f) #[] #[] := fun _ => rfl
      generalize a.eval = ev at *
      go_simp
      all_goals first | done | omega | (intro _; omega) | go_arith
    · refine need_yes 3 true rfl (fun a w' hin => ins_on hin 3 (by kernel_rfl)) (fun a w' hg hin => ?_)
      have e : a.eval (.tmp 0) = .slice (some ⟨b, off, none⟩) (n + 2) cap := ins_ext hin 0 (by kernel_rfl)
      exact upon_move rfl e
    · refine need_yes 3 true rfl (fun a w' hin => ins_on hin 3 (by kernel_rfl)) (fun a w' hg hin => ?_)
      have e14 : a.eval (.tmp 14) = .slice (some ⟨b, off, none⟩) (n + 2) cap := ins_on hin 11 (by kernel_rfl)
      refine upon_val ?_ rfl
      have hrun := run_str w' _ _ (bytes_grow hbm hg)
      clear hin hg
      have ek : ∀ x, a.eval (.const x) = x := fun _ => rfl
      have ef : ∀ f, a.eval (.func f) = .func (.func f) #[] #[] := fun _ => rfl
      generalize a.eval = ev at *
      go_simp
      all_goals first | done | omega | (intro _; omega) | go_arith
    · refine need_yes 3 true rfl (fun a w' hin => ins_on hin 3 (by kernel_rfl)) (fun a w' hg hin => ?_)
      have e13 : a.eval (.tmp 13) = str (sealed l) := ins_on hin 10 (by kernel_rfl)
      have e15 : a.eval (.tmp 15) = str m := ins_on hin 12 (by kernel_rfl)
      refine upon_val ?_ rfl
      unfold str at e13 e15
      clear hin hg
      have ek : ∀ x, a.eval (.const x) = x := fun _ => rfl
      have ef : ∀ f, a.eval (.func f) = .func (.func f) #[] #[] := fun _ => rfl
      generalize a.eval = ev at *
      go_simp
      all_goals first | done | omega | (intro _; omega) | go_arith
    · refine need_plain rfl (fun a w' hg hin => ?_)
      have ec : a.eval (.tmp 6) = .bool true := ins_on hin 3 (by kernel_rfl)
      have e : a.eval (.tmp 16) = .bool (sealed l == m) := ins_on hin 13 (by kernel_rfl)
      exact upon_pick rfl ec e
    · refine need_plain rfl (fun a w' hg hin => ?_)
      have e : a.eval (.tmp 17) = .bool (sealed l == m) := ins_on hin 14 (by kernel_rfl)
      exact upon_assign rfl e
  · intro vs w' hg ht
    obtain ⟨q3, q4, q5, q6, q7, q8, q9, q10, q11, q12, q13, q14, q15, q16, q17, q2, -⟩ := ht
    have r3 : vs 0 = .slice (some ⟨b, off, none⟩) (n + 2) cap := q3
    have r4 : vs 1 = .int .i64 ((n : Int) + 2) := q4
    have r5 : vs 2 = .bool true := q5
    have r6 : vs 3 = .bool true := q6
    have r7 : vs 4 = .slice (some ⟨b, off, none⟩) (n + 2) cap := q7
    have r8 : vs 5 = .slice (some ⟨b, off, none⟩) (n + 2) cap := q8
    have r9 : vs 6 = .int .i64 ((n : Int) + 2) := q9
    have r10 : vs 7 = .int .i64 (n : Int) := q10
    have r11 : vs 8 = .slice (some ⟨b, off, none⟩) n cap := q11
    have r13 : vs 10 = str (sealed l) := q13
    have r14 : vs 11 = .slice (some ⟨b, off, none⟩) (n + 2) cap := q14
    have r15 : vs 12 = str m := q15
    have r16 : vs 13 = .bool (sealed l == m) := q16
    have r17 : vs 14 = .bool (sealed l == m) := q17
    have r2 : vs 15 = .bool (sealed l == m) := q2
    clear q3 q4 q5 q6 q7 q8 q9 q10 q11 q13 q14 q15 q16 q17 q2
    simp only [putAll, Act.put, List.setIfInBounds_toArray, List.set_cons_zero, List.set_cons_succ, r3, r4, r5, r6, r7, r8, r9, r10, r11, r13, r14, r15, r16, r17, r2]
    clear r3 r4 r5 r6 r7 r8 r9 r10 r11 r13 r14 r15 r16 r17 r2
    go_wp2
    go_ret
    exact ⟨rfl, hg⟩

theorem sealedB_eq (l : List UInt8) (h : 2 ≤ l.length) : (sealed (l.take (l.length - 2)) == l) = sealedB l := by
  have hs := sumOf_bd (l.take (l.length - 2))
  have hl : l = l.take (l.length - 2) ++ [l[l.length - 2], l[l.length - 1]] := by
    conv => lhs; rw [← List.take_append_drop (l.length - 2) l]
    congr 1
    rw [List.drop_eq_getElem_cons (by omega), List.drop_eq_getElem_cons (by omega), List.drop_eq_nil_of_le (by omega)]
    simp [show l.length - 2 + 1 = l.length - 1 from by omega]
  have e1 : l.getD (l.length - 2) 0 = l[l.length - 2] := by rw [List.getD_eq_getElem?_getD, List.getElem?_eq_getElem (by omega)]; rfl
  have e2 : l.getD (l.length - 1) 0 = l[l.length - 1] := by rw [List.getD_eq_getElem?_getD, List.getElem?_eq_getElem (by omega)]; rfl
  unfold sealedB
  rw [decide_eq_true h, Bool.true_and, e1, e2, Bool.eq_iff_iff, beq_iff_eq, beq_iff_eq, two_eq _ _ _ hs.1 (by omega)]
  unfold sealed
  constructor
  · intro h3
    have h4 : l.take (l.length - 2) ++ [hi (sumOf (l.take (l.length - 2))), lo (sumOf (l.take (l.length - 2)))] = l.take (l.length - 2) ++ [l[l.length - 2], l[l.length - 1]] := h3.trans hl
    have h5 := List.append_cancel_left h4
    simp only [List.cons.injEq, and_true] at h5
    exact h5
  · rintro ⟨h3, h4⟩
    rw [h3, h4]
    exact hl.symm

theorem rsealed_any (l : List UInt8) (v : Value) (w : World) (hm : l.length ≤ 140737488355328) (h : Bytes w v l) :
    Calls Try.prog 21 #[v] w fun e w' => e = .returned (.bool (sealedB l)) ∧ Grow w w' := by
  by_cases hs : l.length < 2
  · have e : sealedB l = false := by simp [sealedB]; omega
    rw [e]
    rcases h with ⟨ao, cap, rfl, rfl, h0⟩ | ⟨b, off, cap, rfl, hcap, hc⟩
    · exact rsealed_short [] ao cap w hs
    · exact rsealed_short l _ cap w hs
  · have h2 := h
    rcases h with ⟨ao, cap, rfl, rfl, h0⟩ | ⟨b, off, cap, rfl, hcap, hc⟩
    · simp at hs
    · have hl : l.length = (l.length - 2) + 2 := by omega
      rw [← sealedB_eq l (by omega)]
      have e3 : (Value.slice (some ⟨b, off, none⟩) l.length cap) = .slice (some ⟨b, off, none⟩) ((l.length - 2) + 2) cap := by rw [← hl]
      rw [e3] at h2 ⊢
      exact rsealed_long (l.take (l.length - 2)) l b off cap (l.length - 2) w (by omega) (by omega) (by simp) (slice_bytes rfl (by omega) hcap hc) h2
end Go.Proofs.Ytgpfflfdigekeaa
