/-
  What the program's greatest, Next and Get tell of records.
  Condition: they lie in memory, right ones, at most forty.
-/
import Derived.Test.YtgaecpdokgklpabMdlC
import Derived.Test.YtgaecpdokgklpabMdlW
import Derived.Test.YtgaecpdokgklpabOwn
namespace Go.Proofs.Ytgaecpdokgklpab
set_option maxRecDepth 100000
open Go.RowKit
open Go.Proofs.Ytgaecpdokgklpab.Plain Go.Proofs.Ytgaecpdokgklpab.Reg

/-! ### The greatest version, on lists -/

def grStep (P : Rec → Bool) (g : Option (Nat × Rec)) (k : Nat) (x : Rec) : Option (Nat × Rec) :=
 if P x = true then (match g with | none => some (k, x) | some p => if p.2.ver < x.ver then some (k, x) else some p) else g
def gr (P : Rec → Bool) (l : List Rec) : Nat → Option (Nat × Rec)
 | 0 => none
 | k + 1 => match l[k]? with | some x => grStep P (gr P l k) k x | none => gr P l k
def grAt : Option (Nat × Rec) → Int
 | none => -1
 | some p => (p.1 : Int)
theorem gr_next (P : Rec → Bool) {l : List Rec} {k : Nat} (h : k < l.length) : gr P l (k + 1) = grStep P (gr P l k) k l[k] := by
 show (match l[k]? with | some x => grStep P (gr P l k) k x | none => gr P l k) = _
 rw [List.getElem?_eq_getElem h]
theorem gr_mem (P : Rec → Bool) (l : List Rec) : ∀ (k : Nat) (p : Nat × Rec), gr P l k = some p → p.1 < k ∧ l[p.1]? = some p.2 ∧ P p.2 = true
 | 0, p, h => by cases h
 | k + 1, p, h => by
  have ih := gr_mem P l k
  unfold gr at h
  cases hx : l[k]? with
  | none =>
   rw [hx] at h
   obtain ⟨h1, h2⟩ := ih p h
   exact ⟨by omega, h2⟩
  | some x =>
   rw [hx] at h
   simp only [grStep] at h
   by_cases hP : P x = true
   ·rw [if_pos hP] at h
    cases hg : gr P l k with
    | none =>
     rw [hg] at h
     simp only [Option.some.injEq] at h
     subst h
     exact ⟨by simp, hx, hP⟩
    | some q =>
     rw [hg] at h
     simp only at h
     by_cases hv : q.2.ver < x.ver
     ·rw [if_pos hv] at h
      simp only [Option.some.injEq] at h
      subst h
      exact ⟨by simp, hx, hP⟩
     ·rw [if_neg hv] at h
      simp only [Option.some.injEq] at h
      subst h
      obtain ⟨h1, h2⟩ := ih q hg
      exact ⟨by omega, h2⟩
   ·rw [if_neg hP] at h
    obtain ⟨h1, h2⟩ := ih p h
    exact ⟨by omega, h2⟩
theorem gr_nextV (l : List Rec) (hv : ∀ r ∈ l, 1 ≤ r.ver) : ∀ k, k ≤ l.length → nextV (l.take k) = (match gr (fun _ => true) l k with | none => 1 | some p => p.2.ver + 1)
 | 0, _ => by rw [List.take_zero]; rfl
 | k + 1, h => by
  have ih := gr_nextV l hv k (by omega)
  have hk : k < l.length := by omega
  have h1 := hv l[k] (List.getElem_mem hk)
  rw [nextV_snoc l k hk, ih, gr_next _ hk]
  unfold grStep
  rw [if_pos rfl]
  cases gr (fun _ => true) l k with
  | none => simp only; rw [if_pos h1]
  | some p =>
   simp only
   by_cases hlt : p.2.ver < l[k].ver
   ·rw [if_pos hlt, if_pos (by omega)]
   ·rw [if_neg hlt, if_neg (by omega)]
def gotOf : Option (Nat × Rec) → Got
 | none => ⟨0, 6, []⟩
 | some p => if p.2.kind = 3 then ⟨p.2.ver, 10, []⟩ else ⟨p.2.ver, 0, p.2.data⟩
theorem gotOf_n (p : Nat × Rec) : (gotOf (some p)).n = p.2.ver := by unfold gotOf; simp only; split <;> rfl
theorem gr_getK (key : Int) (l : List Rec) (hv : ∀ r ∈ l, 1 ≤ r.ver) : ∀ k, k ≤ l.length → getK (l.take k) key = gotOf (gr (fun r => r.key == key) l k)
 | 0, _ => by rw [List.take_zero]; rfl
 | k + 1, h => by
  have ih := gr_getK key l hv k (by omega)
  have hk : k < l.length := by omega
  have h1 := hv l[k] (List.getElem_mem hk)
  rw [getK_snoc l key k hk, ih, gr_next _ hk]
  unfold grStep getStep
  by_cases hy : l[k].key = key
  ·have hp : (fun r : Rec => r.key == key) l[k] = true := by simpa using hy
   rw [if_pos hp]
   cases hg : gr (fun r => r.key == key) l k with
   | none =>
    have h3 : ¬ (l[k].key ≠ key ∨ l[k].ver ≤ (gotOf none).n) := by
     rintro (h2 | h2)
     ·exact h2 hy
     ·have : l[k].ver ≤ 0 := h2
      omega
    rw [if_neg h3]
    rfl
   | some p =>
    simp only
    by_cases hlt : p.2.ver < l[k].ver
    ·have h3 : ¬ (l[k].key ≠ key ∨ l[k].ver ≤ (gotOf (some p)).n) := by
      rw [gotOf_n]
      rintro (h2 | h2)
      ·exact h2 hy
      ·omega
     rw [if_neg h3, if_pos hlt]
     rfl
    ·have h3 : l[k].key ≠ key ∨ l[k].ver ≤ (gotOf (some p)).n := .inr (by rw [gotOf_n]; omega)
     rw [if_pos h3, if_neg hlt]
  ·have hp : ¬ (fun r : Rec => r.key == key) l[k] = true := by simpa using hy
   rw [if_pos (.inl hy), if_neg hp]

/-! ### greatest -/

set_option maxHeartbeats 1000000 in
theorem great_any (K : Nat) (caps : Array Value) (P : Rec → Bool) (S : Nat → Prop) (l : List Rec) (v : Value) (w : World) (hK : ∀ (args : Array Value) (w : World), (callFunc K args).run Try.prog w = .ok (.enter K args) w) (hl : RecsS S w v l) (hn : l.length ≤ 1000000)
  (hc : ∀ (x : Rec) (a : Option Addr) (c : Nat) (w' : World), x ∈ l → Grow w w' → Calls Try.prog K (#[.agg #[.int .i64 x.kind, .int .i64 x.key, .int .i64 x.ver, .slice a x.data.length c]] ++ caps) w' fun e w2 => e = .returned (.bool (P x)) ∧ Grow w' w2) :
  Calls Try.prog 55 #[v, .func (.func K) #[] caps] w fun e w' => e = .returned (.int .i64 (grAt (gr P l l.length))) ∧ Grow w w' := by
 obtain ⟨ao, cp, rfl⟩ := hl.form
 obtain ⟨R, hR⟩ : ∃ R, R = grAt (gr P l l.length) := ⟨_, rfl⟩
 rw [← hR]
 have HR : Hid _ := hR
 clear hR
 go_enter Try.func55, Try.ntmps55
 go_wp2_with fail
 go_loopw [5, 10] (fun o i wr => ∃ (k : Nat) (A : Int), k ≤ l.length ∧ i = .int .i64 k ∧ o = .int .i64 A ∧ Hid (A = grAt (gr P l k)) ∧ Grow w wr) (fun _ i _ => l.length - (intOf i).toNat)
 case atStart => exact ⟨0, -1, Nat.zero_le _, rfl, rfl, (by show _ = _; rfl), Grow.refl _⟩
 case round =>
  obtain ⟨k, A, hk, rfl, rfl, HA, hg0⟩ := hrel
  by_cases hlt : k < l.length
  ·obtain ⟨b, off, a1, c1, hv1, q0, q1, q2, q3, hu⟩ := recs_at (hl.grow hg0) k hlt
   cases hv1
   have HM : Hid (l[k] ∈ l) := List.getElem_mem hlt
   have HG : Hid (gr P l (k + 1) = grStep P (gr P l k) k l[k]) := gr_next P hlt
   have HC : Hid (∀ p, gr P l k = some p → p.1 < k ∧ wr.cell? ⟨b, off + p.1 * 4 + 2, none⟩ = some (.int .i64 p.2.ver)) := by
    intro p hp
    obtain ⟨m1, m2, -⟩ := gr_mem P l k p hp
    obtain ⟨b', off', a', c', e1, -, -, e4, -, -⟩ := recs_at (hl.grow hg0) p.1 (by omega)
    cases e1
    obtain ⟨hm, e5⟩ := List.getElem?_eq_some_iff.1 m2
    rw [e5] at e4
    exact ⟨m1, e4⟩
   clear hu
   generalize l[k] = x at *
   generalize gr P l k = G at *
   have g1 := grow_alloc wr (.cells #[.int .i64 x.kind, .int .i64 x.key, .int .i64 x.ver, .slice a1 x.data.length c1] 33)
   have hX1 := heap_new wr #[.int .i64 x.kind, .int .i64 x.key, .int .i64 x.ver, .slice a1 x.data.length c1] 33
   have gw1 := hg0.trans g1
   obtain ⟨gx, hgx⟩ : ∃ gx, gx = wr.heap.size := ⟨_, rfl⟩
   have hlk : k < l.length := hlt
   cases hP : P x with
   | false =>
    have HF : Hid (P x = false) := hP
    have HG2 : Hid (A = grAt (gr P l (k + 1))) := by show _ = _; rw [HA.out, HG.out]; unfold grStep; rw [hP, if_neg (by simp)]
    clear HG HA HC hP
    go_wp2_with fail
    generalize World.alloc wr _ = W at *
    rw [← hgx] at *
    clear hgx g1 hg0 q0 q1 q2 q3
    refine wp_region_told [ex (.func (.func K) #[] caps), ex (.agg #[.int .i64 x.kind, .int .i64 x.key, .int .i64 x.ver, .slice a1 x.data.length c1]), ex (.bool false), ex (.bool false), ex (undef), ex (undef), ex (undef), ex (undef), ex (undef), ex (undef), ex (undef), ex (undef), ex (undef), ex (undef), ex (undef), ex (undef), ex (.bool false)] (by kernel_rfl) (by kernel_rfl) ⟨st_ex _, st_ex _, st_ex _, st_ex _, st_ex _, st_ex _, st_ex _, st_ex _, st_ex _, st_ex _, st_ex _, st_ex _, st_ex _, st_ex _, st_ex _, st_ex _, st_ex _, trivial⟩ ?_ ?_
    ·refine ⟨?_, ?_, ?_, ?_, ?_, ?_, ?_, ?_, ?_, ?_, ?_, ?_, ?_, ?_, ?_, ?_, ?_, trivial⟩
     ·refine need_plain rfl (fun a w' hg hin => ?_)
      have e : a.eval (.tmp 1) = .func (.func K) #[] caps := ins_ext hin 1 (by kernel_rfl)
      exact upon_move rfl e
     ·refine need_plain rfl (fun a w' hg hin => ?_)
      have e7 : a.eval (.tmp 7) = .pointer (some ⟨gx, 0, none⟩) := ins_ext hin 7 (by kernel_rfl)
      have hh := (hg.block _ (heap_lt hX1)).trans hX1
      obtain ⟨z0, z1, z2, z3⟩ := box4 hh rfl rfl rfl rfl
      refine upon_val ?_ rfl
      clear hin hg hh
      obtain ⟨ek, ef⟩ := evs a
      generalize a.eval = ev at *
      go_simp
      all_goals first | omega | (intro _; omega) | go_arith
     ·refine need_plain rfl (fun a w' hg hin => ?_)
      have e15 : a.eval (.tmp 15) = _ := ins_on hin 0 (by kernel_rfl)
      have e16 : a.eval (.tmp 16) = _ := ins_on hin 1 (by kernel_rfl)
      refine upon_call (f := K) ?_ ((hc x a1 c1 w' HM.out (gw1.trans hg)).mono ?_)
      ·clear hin hg
       obtain ⟨ek, ef⟩ := evs a
       generalize a.eval = ev at *
       go_simp
       all_goals first | omega | (intro _; omega) | go_arith
      ·rw [HF.out]
       rintro e w2 ⟨rfl, g2⟩
       exact ⟨_, rfl, g2, rfl⟩
     ·refine need_plain rfl (fun a w' hg hin => ?_)
      have e : a.eval (.tmp 17) = _ := ins_on hin 2 (by kernel_rfl)
      exact upon_move rfl e
     ·refine need_no 3 true false rfl (by decide) (fun a w' hin => ins_on hin 3 (by kernel_rfl)) (fun _ => rfl)
     ·refine need_no 3 true false rfl (by decide) (fun a w' hin => ins_on hin 3 (by kernel_rfl)) (fun _ => rfl)
     ·refine need_no 3 true false rfl (by decide) (fun a w' hin => ins_on hin 3 (by kernel_rfl)) (fun _ => rfl)
     ·refine need_undef 6 false rfl (fun a w' hin => ins_on hin 6 (by kernel_rfl)) (fun _ => rfl)
     ·refine need_undef 6 false rfl (fun a w' hin => ins_on hin 6 (by kernel_rfl)) (fun _ => rfl)
     ·refine need_undef 6 false rfl (fun a w' hin => ins_on hin 6 (by kernel_rfl)) (fun _ => rfl)
     ·refine need_undef 6 false rfl (fun a w' hin => ins_on hin 6 (by kernel_rfl)) (fun _ => rfl)
     ·refine need_undef 6 false rfl (fun a w' hin => ins_on hin 6 (by kernel_rfl)) (fun _ => rfl)
     ·refine need_undef 6 false rfl (fun a w' hin => ins_on hin 6 (by kernel_rfl)) (fun _ => rfl)
     ·refine need_undef 6 false rfl (fun a w' hin => ins_on hin 6 (by kernel_rfl)) (fun _ => rfl)
     ·refine need_undef 6 false rfl (fun a w' hin => ins_on hin 6 (by kernel_rfl)) (fun _ => rfl)
     ·refine need_no 3 true false rfl (by decide) (fun a w' hin => ins_on hin 3 (by kernel_rfl)) (fun _ => rfl)
     ·refine need_plain rfl (fun a w' hg hin => ?_)
      have ec : a.eval (.tmp 18) = _ := ins_on hin 3 (by kernel_rfl)
      exact upon_pick rfl ec rfl
    ·intro vs w' hg ht
     obtain ⟨q15, q16, q17, q18, q19, q20, q21, q22, q23, q24, q25, q26, q27, q28, q29, q30, q31, -⟩ := ht
     have r15 : vs 0 = .func (.func K) #[] caps := q15
     have r16 : vs 1 = .agg #[.int .i64 x.kind, .int .i64 x.key, .int .i64 x.ver, .slice a1 x.data.length c1] := q16
     have r17 : vs 2 = .bool false := q17
     have r18 : vs 3 = .bool false := q18
     have r19 : vs 4 = undef := q19
     have r20 : vs 5 = undef := q20
     have r21 : vs 6 = undef := q21
     have r22 : vs 7 = undef := q22
     have r23 : vs 8 = undef := q23
     have r24 : vs 9 = undef := q24
     have r25 : vs 10 = undef := q25
     have r26 : vs 11 = undef := q26
     have r27 : vs 12 = undef := q27
     have r28 : vs 13 = undef := q28
     have r29 : vs 14 = undef := q29
     have r30 : vs 15 = undef := q30
     have r31 : vs 16 = .bool false := q31
     clear q15 q16 q17 q18 q19 q20 q21 q22 q23 q24 q25 q26 q27 q28 q29 q30 q31
     simp only [putAll, Act.put, List.setIfInBounds_toArray, List.set_cons_zero, List.set_cons_succ, r15, r16, r17, r18, r19, r20, r21, r22, r23, r24, r25, r26, r27, r28, r29, r30, r31]
     clear r15 r16 r17 r18 r19 r20 r21 r22 r23 r24 r25 r26 r27 r28 r29 r30 r31
     have gE := gw1.trans hg
     clear hg gw1 hX1
     go_wp2_with fail
     go_roundw
     case rel => exact ⟨k + 1, A, by omega, by go_num, rfl, HG2, gE⟩
     case measure => simp [intOf]; omega
   | true =>
    have HF : Hid (P x = true) := hP
    cases G with
    | none =>
     have HG2 : Hid ((k : Int) = grAt (gr P l (k + 1))) := by show _ = _; rw [HG.out]; unfold grStep; rw [hP, if_pos rfl]; rfl
     obtain rfl : A = -1 := HA.out
     clear HG HA HC hP
     go_wp2_with fail
     generalize World.alloc wr _ = W at *
     rw [← hgx] at *
     clear hgx g1 hg0 q0 q1 q2 q3
     refine wp_region_told [ex (.func (.func K) #[] caps), ex (.agg #[.int .i64 x.kind, .int .i64 x.key, .int .i64 x.ver, .slice a1 x.data.length c1]), ex (.bool true), ex (.bool true), ex (.int .i64 (-1)), ex (.bool true), ex (.bool true), ex (undef), ex (undef), ex (undef), ex (undef), ex (undef), ex (undef), ex (undef), ex (undef), ex (.bool true), ex (.bool true)] (by kernel_rfl) (by kernel_rfl) ⟨st_ex _, st_ex _, st_ex _, st_ex _, st_ex _, st_ex _, st_ex _, st_ex _, st_ex _, st_ex _, st_ex _, st_ex _, st_ex _, st_ex _, st_ex _, st_ex _, st_ex _, trivial⟩ ?_ ?_
     ·refine ⟨?_, ?_, ?_, ?_, ?_, ?_, ?_, ?_, ?_, ?_, ?_, ?_, ?_, ?_, ?_, ?_, ?_, trivial⟩
      ·refine need_plain rfl (fun a w' hg hin => ?_)
       have e : a.eval (.tmp 1) = .func (.func K) #[] caps := ins_ext hin 1 (by kernel_rfl)
       exact upon_move rfl e
      ·refine need_plain rfl (fun a w' hg hin => ?_)
       have e7 : a.eval (.tmp 7) = .pointer (some ⟨gx, 0, none⟩) := ins_ext hin 7 (by kernel_rfl)
       have hh := (hg.block _ (heap_lt hX1)).trans hX1
       obtain ⟨z0, z1, z2, z3⟩ := box4 hh rfl rfl rfl rfl
       refine upon_val ?_ rfl
       clear hin hg hh
       obtain ⟨ek, ef⟩ := evs a
       generalize a.eval = ev at *
       go_simp
       all_goals first | omega | (intro _; omega) | go_arith
      ·refine need_plain rfl (fun a w' hg hin => ?_)
       have e15 : a.eval (.tmp 15) = _ := ins_on hin 0 (by kernel_rfl)
       have e16 : a.eval (.tmp 16) = _ := ins_on hin 1 (by kernel_rfl)
       refine upon_call (f := K) ?_ ((hc x a1 c1 w' HM.out (gw1.trans hg)).mono ?_)
       ·clear hin hg
        obtain ⟨ek, ef⟩ := evs a
        generalize a.eval = ev at *
        go_simp
        all_goals first | omega | (intro _; omega) | go_arith
       ·rw [HF.out]
        rintro e w2 ⟨rfl, g2⟩
        exact ⟨_, rfl, g2, rfl⟩
      ·refine need_plain rfl (fun a w' hg hin => ?_)
       have e : a.eval (.tmp 17) = _ := ins_on hin 2 (by kernel_rfl)
       exact upon_move rfl e
      ·refine need_yes 3 true rfl (fun a w' hin => ins_on hin 3 (by kernel_rfl)) (fun a w' hg hin => ?_)
       have e : a.eval (.tmp 5) = .int .i64 (-1) := ins_ext hin 5 (by kernel_rfl)
       exact upon_move rfl e
      ·refine need_yes 3 true rfl (fun a w' hin => ins_on hin 3 (by kernel_rfl)) (fun a w' hg hin => ?_)
       have e19 : a.eval (.tmp 19) = _ := ins_on hin 4 (by kernel_rfl)
       refine upon_val ?_ rfl
       clear hin hg
       obtain ⟨ek, ef⟩ := evs a
       generalize a.eval = ev at *
       go_simp
       all_goals first | omega | (intro _; omega) | go_arith
      ·refine need_yes 3 true rfl (fun a w' hin => ins_on hin 3 (by kernel_rfl)) (fun a w' hg hin => ?_)
       have e : a.eval (.tmp 20) = _ := ins_on hin 5 (by kernel_rfl)
       exact upon_move rfl e
      ·refine need_no 6 false true rfl (by decide) (fun a w' hin => ins_on hin 6 (by kernel_rfl)) (fun _ => rfl)
      ·refine need_no 6 false true rfl (by decide) (fun a w' hin => ins_on hin 6 (by kernel_rfl)) (fun _ => rfl)
      ·refine need_no 6 false true rfl (by decide) (fun a w' hin => ins_on hin 6 (by kernel_rfl)) (fun _ => rfl)
      ·refine need_no 6 false true rfl (by decide) (fun a w' hin => ins_on hin 6 (by kernel_rfl)) (fun _ => rfl)
      ·refine need_no 6 false true rfl (by decide) (fun a w' hin => ins_on hin 6 (by kernel_rfl)) (fun _ => rfl)
      ·refine need_no 6 false true rfl (by decide) (fun a w' hin => ins_on hin 6 (by kernel_rfl)) (fun _ => rfl)
      ·refine need_no 6 false true rfl (by decide) (fun a w' hin => ins_on hin 6 (by kernel_rfl)) (fun _ => rfl)
      ·refine need_no 6 false true rfl (by decide) (fun a w' hin => ins_on hin 6 (by kernel_rfl)) (fun _ => rfl)
      ·refine need_yes 3 true rfl (fun a w' hin => ins_on hin 3 (by kernel_rfl)) (fun a w' hg hin => ?_)
       have ec : a.eval (.tmp 21) = _ := ins_on hin 6 (by kernel_rfl)
       exact upon_pick rfl ec rfl
      ·refine need_plain rfl (fun a w' hg hin => ?_)
       have ec : a.eval (.tmp 18) = _ := ins_on hin 3 (by kernel_rfl)
       have e : a.eval (.tmp 30) = _ := ins_on hin 15 (by kernel_rfl)
       exact upon_pick rfl ec e
     ·intro vs w' hg ht
      obtain ⟨q15, q16, q17, q18, q19, q20, q21, q22, q23, q24, q25, q26, q27, q28, q29, q30, q31, -⟩ := ht
      have r15 : vs 0 = .func (.func K) #[] caps := q15
      have r16 : vs 1 = .agg #[.int .i64 x.kind, .int .i64 x.key, .int .i64 x.ver, .slice a1 x.data.length c1] := q16
      have r17 : vs 2 = .bool true := q17
      have r18 : vs 3 = .bool true := q18
      have r19 : vs 4 = .int .i64 (-1) := q19
      have r20 : vs 5 = .bool true := q20
      have r21 : vs 6 = .bool true := q21
      have r22 : vs 7 = undef := q22
      have r23 : vs 8 = undef := q23
      have r24 : vs 9 = undef := q24
      have r25 : vs 10 = undef := q25
      have r26 : vs 11 = undef := q26
      have r27 : vs 12 = undef := q27
      have r28 : vs 13 = undef := q28
      have r29 : vs 14 = undef := q29
      have r30 : vs 15 = .bool true := q30
      have r31 : vs 16 = .bool true := q31
      clear q15 q16 q17 q18 q19 q20 q21 q22 q23 q24 q25 q26 q27 q28 q29 q30 q31
      simp only [putAll, Act.put, List.setIfInBounds_toArray, List.set_cons_zero, List.set_cons_succ, r15, r16, r17, r18, r19, r20, r21, r22, r23, r24, r25, r26, r27, r28, r29, r30, r31]
      clear r15 r16 r17 r18 r19 r20 r21 r22 r23 r24 r25 r26 r27 r28 r29 r30 r31
      have gE := gw1.trans hg
      clear hg gw1 hX1
      go_wp2_with fail
      go_roundw
      case rel => exact ⟨k + 1, k, by omega, by go_num, rfl, HG2, gE⟩
      case measure => simp [intOf]; omega
    | some p =>
     obtain ⟨i, y⟩ := p
     obtain ⟨m1, m2⟩ := HC.out (i, y) rfl
     have HG1 : Hid (gr P l (k + 1) = if y.ver < x.ver then some (k, x) else some (i, y)) := by show _ = _; rw [HG.out]; unfold grStep; rw [hP, if_pos rfl]
     obtain rfl : A = (i : Int) := HA.out
     have hcp := (Below.cell g1 (cell_lt m2)).trans m2
     have HA1 : Hid ((i : Int) = grAt (some (i, y))) := HA.out
     simp only at m1 hcp
     clear HG HA HC hP m2
     go_wp2_with fail
     generalize World.alloc wr _ = W at *
     rw [← hgx] at *
     clear hgx g1 hg0 q0 q1 q2 q3
     refine wp_region_told [ex (.func (.func K) #[] caps), ex (.agg #[.int .i64 x.kind, .int .i64 x.key, .int .i64 x.ver, .slice a1 x.data.length c1]), ex (.bool true), ex (.bool true), ex (.int .i64 (i : Int)), ex (.bool false), ex (.bool false), ex (.pointer (some ⟨gx, 2, none⟩)), ex (.int .i64 x.ver), ex (.slice (some ⟨b, off, none⟩) l.length cp), ex (.int .i64 (i : Int)), ex (.pointer (some ⟨b, off + i * 4, none⟩)), ex (.pointer (some ⟨b, off + i * 4 + 2, none⟩)), ex (.int .i64 y.ver), ex (.bool (decide (y.ver < x.ver))), ex (.bool (decide (y.ver < x.ver))), ex (.bool (decide (y.ver < x.ver)))] (by kernel_rfl) (by kernel_rfl) ⟨st_ex _, st_ex _, st_ex _, st_ex _, st_ex _, st_ex _, st_ex _, st_ex _, st_ex _, st_ex _, st_ex _, st_ex _, st_ex _, st_ex _, st_ex _, st_ex _, st_ex _, trivial⟩ ?_ ?_
     ·refine ⟨?_, ?_, ?_, ?_, ?_, ?_, ?_, ?_, ?_, ?_, ?_, ?_, ?_, ?_, ?_, ?_, ?_, trivial⟩
      ·refine need_plain rfl (fun a w' hg hin => ?_)
       have e : a.eval (.tmp 1) = .func (.func K) #[] caps := ins_ext hin 1 (by kernel_rfl)
       exact upon_move rfl e
      ·refine need_plain rfl (fun a w' hg hin => ?_)
       have e7 : a.eval (.tmp 7) = .pointer (some ⟨gx, 0, none⟩) := ins_ext hin 7 (by kernel_rfl)
       have hh := (hg.block _ (heap_lt hX1)).trans hX1
       obtain ⟨z0, z1, z2, z3⟩ := box4 hh rfl rfl rfl rfl
       refine upon_val ?_ rfl
       clear hin hg hh
       obtain ⟨ek, ef⟩ := evs a
       generalize a.eval = ev at *
       go_simp
       all_goals first | omega | (intro _; omega) | go_arith
      ·refine need_plain rfl (fun a w' hg hin => ?_)
       have e15 : a.eval (.tmp 15) = _ := ins_on hin 0 (by kernel_rfl)
       have e16 : a.eval (.tmp 16) = _ := ins_on hin 1 (by kernel_rfl)
       refine upon_call (f := K) ?_ ((hc x a1 c1 w' HM.out (gw1.trans hg)).mono ?_)
       ·clear hin hg
        obtain ⟨ek, ef⟩ := evs a
        generalize a.eval = ev at *
        go_simp
        all_goals first | omega | (intro _; omega) | go_arith
       ·rw [HF.out]
        rintro e w2 ⟨rfl, g2⟩
        exact ⟨_, rfl, g2, rfl⟩
      ·refine need_plain rfl (fun a w' hg hin => ?_)
       have e : a.eval (.tmp 17) = _ := ins_on hin 2 (by kernel_rfl)
       exact upon_move rfl e
      ·refine need_yes 3 true rfl (fun a w' hin => ins_on hin 3 (by kernel_rfl)) (fun a w' hg hin => ?_)
       have e : a.eval (.tmp 5) = .int .i64 (i : Int) := ins_ext hin 5 (by kernel_rfl)
       exact upon_move rfl e
      ·refine need_yes 3 true rfl (fun a w' hin => ins_on hin 3 (by kernel_rfl)) (fun a w' hg hin => ?_)
       have e19 : a.eval (.tmp 19) = _ := ins_on hin 4 (by kernel_rfl)
       refine upon_val ?_ rfl
       clear hin hg
       obtain ⟨ek, ef⟩ := evs a
       generalize a.eval = ev at *
       go_simp
       all_goals first | omega | (intro _; omega) | go_arith
      ·refine need_yes 3 true rfl (fun a w' hin => ins_on hin 3 (by kernel_rfl)) (fun a w' hg hin => ?_)
       have e : a.eval (.tmp 20) = _ := ins_on hin 5 (by kernel_rfl)
       exact upon_move rfl e
      ·refine need_yes 6 false rfl (fun a w' hin => ins_on hin 6 (by kernel_rfl)) (fun a w' hg hin => ?_)
       have e7 : a.eval (.tmp 7) = .pointer (some ⟨gx, 0, none⟩) := ins_ext hin 7 (by kernel_rfl)
       refine upon_val ?_ rfl
       clear hin hg
       obtain ⟨ek, ef⟩ := evs a
       generalize a.eval = ev at *
       go_simp
       all_goals first | omega | (intro _; omega) | go_arith
      ·refine need_yes 6 false rfl (fun a w' hin => ins_on hin 6 (by kernel_rfl)) (fun a w' hg hin => ?_)
       have e22 : a.eval (.tmp 22) = _ := ins_on hin 7 (by kernel_rfl)
       have z2 := box_cell ((hg.block _ (heap_lt hX1)).trans hX1) 2 _ rfl
       refine upon_val ?_ rfl
       clear hin hg
       obtain ⟨ek, ef⟩ := evs a
       generalize a.eval = ev at *
       go_simp
       all_goals first | omega | (intro _; omega) | go_arith
      ·refine need_yes 6 false rfl (fun a w' hin => ins_on hin 6 (by kernel_rfl)) (fun a w' hg hin => ?_)
       have e : a.eval (.tmp 0) = .slice (some ⟨b, off, none⟩) l.length cp := ins_ext hin 0 (by kernel_rfl)
       exact upon_move rfl e
      ·refine need_yes 6 false rfl (fun a w' hin => ins_on hin 6 (by kernel_rfl)) (fun a w' hg hin => ?_)
       have e : a.eval (.tmp 5) = .int .i64 (i : Int) := ins_ext hin 5 (by kernel_rfl)
       exact upon_move rfl e
      ·refine need_yes 6 false rfl (fun a w' hin => ins_on hin 6 (by kernel_rfl)) (fun a w' hg hin => ?_)
       have e24 : a.eval (.tmp 24) = _ := ins_on hin 9 (by kernel_rfl)
       have e25 : a.eval (.tmp 25) = _ := ins_on hin 10 (by kernel_rfl)
       refine upon_val ?_ rfl
       clear hin hg
       obtain ⟨ek, ef⟩ := evs a
       generalize a.eval = ev at *
       go_simp
       all_goals first | omega | (intro _; omega) | go_arith
      ·refine need_yes 6 false rfl (fun a w' hin => ins_on hin 6 (by kernel_rfl)) (fun a w' hg hin => ?_)
       have e26 : a.eval (.tmp 26) = _ := ins_on hin 11 (by kernel_rfl)
       refine upon_val ?_ rfl
       clear hin hg
       obtain ⟨ek, ef⟩ := evs a
       generalize a.eval = ev at *
       go_simp
       all_goals first | omega | (intro _; omega) | go_arith
      ·refine need_yes 6 false rfl (fun a w' hin => ins_on hin 6 (by kernel_rfl)) (fun a w' hg hin => ?_)
       have e27 : a.eval (.tmp 27) = _ := ins_on hin 12 (by kernel_rfl)
       have z2 := (Below.cell hg (cell_lt hcp)).trans hcp
       refine upon_val ?_ rfl
       clear hin hg
       obtain ⟨ek, ef⟩ := evs a
       generalize a.eval = ev at *
       go_simp
       all_goals first | omega | (intro _; omega) | go_arith
      ·refine need_yes 6 false rfl (fun a w' hin => ins_on hin 6 (by kernel_rfl)) (fun a w' hg hin => ?_)
       have e23 : a.eval (.tmp 23) = _ := ins_on hin 8 (by kernel_rfl)
       have e28 : a.eval (.tmp 28) = _ := ins_on hin 13 (by kernel_rfl)
       refine upon_val ?_ rfl
       clear hin hg
       obtain ⟨ek, ef⟩ := evs a
       generalize a.eval = ev at *
       go_simp
       all_goals first | omega | (intro _; omega) | go_arith
      ·refine need_yes 3 true rfl (fun a w' hin => ins_on hin 3 (by kernel_rfl)) (fun a w' hg hin => ?_)
       have ec : a.eval (.tmp 21) = _ := ins_on hin 6 (by kernel_rfl)
       have e : a.eval (.tmp 29) = _ := ins_on hin 14 (by kernel_rfl)
       exact upon_pick rfl ec e
      ·refine need_plain rfl (fun a w' hg hin => ?_)
       have ec : a.eval (.tmp 18) = _ := ins_on hin 3 (by kernel_rfl)
       have e : a.eval (.tmp 30) = _ := ins_on hin 15 (by kernel_rfl)
       exact upon_pick rfl ec e
     ·intro vs w' hg ht
      obtain ⟨q15, q16, q17, q18, q19, q20, q21, q22, q23, q24, q25, q26, q27, q28, q29, q30, q31, -⟩ := ht
      have r15 : vs 0 = .func (.func K) #[] caps := q15
      have r16 : vs 1 = .agg #[.int .i64 x.kind, .int .i64 x.key, .int .i64 x.ver, .slice a1 x.data.length c1] := q16
      have r17 : vs 2 = .bool true := q17
      have r18 : vs 3 = .bool true := q18
      have r19 : vs 4 = .int .i64 (i : Int) := q19
      have r20 : vs 5 = .bool false := q20
      have r21 : vs 6 = .bool false := q21
      have r22 : vs 7 = .pointer (some ⟨gx, 2, none⟩) := q22
      have r23 : vs 8 = .int .i64 x.ver := q23
      have r24 : vs 9 = .slice (some ⟨b, off, none⟩) l.length cp := q24
      have r25 : vs 10 = .int .i64 (i : Int) := q25
      have r26 : vs 11 = .pointer (some ⟨b, off + i * 4, none⟩) := q26
      have r27 : vs 12 = .pointer (some ⟨b, off + i * 4 + 2, none⟩) := q27
      have r28 : vs 13 = .int .i64 y.ver := q28
      have r29 : vs 14 = .bool (decide (y.ver < x.ver)) := q29
      have r30 : vs 15 = .bool (decide (y.ver < x.ver)) := q30
      have r31 : vs 16 = .bool (decide (y.ver < x.ver)) := q31
      clear q15 q16 q17 q18 q19 q20 q21 q22 q23 q24 q25 q26 q27 q28 q29 q30 q31
      simp only [putAll, Act.put, List.setIfInBounds_toArray, List.set_cons_zero, List.set_cons_succ, r15, r16, r17, r18, r19, r20, r21, r22, r23, r24, r25, r26, r27, r28, r29, r30, r31]
      clear r15 r16 r17 r18 r19 r20 r21 r22 r23 r24 r25 r26 r27 r28 r29 r30 r31
      have gE := gw1.trans hg
      clear hg gw1 hX1 hcp
      by_cases hv : y.ver < x.ver
      ·have HG2 : Hid ((k : Int) = grAt (gr P l (k + 1))) := by show _ = _; rw [HG1.out, if_pos hv]; rfl
       rw [decide_eq_true hv]
       clear hv HG1 HA1
       go_wp2_with fail
       go_roundw
       case rel => exact ⟨k + 1, k, by omega, by go_num, rfl, HG2, gE⟩
       case measure => simp [intOf]; omega
      ·have HG2 : Hid ((i : Int) = grAt (gr P l (k + 1))) := by show _ = _; rw [HG1.out, if_neg hv]; rfl
       rw [decide_eq_false hv]
       clear hv HG1 HA1
       go_wp2_with fail
       go_roundw
       case rel => exact ⟨k + 1, i, by omega, by go_num, rfl, HG2, gE⟩
       case measure => simp [intOf]; omega
  ·have hAR : A = R := by rw [HA.out, HR.out, show k = l.length from by omega]
   subst hAR
   clear HA HR
   go_wp2_with fail
   go_ret
   exact ⟨rfl, hg0⟩

theorem enters_next1 (args : Array Value) (w : World) : (callFunc 58 args).run Try.prog w = .ok (.enter 58 args) w := by
 simp [callFunc, Try.func58, Try.f58, mark]
theorem enters_get1 (args : Array Value) (w : World) : (callFunc 56 args).run Try.prog w = .ok (.enter 56 args) w := by
 simp [callFunc, Try.func56, Try.f56, mark]
theorem next1_any (x : Rec) (a : Option Addr) (c : Nat) (w : World) : Calls Try.prog 58 #[.agg #[.int .i64 x.kind, .int .i64 x.key, .int .i64 x.ver, .slice a x.data.length c]] w fun e w' => e = .returned (.bool true) ∧ Grow w w' := by
 have g0 := grow_alloc w (.cells #[.int .i64 x.kind, .int .i64 x.key, .int .i64 x.ver, .slice a x.data.length c] 33)
 go_enter Try.func58, Try.ntmps58
 go_wp2_with fail
 go_ret
 exact ⟨rfl, g0⟩
theorem get1_any (x : Rec) (a : Option Addr) (c : Nat) (key : Int) (g : Nat) (w : World) (hp : w.heap[g]? = some (.cells #[.int .i64 key] 3 (0, 0))) : Calls Try.prog 56 #[.agg #[.int .i64 x.kind, .int .i64 x.key, .int .i64 x.ver, .slice a x.data.length c], .pointer (some ⟨g, 0, none⟩)] w fun e w' => e = .returned (.bool (x.key == key)) ∧ Grow w w' := by
 have g0 := grow_alloc w (.cells #[.int .i64 x.kind, .int .i64 x.key, .int .i64 x.ver, .slice a x.data.length c] 33)
 have y0 := box_cell ((g0.block _ (heap_lt hp)).trans hp) 0 _ rfl
 go_enter Try.func56, Try.ntmps56
 go_wp2_with fail
 go_ret
 exact ⟨rfl, g0⟩

theorem rightR_bd {l : List Rec} (h : rightR l = true) : l.length ≤ 40 ∧ ∀ r ∈ l, 1 ≤ r.ver ∧ r.ver ≤ 60000 ∧ r.data.length ≤ 8 := by
 obtain ⟨h1, h2⟩ := (rightR_iff l).1 h
 refine ⟨h2, fun r hr => ?_⟩
 obtain ⟨h3, h4⟩ := h1 r hr
 obtain ⟨k, y, n, d⟩ := r
 simp only at h4
 have hk : ¬ (k < 1 ∨ 3 < k) := fun hk => by rw [wrong_out _ _ _ _ hk] at h3; cases h3
 cases hR : inRangeB ⟨k, y, n, d⟩ with
 | false => rw [wrong_range _ _ _ _ hk hR] at h3; cases h3
 | true =>
  have hR2 := hR
  rw [range_some _ _ _ _ h4, decide_eq_true_eq] at hR2
  by_cases hm : maxData k < (d.length : Int)
  ·rw [wrong_much _ _ _ _ hk hR hm] at h3; cases h3
  ·have : maxData k ≤ 8 := by unfold maxData; split <;> omega
   exact ⟨hR2.2.2.1, hR2.2.2.2, by show d.length ≤ 8; omega⟩

set_option maxHeartbeats 1000000 in
theorem mnextC : MNextC := by
 intro S l v w hr hl
 obtain ⟨hn, hb⟩ := rightR_bd hr
 have HE : Hid _ := gr_nextV l (fun r h => (hb r h).1) l.length (Nat.le_refl _)
 obtain ⟨ao, cp, rfl⟩ := hl.form
 obtain ⟨R, hR⟩ : ∃ R, R = nextV l := ⟨_, rfl⟩
 rw [← hR]
 have HR : Hid _ := hR
 have HB : Hid _ := hb
 clear hR hb hr
 go_enter Try.func23, Try.ntmps23
 go_wp2_with fail
 refine (great_any 58 #[] (fun _ => true) S l _ w enters_next1 hl (by omega) (fun x a c w' _ _ => by rw [Array.append_empty]; exact next1_any x a c w')).mono ?_
 rintro e w1 ⟨rfl, g1⟩
 have HM : Hid _ := gr_mem (fun _ => true) l l.length
 have HE2 : Hid (R = match gr (fun _ => true) l l.length with | none => 1 | some p => p.2.ver + 1) := by
  show R = _
  rw [HR.out, ← HE.out, List.take_length]
 clear HE HR
 generalize gr (fun _ => true) l l.length = G at *
 cases G with
 | none =>
  obtain rfl : R = 1 := HE2.out
  simp only [grAt]
  go_wp2_with fail
  go_ret
  exact ⟨rfl, g1⟩
 | some p =>
  obtain ⟨i, y⟩ := p
  obtain ⟨m1, m2, -⟩ := HM.out (i, y) rfl
  obtain rfl : R = y.ver + 1 := HE2.out
  simp only at m1 m2
  obtain ⟨b, off, a1, c1, hv1, -, -, q2, -, -⟩ := recs_at (hl.grow g1) i m1
  cases hv1
  have e5 := (List.getElem?_eq_some_iff.1 m2).2
  rw [e5] at q2
  have hbd := HB.out y (by rw [← e5]; exact List.getElem_mem m1)
  clear m2 e5 HB HM HE2
  simp only [grAt]
  go_wp2_with fail
  go_ret
  exact ⟨rfl, g1⟩

theorem field_rec (k y n : Int) (ao : Option Addr) (len cap : Nat) (w : World) : (Instr.field 33 (.agg #[.int .i64 k, .int .i64 y, .int .i64 n, .slice ao len cap]) 3).run Try.prog w = .ok (.slice ao len cap) w := by
 unfold Instr.field
 simp only [Sem.run_bind, run_underlying Try.underlying33, Result.andThen_ok]
 simp [part, asAgg]
set_option maxHeartbeats 1000000 in
theorem mgetC : MGetC := by
 intro S l key v w hS hr hl
 obtain ⟨hn, hb⟩ := rightR_bd hr
 have HE : Hid _ := gr_getK key l (fun r h => (hb r h).1) l.length (Nat.le_refl _)
 obtain ⟨ao, cp, rfl⟩ := hl.form
 obtain ⟨R, hR⟩ : ∃ R, R = getK l key := ⟨_, rfl⟩
 rw [← hR]
 have HR : Hid _ := hR
 have HB : Hid _ := hb
 clear hR hb hr
 have g0 := grow_alloc w (.cells #[.int .i64 key] 3)
 have hp := heap_new w #[.int .i64 key] 3
 go_enter Try.func21, Try.ntmps21
 go_wp2_with fail
 refine (great_any 56 #[.pointer (some ⟨w.heap.size, 0, none⟩)] (fun r => r.key == key) S l _ _ enters_get1 (hl.grow g0) (by omega) (fun x a c w' _ hg => get1_any x a c key _ w' ((hg.block _ (heap_lt hp)).trans hp))).mono ?_
 rintro e w1 ⟨rfl, g1⟩
 have gw1 := g0.trans g1
 clear g0 g1 hp
 have HM : Hid _ := gr_mem (fun r => r.key == key) l l.length
 have HE2 : Hid (R = gotOf (gr (fun r => r.key == key) l l.length)) := by
  show R = _
  rw [HR.out, ← HE.out, List.take_length]
 clear HE HR
 generalize gr (fun r => r.key == key) l l.length = G at *
 cases G with
 | none =>
  obtain rfl : R = ⟨0, 6, []⟩ := HE2.out
  simp only [grAt]
  go_wp2_with fail
  go_ret2
  exact ⟨_, rfl, .inl ⟨none, 0, rfl, rfl, fun _ => rfl⟩, gw1⟩
 | some p =>
  obtain ⟨i, y⟩ := p
  obtain ⟨m1, m2, -⟩ := HM.out (i, y) rfl
  simp only at m1 m2
  obtain ⟨b, off, a1, c1, hv1, q0, q1, q2, q3, hu⟩ := recs_at (hl.grow gw1) i m1
  cases hv1
  have e5 := (List.getElem?_eq_some_iff.1 m2).2
  rw [e5] at q0 q1 q2 q3 hu
  have HB8 : Hid _ := HB.out y (by rw [← e5]; exact List.getElem_mem m1)
  clear m2 e5 HB HM
  simp only [grAt]
  by_cases h3 : y.kind = 3
  ·obtain rfl : R = ⟨y.ver, 10, []⟩ := by rw [HE2.out]; unfold gotOf; simp only; rw [if_pos h3]
   have d3 : (y.kind == 3) = true := by simp [h3]
   clear HE2 h3 hu
   go_wp2_with fail
   go_ret2
   exact ⟨_, rfl, .inl ⟨none, 0, rfl, rfl, fun _ => rfl⟩, gw1⟩
  ·obtain rfl : R = ⟨y.ver, 0, y.data⟩ := by rw [HE2.out]; unfold gotOf; simp only; rw [if_neg h3]
   have d3 : (y.kind == 3) = false := by simp [h3]
   clear HE2 h3
   go_wp2_with fail
   refine (own_any y.kind y.key y.ver y.data _ w1 (by have := HB8.out; omega) hu.p).mono ?_
   rintro e w2 ⟨v', rfl, ho, g2⟩
   have gE := gw1.trans g2
   have hB := (own_s S (own_mono ho gw1.size))
   clear ho hu q0 q1 q2 q3 g2
   obtain ⟨a9, c9, rfl⟩ := hB.form
   have ff := field_rec
   go_wp2_with fail
   go_ret2
   exact ⟨_, rfl, hB, gE⟩
end Go.Proofs.Ytgaecpdokgklpab
