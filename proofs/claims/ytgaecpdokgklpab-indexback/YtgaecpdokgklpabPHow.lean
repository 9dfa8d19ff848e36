/-
  Records whose rows are all their own, and what the program's pair.how and pair.first tell of them.
  Condition: the records lie in memory, at most two of them.
-/
import Derived.Test.YtgaecpdokgklpabJPd
import Derived.Test.YtgaecpdokgklpabRLook
namespace Go.Proofs.Ytgaecpdokgklpab
set_option maxRecDepth 100000
open Go.RowKit
open Go.Proofs.Ytgaecpdokgklpab.Plain Go.Proofs.Ytgaecpdokgklpab.Reg

/-- Records, cell by cell. -/
def flatR : List Rec → List Value → List Value
 | r :: rs, u :: us => .int .i64 r.kind :: .int .i64 r.key :: .int .i64 r.ver :: u :: flatR rs us
 | _, _ => []
theorem flatR_app : ∀ (rs : List Rec) (us : List Value) (r : Rec) (u : Value), us.length = rs.length → flatR (rs ++ [r]) (us ++ [u]) = flatR rs us ++ [.int .i64 r.kind, .int .i64 r.key, .int .i64 r.ver, u]
 | [], [], r, u, _ => by simp [flatR]
 | [], _ :: _, r, u, h => by simp at h
 | _ :: _, [], r, u, h => by simp at h
 | x :: rs, y :: us, r, u, h => by simp [flatR, flatR_app rs us r u (by simpa using h)]
/-- The slice v is a row of its own, from block B on, of these records, the data us of each a row of its own. -/
structure OwnRs (B : Nat) (v : Value) (rs : List Rec) (us : List Value) (w : World) : Prop where
 len : us.length = rs.length
 row : w.ownsRow B 33 4 v rs.length (flatR rs us)
 each : ∀ i (hi : i < rs.length), ∃ u, us[i]? = some u ∧ w.ownsRow B 5 1 u rs[i].data.length (rs[i].data.map bv)
theorem OwnRs.grow {B : Nat} {v : Value} {rs : List Rec} {us : List Value} {w w' : World} (h : OwnRs B v rs us w) (hg : Grow w w') : OwnRs B v rs us w' :=
 ⟨h.len, own_grow h.row hg, fun i hi => (h.each i hi).imp fun _ hu => ⟨hu.1, own_grow hu.2 hg⟩⟩
theorem OwnRs.other {B q : Nat} {v : Value} {rs : List Rec} {us : List Value} {w w' : World} (h : OwnRs B v rs us w) (hg : GrowBut q w w') (hq : q < B) : OwnRs B v rs us w' := by
 have key : ∀ {e : TypeId} {sz n : Nat} {v : Value} {xs : List Value}, w.ownsRow B e sz v n xs → w'.ownsRow B e sz v n xs := fun h => by
  refine ⟨h.1, or_map h.2 (fun x => x) fun ⟨g, cap, cur, h1, h2, h3, r⟩ => ⟨g, cap, cur, h1, h2, ?_, r⟩⟩
  rw [hg.block _ (heap_lt h3) (by omega)]; exact h3
 exact ⟨h.len, key h.row, fun i hi => (h.each i hi).imp fun _ hu => ⟨hu.1, key hu.2⟩⟩
theorem OwnRs.nil (B : Nat) (w : World) : OwnRs B (.slice none 0 0) [] [] w := ⟨rfl, World.ownsRow_nil _ _ _ _, fun i hi => by simp at hi⟩
theorem OwnRs.form {B : Nat} {v : Value} {rs : List Rec} {us : List Value} {w : World} (h : OwnRs B v rs us w) : ∃ ao cap, v = .slice ao rs.length cap := own_slice2 h.row
/-- One record more. -/
theorem OwnRs.snoc {B : Nat} {v u : Value} {rs : List Rec} {us : List Value} {w : World} {r : Rec} (hl : us.length = rs.length) (hr : w.ownsRow B 33 4 v (rs.length + 1) (flatR rs us ++ [.int .i64 r.kind, .int .i64 r.key, .int .i64 r.ver, u]))
  (he : ∀ i (hi : i < rs.length), ∃ u, us[i]? = some u ∧ w.ownsRow B 5 1 u rs[i].data.length (rs[i].data.map bv)) (hu : w.ownsRow B 5 1 u r.data.length (r.data.map bv)) : OwnRs B v (rs ++ [r]) (us ++ [u]) w := by
 refine ⟨by simp [hl], ?_, fun i hi => ?_⟩
 ·rw [flatR_app rs us r u hl]; simpa using hr
 ·by_cases hi2 : i < rs.length
  ·obtain ⟨y, h1, h2⟩ := he i hi2
   refine ⟨y, by rw [List.getElem?_append_left (by omega)]; exact h1, ?_⟩
   rw [List.getElem_append_left hi2]; exact h2
  ·have e : i = rs.length := by simp at hi; omega
   subst e
   exact ⟨u, by rw [← hl]; simp, by simpa using hu⟩
theorem info_rec : (Try.prog.info? 33).map (fun i => (i.zero, i.size, i.bytes)) = some (some (.agg #[.int .i64 0, .int .i64 0, .int .i64 0, .slice none 0 0]), 4, 48) := by kernel_rfl
theorem news_four (w : World) (x y z u : Value) (e : TypeId) (j : Nat) (c : Value) (h : [x, y, z, u][j]? = some c) : (w.alloc (.cells #[x, y, z, u] e)).cell? ((⟨w.heap.size, 0, none⟩ : Addr).add j) = some c := by
 match j, h with
 | 0, h => simp at h; subst h; simp [Addr.add]
 | 1, h => simp at h; subst h; simp [Addr.add]
 | 2, h => simp at h; subst h; simp [Addr.add]
 | 3, h => simp at h; subst h; simp [Addr.add]
 | j + 4, h => simp at h
/-- The first of them: its cells. -/
theorem OwnRs.first {B : Nat} {v : Value} {r : Rec} {rs : List Rec} {us : List Value} {w : World} (h : OwnRs B v (r :: rs) us w) : ∃ g cap ao c, v = .slice (some ⟨g, 0, none⟩) (rs.length + 1) cap ∧ w.cell? ⟨g, 0, none⟩ = some (.int .i64 r.kind) ∧ w.cell? ⟨g, 1, none⟩ = some (.int .i64 r.key) ∧ w.cell? ⟨g, 2, none⟩ = some (.int .i64 r.ver) ∧ w.cell? ⟨g, 3, none⟩ = some (.slice ao r.data.length c) ∧ us[0]? = some (.slice ao r.data.length c) := by
 obtain ⟨u, hu, ho⟩ := h.each 0 (by simp)
 obtain ⟨ao, c, rfl⟩ := own_slice ho
 cases us with
 | nil => simp at hu
 | cons u us =>
  simp only [List.getElem?_cons_zero, Option.some.injEq] at hu
  subst hu
  rcases h.row.2 with ⟨_, h0⟩ | ⟨g, cap, cur, rfl, _, hh, h1, _⟩
  ·simp at h0
  ·simp only [List.length_cons] at h1
   have c0 := h.row.cellAt 0 (by simp only [List.length_cons]; omega)
   have c1 := h.row.cellAt 1 (by simp only [List.length_cons]; omega)
   have c2 := h.row.cellAt 2 (by simp only [List.length_cons]; omega)
   have c3 := h.row.cellAt 3 (by simp only [List.length_cons]; omega)
   exact ⟨g, cap, ao, c, rfl, by simpa [flatR] using c0, by simpa [flatR] using c1, by simpa [flatR] using c2, by simpa [flatR] using c3, rfl⟩
theorem OwnRs.second {B g cap n : Nat} {r q : Rec} {rs : List Rec} {us : List Value} {w : World} (h : OwnRs B (.slice (some ⟨g, 0, none⟩) n cap) (r :: q :: rs) us w) : ∃ ao c, w.cell? ⟨g, 4, none⟩ = some (.int .i64 q.kind) ∧ w.cell? ⟨g, 5, none⟩ = some (.int .i64 q.key) ∧ w.cell? ⟨g, 6, none⟩ = some (.int .i64 q.ver) ∧ w.cell? ⟨g, 7, none⟩ = some (.slice ao q.data.length c) ∧ us[1]? = some (.slice ao q.data.length c) := by
 obtain ⟨u, hu, ho⟩ := h.each 1 (by simp)
 obtain ⟨ao, c, hu2⟩ := own_slice ho
 have hu3 : u = .slice ao q.data.length c := hu2
 subst hu3
 match us, hu with
 | [], hu => simp at hu
 | [_], hu => simp at hu
 | u0 :: u1 :: us, hu =>
  simp only [List.getElem?_cons_succ, List.getElem?_cons_zero, Option.some.injEq] at hu
  subst hu
  have hr := h.row
  rcases hr.2 with ⟨_, h0⟩ | ⟨g', cap', cur, hv, _, hh, h1, _⟩
  ·simp at h0
  ·cases hv
   simp only [List.length_cons] at h1
   have c4 := hr.cellAt 4 (by simp only [List.length_cons]; omega)
   have c5 := hr.cellAt 5 (by simp only [List.length_cons]; omega)
   have c6 := hr.cellAt 6 (by simp only [List.length_cons]; omega)
   have c7 := hr.cellAt 7 (by simp only [List.length_cons]; omega)
   exact ⟨ao, c, by simpa [flatR] using c4, by simpa [flatR] using c5, by simpa [flatR] using c6, by simpa [flatR] using c7, rfl⟩

/-- How a pair is that tells these, and has so many that are spoilt. -/
def howN (rs : List Rec) (s : Int) : Int :=
 match rs with
 | [] => if s = 0 then 0 else if s = 1 then 3 else 4
 | [_] => 2
 | r0 :: r1 :: _ => if sameB r0 r1 = true then 1 else 5

set_option maxHeartbeats 1000000 in
theorem phow_none (s : Int) (ao : Option Addr) (cap : Nat) (w : World) :
  Calls Try.prog 72 #[.slice ao 0 cap, .int .i64 s] w fun e w' => e = .returned (.int .i64 (howN [] s)) ∧ Grow w w' := by
 by_cases h0 : s = 0
 ·subst h0
  go_enter Try.func72, Try.ntmps72
  go_wp2_with fail
  refine wp_region_told [ex (.slice ao 0 cap), ex (.int .i64 0), ex (.bool false), ex (.bool false), ex (undef), ex (undef), ex (undef), ex (undef), ex (undef), ex (undef), ex (undef), ex (.bool false), ex (.bool false)] (by kernel_rfl) (by kernel_rfl) ⟨st_ex _, st_ex _, st_ex _, st_ex _, st_ex _, st_ex _, st_ex _, st_ex _, st_ex _, st_ex _, st_ex _, st_ex _, st_ex _, trivial⟩ ?_ ?_
  ·refine ⟨?_, ?_, ?_, ?_, ?_, ?_, ?_, ?_, ?_, ?_, ?_, ?_, ?_, trivial⟩
   ·refine need_plain rfl (fun a w' hg hin => ?_)
    have e : a.eval (.tmp 0) = .slice ao 0 cap := ins_ext hin 0 (by kernel_rfl)
    exact upon_move rfl e
   ·refine need_plain rfl (fun a w' hg hin => ?_)
    have e6 : a.eval (.tmp 6) = _ := ins_on hin 0 (by kernel_rfl)
    refine upon_val ?_ rfl
    clear hin hg
    obtain ⟨ek, ef⟩ := evs a
    generalize a.eval = ev at *
    go_simp
    all_goals first | omega | (intro _; omega) | go_arith
   ·refine need_plain rfl (fun a w' hg hin => ?_)
    have e7 : a.eval (.tmp 7) = _ := ins_on hin 1 (by kernel_rfl)
    refine upon_val ?_ rfl
    clear hin hg
    obtain ⟨ek, ef⟩ := evs a
    generalize a.eval = ev at *
    go_simp
    all_goals first | omega | (intro _; omega) | go_arith
   ·refine need_plain rfl (fun a w' hg hin => ?_)
    have e : a.eval (.tmp 8) = _ := ins_on hin 2 (by kernel_rfl)
    exact upon_move rfl e
   ·refine need_no 3 true false rfl (by decide) (fun a w' hin => ins_on hin 3 (by kernel_rfl)) (fun _ => rfl)
   ·refine need_no 3 true false rfl (by decide) (fun a w' hin => ins_on hin 3 (by kernel_rfl)) (fun _ => rfl)
   ·refine need_no 3 true false rfl (by decide) (fun a w' hin => ins_on hin 3 (by kernel_rfl)) (fun _ => rfl)
   ·refine need_no 3 true false rfl (by decide) (fun a w' hin => ins_on hin 3 (by kernel_rfl)) (fun _ => rfl)
   ·refine need_no 3 true false rfl (by decide) (fun a w' hin => ins_on hin 3 (by kernel_rfl)) (fun _ => rfl)
   ·refine need_no 3 true false rfl (by decide) (fun a w' hin => ins_on hin 3 (by kernel_rfl)) (fun _ => rfl)
   ·refine need_no 3 true false rfl (by decide) (fun a w' hin => ins_on hin 3 (by kernel_rfl)) (fun _ => rfl)
   ·refine need_plain rfl (fun a w' hg hin => ?_)
    have ec : a.eval (.tmp 9) = _ := ins_on hin 3 (by kernel_rfl)
    exact upon_pick rfl ec rfl
   ·refine need_plain rfl (fun a w' hg hin => ?_)
    have e : a.eval (.tmp 17) = _ := ins_on hin 11 (by kernel_rfl)
    exact upon_assign rfl e
  ·intro vs w' hg ht
   obtain ⟨q6, q7, q8, q9, q10, q11, q12, q13, q14, q15, q16, q17, q5, -⟩ := ht
   have r6 : vs 0 = .slice ao 0 cap := q6
   have r7 : vs 1 = .int .i64 0 := q7
   have r8 : vs 2 = .bool false := q8
   have r9 : vs 3 = .bool false := q9
   have r10 : vs 4 = undef := q10
   have r11 : vs 5 = undef := q11
   have r12 : vs 6 = undef := q12
   have r13 : vs 7 = undef := q13
   have r14 : vs 8 = undef := q14
   have r15 : vs 9 = undef := q15
   have r16 : vs 10 = undef := q16
   have r17 : vs 11 = .bool false := q17
   have r5 : vs 12 = .bool false := q5
   clear q6 q7 q8 q9 q10 q11 q12 q13 q14 q15 q16 q17 q5
   simp only [putAll, Act.put, List.setIfInBounds_toArray, List.set_cons_zero, List.set_cons_succ, r6, r7, r8, r9, r10, r11, r12, r13, r14, r15, r16, r17, r5]
   clear r6 r7 r8 r9 r10 r11 r12 r13 r14 r15 r16 r17 r5
   go_wp2_with fail
   go_ret
   exact ⟨rfl, hg⟩
 ·by_cases h1 : s = 1
  ·subst h1
   clear h0
   go_enter Try.func72, Try.ntmps72
   go_wp2_with fail
   refine wp_region_told [ex (.slice ao 0 cap), ex (.int .i64 0), ex (.bool false), ex (.bool false), ex (undef), ex (undef), ex (undef), ex (undef), ex (undef), ex (undef), ex (undef), ex (.bool false), ex (.bool false)] (by kernel_rfl) (by kernel_rfl) ⟨st_ex _, st_ex _, st_ex _, st_ex _, st_ex _, st_ex _, st_ex _, st_ex _, st_ex _, st_ex _, st_ex _, st_ex _, st_ex _, trivial⟩ ?_ ?_
   ·refine ⟨?_, ?_, ?_, ?_, ?_, ?_, ?_, ?_, ?_, ?_, ?_, ?_, ?_, trivial⟩
    ·refine need_plain rfl (fun a w' hg hin => ?_)
     have e : a.eval (.tmp 0) = .slice ao 0 cap := ins_ext hin 0 (by kernel_rfl)
     exact upon_move rfl e
    ·refine need_plain rfl (fun a w' hg hin => ?_)
     have e6 : a.eval (.tmp 6) = _ := ins_on hin 0 (by kernel_rfl)
     refine upon_val ?_ rfl
     clear hin hg
     obtain ⟨ek, ef⟩ := evs a
     generalize a.eval = ev at *
     go_simp
     all_goals first | omega | (intro _; omega) | go_arith
    ·refine need_plain rfl (fun a w' hg hin => ?_)
     have e7 : a.eval (.tmp 7) = _ := ins_on hin 1 (by kernel_rfl)
     refine upon_val ?_ rfl
     clear hin hg
     obtain ⟨ek, ef⟩ := evs a
     generalize a.eval = ev at *
     go_simp
     all_goals first | omega | (intro _; omega) | go_arith
    ·refine need_plain rfl (fun a w' hg hin => ?_)
     have e : a.eval (.tmp 8) = _ := ins_on hin 2 (by kernel_rfl)
     exact upon_move rfl e
    ·refine need_no 3 true false rfl (by decide) (fun a w' hin => ins_on hin 3 (by kernel_rfl)) (fun _ => rfl)
    ·refine need_no 3 true false rfl (by decide) (fun a w' hin => ins_on hin 3 (by kernel_rfl)) (fun _ => rfl)
    ·refine need_no 3 true false rfl (by decide) (fun a w' hin => ins_on hin 3 (by kernel_rfl)) (fun _ => rfl)
    ·refine need_no 3 true false rfl (by decide) (fun a w' hin => ins_on hin 3 (by kernel_rfl)) (fun _ => rfl)
    ·refine need_no 3 true false rfl (by decide) (fun a w' hin => ins_on hin 3 (by kernel_rfl)) (fun _ => rfl)
    ·refine need_no 3 true false rfl (by decide) (fun a w' hin => ins_on hin 3 (by kernel_rfl)) (fun _ => rfl)
    ·refine need_no 3 true false rfl (by decide) (fun a w' hin => ins_on hin 3 (by kernel_rfl)) (fun _ => rfl)
    ·refine need_plain rfl (fun a w' hg hin => ?_)
     have ec : a.eval (.tmp 9) = _ := ins_on hin 3 (by kernel_rfl)
     exact upon_pick rfl ec rfl
    ·refine need_plain rfl (fun a w' hg hin => ?_)
     have e : a.eval (.tmp 17) = _ := ins_on hin 11 (by kernel_rfl)
     exact upon_assign rfl e
   ·intro vs w' hg ht
    obtain ⟨q6, q7, q8, q9, q10, q11, q12, q13, q14, q15, q16, q17, q5, -⟩ := ht
    have r6 : vs 0 = .slice ao 0 cap := q6
    have r7 : vs 1 = .int .i64 0 := q7
    have r8 : vs 2 = .bool false := q8
    have r9 : vs 3 = .bool false := q9
    have r10 : vs 4 = undef := q10
    have r11 : vs 5 = undef := q11
    have r12 : vs 6 = undef := q12
    have r13 : vs 7 = undef := q13
    have r14 : vs 8 = undef := q14
    have r15 : vs 9 = undef := q15
    have r16 : vs 10 = undef := q16
    have r17 : vs 11 = .bool false := q17
    have r5 : vs 12 = .bool false := q5
    clear q6 q7 q8 q9 q10 q11 q12 q13 q14 q15 q16 q17 q5
    simp only [putAll, Act.put, List.setIfInBounds_toArray, List.set_cons_zero, List.set_cons_succ, r6, r7, r8, r9, r10, r11, r12, r13, r14, r15, r16, r17, r5]
    clear r6 r7 r8 r9 r10 r11 r12 r13 r14 r15 r16 r17 r5
    go_wp2_with fail
    go_ret
    exact ⟨rfl, hg⟩
  ·have HN : Hid (howN [] s = 4) := by show howN [] s = 4; unfold howN; rw [if_neg h0, if_neg h1]
   rw [HN.out]
   have d0 : (s == 0) = false := beq_false' h0
   have d1 : (s == 1) = false := beq_false' h1
   clear h0 h1
   go_enter Try.func72, Try.ntmps72
   go_wp2_with fail
   refine wp_region_told [ex (.slice ao 0 cap), ex (.int .i64 0), ex (.bool false), ex (.bool false), ex (undef), ex (undef), ex (undef), ex (undef), ex (undef), ex (undef), ex (undef), ex (.bool false), ex (.bool false)] (by kernel_rfl) (by kernel_rfl) ⟨st_ex _, st_ex _, st_ex _, st_ex _, st_ex _, st_ex _, st_ex _, st_ex _, st_ex _, st_ex _, st_ex _, st_ex _, st_ex _, trivial⟩ ?_ ?_
   ·refine ⟨?_, ?_, ?_, ?_, ?_, ?_, ?_, ?_, ?_, ?_, ?_, ?_, ?_, trivial⟩
    ·refine need_plain rfl (fun a w' hg hin => ?_)
     have e : a.eval (.tmp 0) = .slice ao 0 cap := ins_ext hin 0 (by kernel_rfl)
     exact upon_move rfl e
    ·refine need_plain rfl (fun a w' hg hin => ?_)
     have e6 : a.eval (.tmp 6) = _ := ins_on hin 0 (by kernel_rfl)
     refine upon_val ?_ rfl
     clear hin hg
     obtain ⟨ek, ef⟩ := evs a
     generalize a.eval = ev at *
     go_simp
     all_goals first | omega | (intro _; omega) | go_arith
    ·refine need_plain rfl (fun a w' hg hin => ?_)
     have e7 : a.eval (.tmp 7) = _ := ins_on hin 1 (by kernel_rfl)
     refine upon_val ?_ rfl
     clear hin hg
     obtain ⟨ek, ef⟩ := evs a
     generalize a.eval = ev at *
     go_simp
     all_goals first | omega | (intro _; omega) | go_arith
    ·refine need_plain rfl (fun a w' hg hin => ?_)
     have e : a.eval (.tmp 8) = _ := ins_on hin 2 (by kernel_rfl)
     exact upon_move rfl e
    ·refine need_no 3 true false rfl (by decide) (fun a w' hin => ins_on hin 3 (by kernel_rfl)) (fun _ => rfl)
    ·refine need_no 3 true false rfl (by decide) (fun a w' hin => ins_on hin 3 (by kernel_rfl)) (fun _ => rfl)
    ·refine need_no 3 true false rfl (by decide) (fun a w' hin => ins_on hin 3 (by kernel_rfl)) (fun _ => rfl)
    ·refine need_no 3 true false rfl (by decide) (fun a w' hin => ins_on hin 3 (by kernel_rfl)) (fun _ => rfl)
    ·refine need_no 3 true false rfl (by decide) (fun a w' hin => ins_on hin 3 (by kernel_rfl)) (fun _ => rfl)
    ·refine need_no 3 true false rfl (by decide) (fun a w' hin => ins_on hin 3 (by kernel_rfl)) (fun _ => rfl)
    ·refine need_no 3 true false rfl (by decide) (fun a w' hin => ins_on hin 3 (by kernel_rfl)) (fun _ => rfl)
    ·refine need_plain rfl (fun a w' hg hin => ?_)
     have ec : a.eval (.tmp 9) = _ := ins_on hin 3 (by kernel_rfl)
     exact upon_pick rfl ec rfl
    ·refine need_plain rfl (fun a w' hg hin => ?_)
     have e : a.eval (.tmp 17) = _ := ins_on hin 11 (by kernel_rfl)
     exact upon_assign rfl e
   ·intro vs w' hg ht
    obtain ⟨q6, q7, q8, q9, q10, q11, q12, q13, q14, q15, q16, q17, q5, -⟩ := ht
    have r6 : vs 0 = .slice ao 0 cap := q6
    have r7 : vs 1 = .int .i64 0 := q7
    have r8 : vs 2 = .bool false := q8
    have r9 : vs 3 = .bool false := q9
    have r10 : vs 4 = undef := q10
    have r11 : vs 5 = undef := q11
    have r12 : vs 6 = undef := q12
    have r13 : vs 7 = undef := q13
    have r14 : vs 8 = undef := q14
    have r15 : vs 9 = undef := q15
    have r16 : vs 10 = undef := q16
    have r17 : vs 11 = .bool false := q17
    have r5 : vs 12 = .bool false := q5
    clear q6 q7 q8 q9 q10 q11 q12 q13 q14 q15 q16 q17 q5
    simp only [putAll, Act.put, List.setIfInBounds_toArray, List.set_cons_zero, List.set_cons_succ, r6, r7, r8, r9, r10, r11, r12, r13, r14, r15, r16, r17, r5]
    clear r6 r7 r8 r9 r10 r11 r12 r13 r14 r15 r16 r17 r5
    go_wp2_with fail
    go_ret
    exact ⟨rfl, hg⟩

set_option maxHeartbeats 1000000 in
theorem phow_one (s : Int) (ao : Option Addr) (cap : Nat) (w : World) :
  Calls Try.prog 72 #[.slice ao 1 cap, .int .i64 s] w fun e w' => e = .returned (.int .i64 2) ∧ Grow w w' := by
 go_enter Try.func72, Try.ntmps72
 go_wp2_with fail
 refine wp_region_told [ex (.slice ao 1 cap), ex (.int .i64 1), ex (.bool false), ex (.bool false), ex (undef), ex (undef), ex (undef), ex (undef), ex (undef), ex (undef), ex (undef), ex (.bool false), ex (.bool false)] (by kernel_rfl) (by kernel_rfl) ⟨st_ex _, st_ex _, st_ex _, st_ex _, st_ex _, st_ex _, st_ex _, st_ex _, st_ex _, st_ex _, st_ex _, st_ex _, st_ex _, trivial⟩ ?_ ?_
 ·refine ⟨?_, ?_, ?_, ?_, ?_, ?_, ?_, ?_, ?_, ?_, ?_, ?_, ?_, trivial⟩
  ·refine need_plain rfl (fun a w' hg hin => ?_)
   have e : a.eval (.tmp 0) = .slice ao 1 cap := ins_ext hin 0 (by kernel_rfl)
   exact upon_move rfl e
  ·refine need_plain rfl (fun a w' hg hin => ?_)
   have e6 : a.eval (.tmp 6) = _ := ins_on hin 0 (by kernel_rfl)
   refine upon_val ?_ rfl
   clear hin hg
   obtain ⟨ek, ef⟩ := evs a
   generalize a.eval = ev at *
   go_simp
   all_goals first | omega | (intro _; omega) | go_arith
  ·refine need_plain rfl (fun a w' hg hin => ?_)
   have e7 : a.eval (.tmp 7) = _ := ins_on hin 1 (by kernel_rfl)
   refine upon_val ?_ rfl
   clear hin hg
   obtain ⟨ek, ef⟩ := evs a
   generalize a.eval = ev at *
   go_simp
   all_goals first | omega | (intro _; omega) | go_arith
  ·refine need_plain rfl (fun a w' hg hin => ?_)
   have e : a.eval (.tmp 8) = _ := ins_on hin 2 (by kernel_rfl)
   exact upon_move rfl e
  ·refine need_no 3 true false rfl (by decide) (fun a w' hin => ins_on hin 3 (by kernel_rfl)) (fun _ => rfl)
  ·refine need_no 3 true false rfl (by decide) (fun a w' hin => ins_on hin 3 (by kernel_rfl)) (fun _ => rfl)
  ·refine need_no 3 true false rfl (by decide) (fun a w' hin => ins_on hin 3 (by kernel_rfl)) (fun _ => rfl)
  ·refine need_no 3 true false rfl (by decide) (fun a w' hin => ins_on hin 3 (by kernel_rfl)) (fun _ => rfl)
  ·refine need_no 3 true false rfl (by decide) (fun a w' hin => ins_on hin 3 (by kernel_rfl)) (fun _ => rfl)
  ·refine need_no 3 true false rfl (by decide) (fun a w' hin => ins_on hin 3 (by kernel_rfl)) (fun _ => rfl)
  ·refine need_no 3 true false rfl (by decide) (fun a w' hin => ins_on hin 3 (by kernel_rfl)) (fun _ => rfl)
  ·refine need_plain rfl (fun a w' hg hin => ?_)
   have ec : a.eval (.tmp 9) = _ := ins_on hin 3 (by kernel_rfl)
   exact upon_pick rfl ec rfl
  ·refine need_plain rfl (fun a w' hg hin => ?_)
   have e : a.eval (.tmp 17) = _ := ins_on hin 11 (by kernel_rfl)
   exact upon_assign rfl e
 ·intro vs w' hg ht
  obtain ⟨q6, q7, q8, q9, q10, q11, q12, q13, q14, q15, q16, q17, q5, -⟩ := ht
  have r6 : vs 0 = .slice ao 1 cap := q6
  have r7 : vs 1 = .int .i64 1 := q7
  have r8 : vs 2 = .bool false := q8
  have r9 : vs 3 = .bool false := q9
  have r10 : vs 4 = undef := q10
  have r11 : vs 5 = undef := q11
  have r12 : vs 6 = undef := q12
  have r13 : vs 7 = undef := q13
  have r14 : vs 8 = undef := q14
  have r15 : vs 9 = undef := q15
  have r16 : vs 10 = undef := q16
  have r17 : vs 11 = .bool false := q17
  have r5 : vs 12 = .bool false := q5
  clear q6 q7 q8 q9 q10 q11 q12 q13 q14 q15 q16 q17 q5
  simp only [putAll, Act.put, List.setIfInBounds_toArray, List.set_cons_zero, List.set_cons_succ, r6, r7, r8, r9, r10, r11, r12, r13, r14, r15, r16, r17, r5]
  clear r6 r7 r8 r9 r10 r11 r12 r13 r14 r15 r16 r17 r5
  go_wp2_with fail
  go_ret
  exact ⟨rfl, hg⟩

set_option maxHeartbeats 2000000 in
theorem phow_two (r q : Rec) (s : Int) (g cap c c' : Nat) (ao bo : Option Addr) (w : World) (hr : Bytes w (.slice ao r.data.length c) r.data) (hq : Bytes w (.slice bo q.data.length c') q.data)
  (c0 : w.cell? ⟨g, 0, none⟩ = some (.int .i64 r.kind)) (c1 : w.cell? ⟨g, 1, none⟩ = some (.int .i64 r.key)) (c2 : w.cell? ⟨g, 2, none⟩ = some (.int .i64 r.ver)) (c3 : w.cell? ⟨g, 3, none⟩ = some (.slice ao r.data.length c))
  (c4 : w.cell? ⟨g, 4, none⟩ = some (.int .i64 q.kind)) (c5 : w.cell? ⟨g, 5, none⟩ = some (.int .i64 q.key)) (c6 : w.cell? ⟨g, 6, none⟩ = some (.int .i64 q.ver)) (c7 : w.cell? ⟨g, 7, none⟩ = some (.slice bo q.data.length c')) :
  Calls Try.prog 72 #[.slice (some ⟨g, 0, none⟩) 2 cap, .int .i64 s] w fun e w' => e = .returned (.int .i64 (if sameB r q = true then 1 else 5)) ∧ Grow w w' := by
 have hlt := cell_lt c0
 have cell : ∀ {w' : World} (j : Nat), Grow w w' → w'.cell? ⟨g, j, none⟩ = w.cell? ⟨g, j, none⟩ := fun j hg => Below.cell hg (p := ⟨g, j, none⟩) hlt
 cases hs : sameB r q with
 | true =>
  have HS : Hid (sameB r q = true) := hs
  clear hs
  go_enter Try.func72, Try.ntmps72
  go_wp2_with fail
  refine wp_region_told [ex (.slice (some ⟨g, 0, none⟩) 2 cap), ex (.int .i64 2), ex (.bool true), ex (.bool true), ex (.slice (some ⟨g, 0, none⟩) 2 cap), ex (.pointer (some ⟨g, 0, none⟩)), ex (.agg #[.int .i64 r.kind, .int .i64 r.key, .int .i64 r.ver, .slice ao r.data.length c]), ex (.slice (some ⟨g, 0, none⟩) 2 cap), ex (.pointer (some ⟨g, 4, none⟩)), ex (.agg #[.int .i64 q.kind, .int .i64 q.key, .int .i64 q.ver, .slice bo q.data.length c']), ex (.bool true), ex (.bool true), ex (.bool true)] (by kernel_rfl) (by kernel_rfl) ⟨st_ex _, st_ex _, st_ex _, st_ex _, st_ex _, st_ex _, st_ex _, st_ex _, st_ex _, st_ex _, st_ex _, st_ex _, st_ex _, trivial⟩ ?_ ?_
  ·refine ⟨?_, ?_, ?_, ?_, ?_, ?_, ?_, ?_, ?_, ?_, ?_, ?_, ?_, trivial⟩
   ·refine need_plain rfl (fun a w' hg hin => ?_)
    have e : a.eval (.tmp 0) = .slice (some ⟨g, 0, none⟩) 2 cap := ins_ext hin 0 (by kernel_rfl)
    exact upon_move rfl e
   ·refine need_plain rfl (fun a w' hg hin => ?_)
    have e6 : a.eval (.tmp 6) = _ := ins_on hin 0 (by kernel_rfl)
    refine upon_val ?_ rfl
    clear hin hg
    obtain ⟨ek, ef⟩ := evs a
    generalize a.eval = ev at *
    go_simp
    all_goals first | omega | (intro _; omega) | go_arith
   ·refine need_plain rfl (fun a w' hg hin => ?_)
    have e7 : a.eval (.tmp 7) = _ := ins_on hin 1 (by kernel_rfl)
    refine upon_val ?_ rfl
    clear hin hg
    obtain ⟨ek, ef⟩ := evs a
    generalize a.eval = ev at *
    go_simp
    all_goals first | omega | (intro _; omega) | go_arith
   ·refine need_plain rfl (fun a w' hg hin => ?_)
    have e : a.eval (.tmp 8) = _ := ins_on hin 2 (by kernel_rfl)
    exact upon_move rfl e
   ·refine need_yes 3 true rfl (fun a w' hin => ins_on hin 3 (by kernel_rfl)) (fun a w' hg hin => ?_)
    have e : a.eval (.tmp 0) = .slice (some ⟨g, 0, none⟩) 2 cap := ins_ext hin 0 (by kernel_rfl)
    exact upon_move rfl e
   ·refine need_yes 3 true rfl (fun a w' hin => ins_on hin 3 (by kernel_rfl)) (fun a w' hg hin => ?_)
    have e10 : a.eval (.tmp 10) = _ := ins_on hin 4 (by kernel_rfl)
    refine upon_val ?_ rfl
    clear hin hg
    obtain ⟨ek, ef⟩ := evs a
    generalize a.eval = ev at *
    go_simp
    all_goals first | omega | (intro _; omega) | go_arith
   ·refine need_yes 3 true rfl (fun a w' hin => ins_on hin 3 (by kernel_rfl)) (fun a w' hg hin => ?_)
    have e11 : a.eval (.tmp 11) = _ := ins_on hin 5 (by kernel_rfl)
    have z0 := (cell 0 hg).trans c0
    have z1 := (cell 1 hg).trans c1
    have z2 := (cell 2 hg).trans c2
    have z3 := (cell 3 hg).trans c3
    refine upon_val ?_ rfl
    clear hin hg cell c0 c1 c2 c3 c4 c5 c6 c7
    obtain ⟨ek, ef⟩ := evs a
    generalize a.eval = ev at *
    go_simp
    all_goals first | omega | (intro _; omega) | go_arith
   ·refine need_yes 3 true rfl (fun a w' hin => ins_on hin 3 (by kernel_rfl)) (fun a w' hg hin => ?_)
    have e : a.eval (.tmp 0) = .slice (some ⟨g, 0, none⟩) 2 cap := ins_ext hin 0 (by kernel_rfl)
    exact upon_move rfl e
   ·refine need_yes 3 true rfl (fun a w' hin => ins_on hin 3 (by kernel_rfl)) (fun a w' hg hin => ?_)
    have e13 : a.eval (.tmp 13) = _ := ins_on hin 7 (by kernel_rfl)
    refine upon_val ?_ rfl
    clear hin hg
    obtain ⟨ek, ef⟩ := evs a
    generalize a.eval = ev at *
    go_simp
    all_goals first | omega | (intro _; omega) | go_arith
   ·refine need_yes 3 true rfl (fun a w' hin => ins_on hin 3 (by kernel_rfl)) (fun a w' hg hin => ?_)
    have e14 : a.eval (.tmp 14) = _ := ins_on hin 8 (by kernel_rfl)
    have z0 := (cell 4 hg).trans c4
    have z1 := (cell 5 hg).trans c5
    have z2 := (cell 6 hg).trans c6
    have z3 := (cell 7 hg).trans c7
    refine upon_val ?_ rfl
    clear hin hg cell c0 c1 c2 c3 c4 c5 c6 c7
    obtain ⟨ek, ef⟩ := evs a
    generalize a.eval = ev at *
    go_simp
    all_goals first | omega | (intro _; omega) | go_arith
   ·refine need_yes 3 true rfl (fun a w' hin => ins_on hin 3 (by kernel_rfl)) (fun a w' hg hin => ?_)
    have e12 : a.eval (.tmp 12) = _ := ins_on hin 6 (by kernel_rfl)
    have e15 : a.eval (.tmp 15) = _ := ins_on hin 9 (by kernel_rfl)
    refine upon_call (f := 85) (args := #[.agg #[.int .i64 r.kind, .int .i64 r.key, .int .i64 r.ver, .slice ao r.data.length c], .agg #[.int .i64 q.kind, .int .i64 q.key, .int .i64 q.ver, .slice bo q.data.length c']]) ?_ ((same_any _ _ _ _ _ _ r.data q.data _ _ w' (bytes_grow hr hg) (bytes_grow hq hg)).mono ?_)
    ·clear hin hg cell c0 c1 c2 c3 c4 c5 c6 c7
     obtain ⟨ek, ef⟩ := evs a
     generalize a.eval = ev at *
     go_simp
     all_goals first | omega | (intro _; omega) | go_arith
    ·rintro e w2 ⟨rfl, g2⟩
     exact ⟨_, rfl, g2, by rw [← HS.out]; rfl⟩
   ·refine need_plain rfl (fun a w' hg hin => ?_)
    have ec : a.eval (.tmp 9) = _ := ins_on hin 3 (by kernel_rfl)
    have e : a.eval (.tmp 16) = _ := ins_on hin 10 (by kernel_rfl)
    exact upon_pick rfl ec e
   ·refine need_plain rfl (fun a w' hg hin => ?_)
    have e : a.eval (.tmp 17) = _ := ins_on hin 11 (by kernel_rfl)
    exact upon_assign rfl e
  ·intro vs w' hg ht
   obtain ⟨q6, q7, q8, q9, q10, q11, q12, q13, q14, q15, q16, q17, q5, -⟩ := ht
   have r6 : vs 0 = .slice (some ⟨g, 0, none⟩) 2 cap := q6
   have r7 : vs 1 = .int .i64 2 := q7
   have r8 : vs 2 = .bool true := q8
   have r9 : vs 3 = .bool true := q9
   have r10 : vs 4 = .slice (some ⟨g, 0, none⟩) 2 cap := q10
   have r11 : vs 5 = .pointer (some ⟨g, 0, none⟩) := q11
   have r12 : vs 6 = .agg #[.int .i64 r.kind, .int .i64 r.key, .int .i64 r.ver, .slice ao r.data.length c] := q12
   have r13 : vs 7 = .slice (some ⟨g, 0, none⟩) 2 cap := q13
   have r14 : vs 8 = .pointer (some ⟨g, 4, none⟩) := q14
   have r15 : vs 9 = .agg #[.int .i64 q.kind, .int .i64 q.key, .int .i64 q.ver, .slice bo q.data.length c'] := q15
   have r16 : vs 10 = .bool true := q16
   have r17 : vs 11 = .bool true := q17
   have r5 : vs 12 = .bool true := q5
   clear q6 q7 q8 q9 q10 q11 q12 q13 q14 q15 q16 q17 q5
   simp only [putAll, Act.put, List.setIfInBounds_toArray, List.set_cons_zero, List.set_cons_succ, r6, r7, r8, r9, r10, r11, r12, r13, r14, r15, r16, r17, r5]
   clear r6 r7 r8 r9 r10 r11 r12 r13 r14 r15 r16 r17 r5
   clear cell c0 c1 c2 c3 c4 c5 c6 c7
   go_wp2_with fail
   go_ret
   exact ⟨rfl, hg⟩
 | false =>
  have HS : Hid (sameB r q = false) := hs
  clear hs
  go_enter Try.func72, Try.ntmps72
  go_wp2_with fail
  refine wp_region_told [ex (.slice (some ⟨g, 0, none⟩) 2 cap), ex (.int .i64 2), ex (.bool true), ex (.bool true), ex (.slice (some ⟨g, 0, none⟩) 2 cap), ex (.pointer (some ⟨g, 0, none⟩)), ex (.agg #[.int .i64 r.kind, .int .i64 r.key, .int .i64 r.ver, .slice ao r.data.length c]), ex (.slice (some ⟨g, 0, none⟩) 2 cap), ex (.pointer (some ⟨g, 4, none⟩)), ex (.agg #[.int .i64 q.kind, .int .i64 q.key, .int .i64 q.ver, .slice bo q.data.length c']), ex (.bool false), ex (.bool false), ex (.bool false)] (by kernel_rfl) (by kernel_rfl) ⟨st_ex _, st_ex _, st_ex _, st_ex _, st_ex _, st_ex _, st_ex _, st_ex _, st_ex _, st_ex _, st_ex _, st_ex _, st_ex _, trivial⟩ ?_ ?_
  ·refine ⟨?_, ?_, ?_, ?_, ?_, ?_, ?_, ?_, ?_, ?_, ?_, ?_, ?_, trivial⟩
   ·refine need_plain rfl (fun a w' hg hin => ?_)
    have e : a.eval (.tmp 0) = .slice (some ⟨g, 0, none⟩) 2 cap := ins_ext hin 0 (by kernel_rfl)
    exact upon_move rfl e
   ·refine need_plain rfl (fun a w' hg hin => ?_)
    have e6 : a.eval (.tmp 6) = _ := ins_on hin 0 (by kernel_rfl)
    refine upon_val ?_ rfl
    clear hin hg
    obtain ⟨ek, ef⟩ := evs a
    generalize a.eval = ev at *
    go_simp
    all_goals first | omega | (intro _; omega) | go_arith
   ·refine need_plain rfl (fun a w' hg hin => ?_)
    have e7 : a.eval (.tmp 7) = _ := ins_on hin 1 (by kernel_rfl)
    refine upon_val ?_ rfl
    clear hin hg
    obtain ⟨ek, ef⟩ := evs a
    generalize a.eval = ev at *
    go_simp
    all_goals first | omega | (intro _; omega) | go_arith
   ·refine need_plain rfl (fun a w' hg hin => ?_)
    have e : a.eval (.tmp 8) = _ := ins_on hin 2 (by kernel_rfl)
    exact upon_move rfl e
   ·refine need_yes 3 true rfl (fun a w' hin => ins_on hin 3 (by kernel_rfl)) (fun a w' hg hin => ?_)
    have e : a.eval (.tmp 0) = .slice (some ⟨g, 0, none⟩) 2 cap := ins_ext hin 0 (by kernel_rfl)
    exact upon_move rfl e
   ·refine need_yes 3 true rfl (fun a w' hin => ins_on hin 3 (by kernel_rfl)) (fun a w' hg hin => ?_)
    have e10 : a.eval (.tmp 10) = _ := ins_on hin 4 (by kernel_rfl)
    refine upon_val ?_ rfl
    clear hin hg
    obtain ⟨ek, ef⟩ := evs a
    generalize a.eval = ev at *
    go_simp
    all_goals first | omega | (intro _; omega) | go_arith
   ·refine need_yes 3 true rfl (fun a w' hin => ins_on hin 3 (by kernel_rfl)) (fun a w' hg hin => ?_)
    have e11 : a.eval (.tmp 11) = _ := ins_on hin 5 (by kernel_rfl)
    have z0 := (cell 0 hg).trans c0
    have z1 := (cell 1 hg).trans c1
    have z2 := (cell 2 hg).trans c2
    have z3 := (cell 3 hg).trans c3
    refine upon_val ?_ rfl
    clear hin hg cell c0 c1 c2 c3 c4 c5 c6 c7
    obtain ⟨ek, ef⟩ := evs a
    generalize a.eval = ev at *
    go_simp
    all_goals first | omega | (intro _; omega) | go_arith
   ·refine need_yes 3 true rfl (fun a w' hin => ins_on hin 3 (by kernel_rfl)) (fun a w' hg hin => ?_)
    have e : a.eval (.tmp 0) = .slice (some ⟨g, 0, none⟩) 2 cap := ins_ext hin 0 (by kernel_rfl)
    exact upon_move rfl e
   ·refine need_yes 3 true rfl (fun a w' hin => ins_on hin 3 (by kernel_rfl)) (fun a w' hg hin => ?_)
    have e13 : a.eval (.tmp 13) = _ := ins_on hin 7 (by kernel_rfl)
    refine upon_val ?_ rfl
    clear hin hg
    obtain ⟨ek, ef⟩ := evs a
    generalize a.eval = ev at *
    go_simp
    all_goals first | omega | (intro _; omega) | go_arith
   ·refine need_yes 3 true rfl (fun a w' hin => ins_on hin 3 (by kernel_rfl)) (fun a w' hg hin => ?_)
    have e14 : a.eval (.tmp 14) = _ := ins_on hin 8 (by kernel_rfl)
    have z0 := (cell 4 hg).trans c4
    have z1 := (cell 5 hg).trans c5
    have z2 := (cell 6 hg).trans c6
    have z3 := (cell 7 hg).trans c7
    refine upon_val ?_ rfl
    clear hin hg cell c0 c1 c2 c3 c4 c5 c6 c7
    obtain ⟨ek, ef⟩ := evs a
    generalize a.eval = ev at *
    go_simp
    all_goals first | omega | (intro _; omega) | go_arith
   ·refine need_yes 3 true rfl (fun a w' hin => ins_on hin 3 (by kernel_rfl)) (fun a w' hg hin => ?_)
    have e12 : a.eval (.tmp 12) = _ := ins_on hin 6 (by kernel_rfl)
    have e15 : a.eval (.tmp 15) = _ := ins_on hin 9 (by kernel_rfl)
    refine upon_call (f := 85) (args := #[.agg #[.int .i64 r.kind, .int .i64 r.key, .int .i64 r.ver, .slice ao r.data.length c], .agg #[.int .i64 q.kind, .int .i64 q.key, .int .i64 q.ver, .slice bo q.data.length c']]) ?_ ((same_any _ _ _ _ _ _ r.data q.data _ _ w' (bytes_grow hr hg) (bytes_grow hq hg)).mono ?_)
    ·clear hin hg cell c0 c1 c2 c3 c4 c5 c6 c7
     obtain ⟨ek, ef⟩ := evs a
     generalize a.eval = ev at *
     go_simp
     all_goals first | omega | (intro _; omega) | go_arith
    ·rintro e w2 ⟨rfl, g2⟩
     exact ⟨_, rfl, g2, by rw [← HS.out]; rfl⟩
   ·refine need_plain rfl (fun a w' hg hin => ?_)
    have ec : a.eval (.tmp 9) = _ := ins_on hin 3 (by kernel_rfl)
    have e : a.eval (.tmp 16) = _ := ins_on hin 10 (by kernel_rfl)
    exact upon_pick rfl ec e
   ·refine need_plain rfl (fun a w' hg hin => ?_)
    have e : a.eval (.tmp 17) = _ := ins_on hin 11 (by kernel_rfl)
    exact upon_assign rfl e
  ·intro vs w' hg ht
   obtain ⟨q6, q7, q8, q9, q10, q11, q12, q13, q14, q15, q16, q17, q5, -⟩ := ht
   have r6 : vs 0 = .slice (some ⟨g, 0, none⟩) 2 cap := q6
   have r7 : vs 1 = .int .i64 2 := q7
   have r8 : vs 2 = .bool true := q8
   have r9 : vs 3 = .bool true := q9
   have r10 : vs 4 = .slice (some ⟨g, 0, none⟩) 2 cap := q10
   have r11 : vs 5 = .pointer (some ⟨g, 0, none⟩) := q11
   have r12 : vs 6 = .agg #[.int .i64 r.kind, .int .i64 r.key, .int .i64 r.ver, .slice ao r.data.length c] := q12
   have r13 : vs 7 = .slice (some ⟨g, 0, none⟩) 2 cap := q13
   have r14 : vs 8 = .pointer (some ⟨g, 4, none⟩) := q14
   have r15 : vs 9 = .agg #[.int .i64 q.kind, .int .i64 q.key, .int .i64 q.ver, .slice bo q.data.length c'] := q15
   have r16 : vs 10 = .bool false := q16
   have r17 : vs 11 = .bool false := q17
   have r5 : vs 12 = .bool false := q5
   clear q6 q7 q8 q9 q10 q11 q12 q13 q14 q15 q16 q17 q5
   simp only [putAll, Act.put, List.setIfInBounds_toArray, List.set_cons_zero, List.set_cons_succ, r6, r7, r8, r9, r10, r11, r12, r13, r14, r15, r16, r17, r5]
   clear r6 r7 r8 r9 r10 r11 r12 r13 r14 r15 r16 r17 r5
   clear cell c0 c1 c2 c3 c4 c5 c6 c7
   go_wp2_with fail
   go_ret
   exact ⟨rfl, hg⟩

theorem phow_any (rs : List Rec) (us : List Value) (s : Int) (B : Nat) (v : Value) (w : World) (h : OwnRs B v rs us w) (hl : rs.length ≤ 2) :
  Calls Try.prog 72 #[v, .int .i64 s] w fun e w' => e = .returned (.int .i64 (howN rs s)) ∧ Grow w w' := by
 match rs, h, hl with
 | [], h, _ =>
  obtain ⟨ao, cap, rfl⟩ := h.form
  exact phow_none s ao cap w
 | [r], h, _ =>
  obtain ⟨ao, cap, rfl⟩ := h.form
  exact phow_one s ao cap w
 | [r, q], h, _ =>
  obtain ⟨g, cap, ao, c, rfl, c0, c1, c2, c3, hu⟩ := h.first
  obtain ⟨bo, c', c4, c5, c6, c7, hu'⟩ := h.second
  obtain ⟨x, hx, hox⟩ := h.each 0 (by simp)
  obtain ⟨y, hy, hoy⟩ := h.each 1 (by simp)
  rw [hu] at hx
  rw [hu'] at hy
  cases hx
  cases hy
  exact phow_two r q s g cap c c' ao bo w (bytes_own hox) (bytes_own hoy) c0 c1 c2 c3 c4 c5 c6 c7
 | _ :: _ :: _ :: _, _, hl => exact absurd hl (by simp)

set_option maxHeartbeats 1000000 in
theorem pfirst_none (ao : Option Addr) (cap : Nat) (w : World) :
  Calls Try.prog 73 #[.slice ao 0 cap] w fun e w' => e = .returned (.agg #[.int .i64 1, .int .i64 0, .int .i64 0, .slice none 0 0]) ∧ Grow w w' := by
 have g1 := grow_alloc w (.cells #[.int .i64 1, .int .i64 0, .int .i64 0, .slice none 0 0] 33)
 go_enter Try.func73, Try.ntmps73
 go_wp2_with fail
 refine bodyPost_ret (v := .agg #[.int .i64 1, .int .i64 0, .int .i64 0, .slice none 0 0]) (by simp [results, Try.results73, go_sem]) rfl ⟨rfl, ?_⟩
 exact g1
set_option maxHeartbeats 1000000 in
theorem pfirst_some (r : Rec) (g n cap c : Nat) (ao : Option Addr) (w : World) (hn : 0 < n)
  (c0 : w.cell? ⟨g, 0, none⟩ = some (.int .i64 r.kind)) (c1 : w.cell? ⟨g, 1, none⟩ = some (.int .i64 r.key)) (c2 : w.cell? ⟨g, 2, none⟩ = some (.int .i64 r.ver)) (c3 : w.cell? ⟨g, 3, none⟩ = some (.slice ao r.data.length c)) :
  Calls Try.prog 73 #[.slice (some ⟨g, 0, none⟩) n cap] w fun e w' => e = .returned (.agg #[.int .i64 r.kind, .int .i64 r.key, .int .i64 r.ver, .slice ao r.data.length c]) ∧ Grow w w' := by
 have hlt := cell_lt c0
 have g0 := grow_alloc w (.cells #[.int .i64 0, .int .i64 0, .int .i64 0, .slice none 0 0] 33)
 have z0 := (Below.cell g0 (p := ⟨g, 0, none⟩) hlt).trans c0
 have z1 := (Below.cell g0 (p := ⟨g, 1, none⟩) hlt).trans c1
 have z2 := (Below.cell g0 (p := ⟨g, 2, none⟩) hlt).trans c2
 have z3 := (Below.cell g0 (p := ⟨g, 3, none⟩) hlt).trans c3
 have d0 : ((n : Int) == 0) = false := beq_false' (by omega)
 have g1 := grow_alloc w (.cells #[.int .i64 r.kind, .int .i64 r.key, .int .i64 r.ver, .slice ao r.data.length c] 33)
 clear c0 c1 c2 c3 hlt
 go_enter Try.func73, Try.ntmps73
 go_wp2_with fail
 refine bodyPost_ret (v := .agg #[.int .i64 r.kind, .int .i64 r.key, .int .i64 r.ver, .slice ao r.data.length c]) (by simp [results, Try.results73, go_sem]) rfl ⟨rfl, ?_⟩
 exact g1
/-- The first of them, or a free one: its value, whatever comes. -/
theorem pfirst_any (rs : List Rec) (us : List Value) (B : Nat) (v : Value) (w : World) (h : OwnRs B v rs us w) :
  ∃ ao c, (∀ w', OwnRs B v rs us w' → w'.ownsRow B 5 1 (.slice ao (rs.headD Rec.free).data.length c) (rs.headD Rec.free).data.length ((rs.headD Rec.free).data.map bv)) ∧
   ∀ w', OwnRs B v rs us w' → Calls Try.prog 73 #[v] w' fun e w'' => e = .returned (.agg #[.int .i64 (rs.headD Rec.free).kind, .int .i64 (rs.headD Rec.free).key, .int .i64 (rs.headD Rec.free).ver, .slice ao (rs.headD Rec.free).data.length c]) ∧ Grow w' w'' := by
 cases rs with
 | nil =>
  obtain ⟨ao, cap, rfl⟩ := h.form
  exact ⟨none, 0, fun w' _ => World.ownsRow_nil _ _ _ _, fun w' _ => pfirst_none ao cap w'⟩
 | cons r rs =>
  obtain ⟨g, cap, ao, c, rfl, -, -, -, -, hu⟩ := h.first
  refine ⟨ao, c, fun w' h' => ?_, fun w' h' => ?_⟩
  ·obtain ⟨u, hu2, ho⟩ := h'.each 0 (by simp)
   rw [hu] at hu2
   cases hu2
   exact ho
  ·obtain ⟨g', cap', ao', c', hv, c0, c1, c2, c3, hu2⟩ := h'.first
   cases hv
   rw [hu] at hu2
   cases hu2
   exact pfirst_some r g _ cap c ao w' (by omega) c0 c1 c2 c3
end Go.Proofs.Ytgaecpdokgklpab
