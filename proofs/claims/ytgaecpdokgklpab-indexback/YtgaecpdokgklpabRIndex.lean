/-
  What the document's RightIndex tells of entries.
  Condition: they lie in memory, at most a million of them.
-/
import Derived.Test.YtgaecpdokgklpabRScan
import Derived.Test.YtgaecpdokgklpabWrong
namespace Go.Proofs.Ytgaecpdokgklpab
set_option maxRecDepth 100000
open Go.RowKit
open Go.Proofs.Ytgaecpdokgklpab.Plain Go.Proofs.Ytgaecpdokgklpab.Reg

/-- Behind these, this one is right: rising, of a right record, in a pair that none of them has. -/
def lastLess (pre : List Ent) (e : Ent) : Bool := match pre.getLast? with | none => true | some x => lessB x e
def okE (pre : List Ent) (e : Ent) : Bool := decide (wrong e.rc = 0 ∧ e.rc.kind ≠ 1 ∧ 0 ≤ e.pair ∧ e.pair ≤ 1000) && lastLess pre e && pre.all (fun x => decide (x.pair ≠ e.pair))
def rightFrom (pre : List Ent) : List Ent → Bool
 | [] => true
 | e :: l => okE pre e && rightFrom (pre ++ [e]) l
def rightI (l : List Ent) : Bool := rightFrom [] l
theorem rightFrom_at (l : List Ent) (k : Nat) (h : k < l.length) : rightFrom (l.take k) (l.drop k) = (okE (l.take k) l[k] && rightFrom (l.take (k + 1)) (l.drop (k + 1))) := by
 rw [List.drop_eq_getElem_cons h, List.take_succ_eq_append_getElem h]; rfl


set_option maxHeartbeats 8000000 in
theorem rrightI_any (S : Nat → Prop) (l : List Ent) (v : Value) (w : World) (hs : EntsS S w v l) (hm : l.length ≤ 140737488355328) :
  Calls Try.prog 11 #[v] w fun r w' => r = .returned (.bool (rightI l)) ∧ Grow w w' := by
 obtain ⟨ao, cp, rfl⟩ := hs.form
 obtain ⟨R, hR⟩ : ∃ R, R = rightI l := ⟨_, rfl⟩
 rw [← hR]
 have HR0 : Hid (R = rightFrom (l.take 0) (l.drop 0)) := by show R = _; rw [hR]; rfl
 clear hR
 go_enter Try.func11, Try.ntmps11
 go_wp2_with fail
 go_loopw [9] (fun i wr => ∃ k : Nat, k ≤ l.length ∧ i = .int .i64 k ∧ Hid (R = rightFrom (l.take k) (l.drop k)) ∧ Grow w wr) (fun i _ => l.length - (intOf i).toNat)
 case atStart => exact ⟨0, Nat.zero_le _, rfl, HR0, Grow.refl _⟩
 case round =>
  clear HR0
  obtain ⟨k, hk, rfl, HK, hgr⟩ := hrel
  by_cases hlt : k < l.length
  ·obtain ⟨b, off, a1, c1, hv1, q0, q1, q2, q3, q4, hu⟩ := ents_at (hs.grow hgr) k hlt
   cases hv1
   have HE : Hid (R = (okE (l.take k) l[k] && rightFrom (l.take (k + 1)) (l.drop (k + 1)))) := HK.out.trans (rightFrom_at l k hlt)
   have HSL := hs.grow hgr
   generalize l[k] = e at *
   have g1 := grow_alloc wr (.cells #[.int .i64 e.rc.kind, .int .i64 e.rc.key, .int .i64 e.rc.ver, .slice a1 e.rc.data.length c1, .int .i64 e.pair] 37)
   have hX1 := heap_new wr #[.int .i64 e.rc.kind, .int .i64 e.rc.key, .int .i64 e.rc.ver, .slice a1 e.rc.data.length c1, .int .i64 e.pair] 37
   have hu1 := hu.grow g1
   obtain ⟨W, hW⟩ : ∃ W, W = wrong e.rc := ⟨_, rfl⟩
   have HW : Hid (W = wrong e.rc) := hW
   clear hW HK
   have HX : Hid (okE (l.take k) e = false → R = false) := fun h => by rw [HE.out, h]; rfl
   by_cases hw : W = 0
   ·have d0 : (W != 0) = false := by simp [hw]
    have HW0 : Hid (wrong e.rc = 0) := by show _ = _; rw [← HW.out]; exact hw
    clear hw
    by_cases hk1 : e.rc.kind = 1
    ·have hRf : R = false := HX.out (by unfold okE; simp [hk1])
     subst hRf
     have d1 : (e.rc.kind == 1) = true := by simp [hk1]
     clear HX HE hk1
     go_wp2_with fail
     clear q0 q1 q2 q3 q4 HSL
     generalize World.alloc wr _ = W1 at *
     generalize wr.heap.size = g at *
     refine wp_region_told [ex (.pointer (some ⟨g, 0, none⟩)), ex (.agg #[.int .i64 e.rc.kind, .int .i64 e.rc.key, .int .i64 e.rc.ver, .slice a1 e.rc.data.length c1]), ex (.int .i64 W), ex (.bool false), ex (.bool false), ex (.pointer (some ⟨g, 0, none⟩)), ex (.pointer (some ⟨g, 0, none⟩)), ex (.int .i64 e.rc.kind), ex (.bool true), ex (.bool true), ex (.bool true), ex (undef), ex (undef), ex (undef), ex (.bool true), ex (.bool true), ex (undef), ex (undef), ex (undef), ex (.bool true), ex (.bool true), ex (undef), ex (undef), ex (undef), ex (undef), ex (undef), ex (undef), ex (undef), ex (undef), ex (undef), ex (undef), ex (undef), ex (undef), ex (.bool true)] (by kernel_rfl) (by kernel_rfl) ⟨st_ex _, st_ex _, st_ex _, st_ex _, st_ex _, st_ex _, st_ex _, st_ex _, st_ex _, st_ex _, st_ex _, st_ex _, st_ex _, st_ex _, st_ex _, st_ex _, st_ex _, st_ex _, st_ex _, st_ex _, st_ex _, st_ex _, st_ex _, st_ex _, st_ex _, st_ex _, st_ex _, st_ex _, st_ex _, st_ex _, st_ex _, st_ex _, st_ex _, st_ex _, trivial⟩ ?_ ?_
     ·refine ⟨?_, ?_, ?_, ?_, ?_, ?_, ?_, ?_, ?_, ?_, ?_, ?_, ?_, ?_, ?_, ?_, ?_, ?_, ?_, ?_, ?_, ?_, ?_, ?_, ?_, ?_, ?_, ?_, ?_, ?_, ?_, ?_, ?_, ?_, trivial⟩
      ·refine need_plain rfl (fun a w' hg hin => ?_)
       have e4 : a.eval (.tmp 4) = .pointer (some ⟨g, 0, none⟩) := ins_ext hin 4 (by kernel_rfl)
       refine upon_val ?_ rfl
       clear hin hg
       obtain ⟨ek, ef⟩ := evs a
       generalize a.eval = ev at *
       go_simp
       all_goals first | omega | (intro _; omega) | go_arith
      ·refine need_plain rfl (fun a w' hg hin => ?_)
       have e14 : a.eval (.tmp 14) = _ := ins_on hin 0 (by kernel_rfl)
       have hX := (hg.block _ (heap_lt hX1)).trans hX1
       obtain ⟨y0, y1, y2, y3⟩ := box4 hX rfl rfl rfl rfl
       refine upon_val ?_ rfl
       clear hin hg hX
       obtain ⟨ek, ef⟩ := evs a
       generalize a.eval = ev at *
       go_simp
       all_goals first | omega | (intro _; omega) | go_arith
      ·refine need_plain rfl (fun a w' hg hin => ?_)
       have e15 : a.eval (.tmp 15) = _ := ins_on hin 1 (by kernel_rfl)
       refine upon_call (f := 40) (args := #[.agg #[.int .i64 e.rc.kind, .int .i64 e.rc.key, .int .i64 e.rc.ver, .slice a1 e.rc.data.length c1]]) ?_ ((rwrong_any _ _ _ e.rc.data _ w' (bytes_grow hu1.p hg)).mono ?_)
       ·clear hin hg
        obtain ⟨ek, ef⟩ := evs a
        generalize a.eval = ev at *
        go_simp
        all_goals first | omega | (intro _; omega) | go_arith
       ·rintro e w2 ⟨rfl, g2⟩
        exact ⟨_, rfl, g2, by rw [HW.out]; rfl⟩
      ·refine need_plain rfl (fun a w' hg hin => ?_)
       have e16 : a.eval (.tmp 16) = _ := ins_on hin 2 (by kernel_rfl)
       refine upon_val ?_ rfl
       clear hin hg
       obtain ⟨ek, ef⟩ := evs a
       generalize a.eval = ev at *
       go_simp
       all_goals first | omega | (intro _; omega) | go_arith
      ·refine need_plain rfl (fun a w' hg hin => ?_)
       have e : a.eval (.tmp 17) = _ := ins_on hin 3 (by kernel_rfl)
       exact upon_move rfl e
      ·refine need_yes 4 false rfl (fun a w' hin => ins_on hin 4 (by kernel_rfl)) (fun a w' hg hin => ?_)
       have e4 : a.eval (.tmp 4) = .pointer (some ⟨g, 0, none⟩) := ins_ext hin 4 (by kernel_rfl)
       refine upon_val ?_ rfl
       clear hin hg
       obtain ⟨ek, ef⟩ := evs a
       generalize a.eval = ev at *
       go_simp
       all_goals first | omega | (intro _; omega) | go_arith
      ·refine need_yes 4 false rfl (fun a w' hin => ins_on hin 4 (by kernel_rfl)) (fun a w' hg hin => ?_)
       have e19 : a.eval (.tmp 19) = _ := ins_on hin 5 (by kernel_rfl)
       refine upon_val ?_ rfl
       clear hin hg
       obtain ⟨ek, ef⟩ := evs a
       generalize a.eval = ev at *
       go_simp
       all_goals first | omega | (intro _; omega) | go_arith
      ·refine need_yes 4 false rfl (fun a w' hin => ins_on hin 4 (by kernel_rfl)) (fun a w' hg hin => ?_)
       have e20 : a.eval (.tmp 20) = _ := ins_on hin 6 (by kernel_rfl)
       have hX := (hg.block _ (heap_lt hX1)).trans hX1
       have y0 := box_cell hX 0 _ rfl
       refine upon_val ?_ rfl
       clear hin hg hX
       obtain ⟨ek, ef⟩ := evs a
       generalize a.eval = ev at *
       go_simp
       all_goals first | omega | (intro _; omega) | go_arith
      ·refine need_yes 4 false rfl (fun a w' hin => ins_on hin 4 (by kernel_rfl)) (fun a w' hg hin => ?_)
       have e21 : a.eval (.tmp 21) = _ := ins_on hin 7 (by kernel_rfl)
       refine upon_val ?_ rfl
       clear hin hg
       obtain ⟨ek, ef⟩ := evs a
       generalize a.eval = ev at *
       go_simp
       all_goals first | omega | (intro _; omega) | go_arith
      ·refine need_plain rfl (fun a w' hg hin => ?_)
       have ec : a.eval (.tmp 18) = _ := ins_on hin 4 (by kernel_rfl)
       have e : a.eval (.tmp 22) = _ := ins_on hin 8 (by kernel_rfl)
       exact upon_pick rfl ec e
      ·refine need_plain rfl (fun a w' hg hin => ?_)
       have e : a.eval (.tmp 23) = _ := ins_on hin 9 (by kernel_rfl)
       exact upon_move rfl e
      ·refine need_no 10 false true rfl (by decide) (fun a w' hin => ins_on hin 10 (by kernel_rfl)) (fun _ => rfl)
      ·refine need_no 10 false true rfl (by decide) (fun a w' hin => ins_on hin 10 (by kernel_rfl)) (fun _ => rfl)
      ·refine need_no 10 false true rfl (by decide) (fun a w' hin => ins_on hin 10 (by kernel_rfl)) (fun _ => rfl)
      ·refine need_plain rfl (fun a w' hg hin => ?_)
       have ec : a.eval (.tmp 24) = _ := ins_on hin 10 (by kernel_rfl)
       exact upon_pick rfl ec rfl
      ·refine need_plain rfl (fun a w' hg hin => ?_)
       have e : a.eval (.tmp 28) = _ := ins_on hin 14 (by kernel_rfl)
       exact upon_move rfl e
      ·refine need_no 15 false true rfl (by decide) (fun a w' hin => ins_on hin 15 (by kernel_rfl)) (fun _ => rfl)
      ·refine need_no 15 false true rfl (by decide) (fun a w' hin => ins_on hin 15 (by kernel_rfl)) (fun _ => rfl)
      ·refine need_no 15 false true rfl (by decide) (fun a w' hin => ins_on hin 15 (by kernel_rfl)) (fun _ => rfl)
      ·refine need_plain rfl (fun a w' hg hin => ?_)
       have ec : a.eval (.tmp 29) = _ := ins_on hin 15 (by kernel_rfl)
       exact upon_pick rfl ec rfl
      ·refine need_plain rfl (fun a w' hg hin => ?_)
       have e : a.eval (.tmp 33) = _ := ins_on hin 19 (by kernel_rfl)
       exact upon_move rfl e
      ·refine need_no 20 false true rfl (by decide) (fun a w' hin => ins_on hin 20 (by kernel_rfl)) (fun _ => rfl)
      ·refine need_no 20 false true rfl (by decide) (fun a w' hin => ins_on hin 20 (by kernel_rfl)) (fun _ => rfl)
      ·refine need_no 20 false true rfl (by decide) (fun a w' hin => ins_on hin 20 (by kernel_rfl)) (fun _ => rfl)
      ·refine need_undef 23 true rfl (fun a w' hin => ins_on hin 23 (by kernel_rfl)) (fun _ => rfl)
      ·refine need_undef 23 true rfl (fun a w' hin => ins_on hin 23 (by kernel_rfl)) (fun _ => rfl)
      ·refine need_undef 23 true rfl (fun a w' hin => ins_on hin 23 (by kernel_rfl)) (fun _ => rfl)
      ·refine need_undef 23 true rfl (fun a w' hin => ins_on hin 23 (by kernel_rfl)) (fun _ => rfl)
      ·refine need_undef 23 true rfl (fun a w' hin => ins_on hin 23 (by kernel_rfl)) (fun _ => rfl)
      ·refine need_undef 23 true rfl (fun a w' hin => ins_on hin 23 (by kernel_rfl)) (fun _ => rfl)
      ·refine need_undef 23 true rfl (fun a w' hin => ins_on hin 23 (by kernel_rfl)) (fun _ => rfl)
      ·refine need_undef 23 true rfl (fun a w' hin => ins_on hin 23 (by kernel_rfl)) (fun _ => rfl)
      ·refine need_no 20 false true rfl (by decide) (fun a w' hin => ins_on hin 20 (by kernel_rfl)) (fun _ => rfl)
      ·refine need_plain rfl (fun a w' hg hin => ?_)
       have ec : a.eval (.tmp 34) = _ := ins_on hin 20 (by kernel_rfl)
       exact upon_pick rfl ec rfl
     ·intro vs w' hg ht
      obtain ⟨q14, q15, q16, q17, q18, q19, q20, q21, q22, q23, q24, q25, q26, q27, q28, q29, q30, q31, q32, q33, q34, q35, q36, q37, q38, q39, q40, q41, q42, q43, q44, q45, q46, q47, -⟩ := ht
      have r14 : vs 0 = .pointer (some ⟨g, 0, none⟩) := q14
      have r15 : vs 1 = .agg #[.int .i64 e.rc.kind, .int .i64 e.rc.key, .int .i64 e.rc.ver, .slice a1 e.rc.data.length c1] := q15
      have r16 : vs 2 = .int .i64 W := q16
      have r17 : vs 3 = .bool false := q17
      have r18 : vs 4 = .bool false := q18
      have r19 : vs 5 = .pointer (some ⟨g, 0, none⟩) := q19
      have r20 : vs 6 = .pointer (some ⟨g, 0, none⟩) := q20
      have r21 : vs 7 = .int .i64 e.rc.kind := q21
      have r22 : vs 8 = .bool true := q22
      have r23 : vs 9 = .bool true := q23
      have r24 : vs 10 = .bool true := q24
      have r25 : vs 11 = undef := q25
      have r26 : vs 12 = undef := q26
      have r27 : vs 13 = undef := q27
      have r28 : vs 14 = .bool true := q28
      have r29 : vs 15 = .bool true := q29
      have r30 : vs 16 = undef := q30
      have r31 : vs 17 = undef := q31
      have r32 : vs 18 = undef := q32
      have r33 : vs 19 = .bool true := q33
      have r34 : vs 20 = .bool true := q34
      have r35 : vs 21 = undef := q35
      have r36 : vs 22 = undef := q36
      have r37 : vs 23 = undef := q37
      have r38 : vs 24 = undef := q38
      have r39 : vs 25 = undef := q39
      have r40 : vs 26 = undef := q40
      have r41 : vs 27 = undef := q41
      have r42 : vs 28 = undef := q42
      have r43 : vs 29 = undef := q43
      have r44 : vs 30 = undef := q44
      have r45 : vs 31 = undef := q45
      have r46 : vs 32 = undef := q46
      have r47 : vs 33 = .bool true := q47
      clear q14 q15 q16 q17 q18 q19 q20 q21 q22 q23 q24 q25 q26 q27 q28 q29 q30 q31 q32 q33 q34 q35 q36 q37 q38 q39 q40 q41 q42 q43 q44 q45 q46 q47
      simp only [putAll, Act.put, List.setIfInBounds_toArray, List.set_cons_zero, List.set_cons_succ, r14, r15, r16, r17, r18, r19, r20, r21, r22, r23, r24, r25, r26, r27, r28, r29, r30, r31, r32, r33, r34, r35, r36, r37, r38, r39, r40, r41, r42, r43, r44, r45, r46, r47]
      clear r14 r15 r16 r17 r18 r19 r20 r21 r22 r23 r24 r25 r26 r27 r28 r29 r30 r31 r32 r33 r34 r35 r36 r37 r38 r39 r40 r41 r42 r43 r44 r45 r46 r47
      have gr2 := hgr.trans (g1.trans hg)
      clear hg hX1 hu1
      go_wp2_with fail
      go_ret
      exact ⟨rfl, gr2⟩
    ·have d1 : (e.rc.kind == 1) = false := by simp [hk1]
     by_cases hp0 : e.pair < 0
     ·have hRf : R = false := HX.out (by unfold okE; rw [decide_eq_false (by omega)]; rfl)
      subst hRf
      clear HX HE hk1
      go_wp2_with fail
      clear q0 q1 q2 q3 q4 HSL
      generalize World.alloc wr _ = W1 at *
      generalize wr.heap.size = g at *
      refine wp_region_told [ex (.pointer (some ⟨g, 0, none⟩)), ex (.agg #[.int .i64 e.rc.kind, .int .i64 e.rc.key, .int .i64 e.rc.ver, .slice a1 e.rc.data.length c1]), ex (.int .i64 W), ex (.bool false), ex (.bool false), ex (.pointer (some ⟨g, 0, none⟩)), ex (.pointer (some ⟨g, 0, none⟩)), ex (.int .i64 e.rc.kind), ex (.bool false), ex (.bool false), ex (.bool false), ex (.pointer (some ⟨g, 4, none⟩)), ex (.int .i64 e.pair), ex (.bool true), ex (.bool true), ex (.bool true), ex (undef), ex (undef), ex (undef), ex (.bool true), ex (.bool true), ex (undef), ex (undef), ex (undef), ex (undef), ex (undef), ex (undef), ex (undef), ex (undef), ex (undef), ex (undef), ex (undef), ex (undef), ex (.bool true)] (by kernel_rfl) (by kernel_rfl) ⟨st_ex _, st_ex _, st_ex _, st_ex _, st_ex _, st_ex _, st_ex _, st_ex _, st_ex _, st_ex _, st_ex _, st_ex _, st_ex _, st_ex _, st_ex _, st_ex _, st_ex _, st_ex _, st_ex _, st_ex _, st_ex _, st_ex _, st_ex _, st_ex _, st_ex _, st_ex _, st_ex _, st_ex _, st_ex _, st_ex _, st_ex _, st_ex _, st_ex _, st_ex _, trivial⟩ ?_ ?_
      ·refine ⟨?_, ?_, ?_, ?_, ?_, ?_, ?_, ?_, ?_, ?_, ?_, ?_, ?_, ?_, ?_, ?_, ?_, ?_, ?_, ?_, ?_, ?_, ?_, ?_, ?_, ?_, ?_, ?_, ?_, ?_, ?_, ?_, ?_, ?_, trivial⟩
       ·refine need_plain rfl (fun a w' hg hin => ?_)
        have e4 : a.eval (.tmp 4) = .pointer (some ⟨g, 0, none⟩) := ins_ext hin 4 (by kernel_rfl)
        refine upon_val ?_ rfl
        clear hin hg
        obtain ⟨ek, ef⟩ := evs a
        generalize a.eval = ev at *
        go_simp
        all_goals first | omega | (intro _; omega) | go_arith
       ·refine need_plain rfl (fun a w' hg hin => ?_)
        have e14 : a.eval (.tmp 14) = _ := ins_on hin 0 (by kernel_rfl)
        have hX := (hg.block _ (heap_lt hX1)).trans hX1
        obtain ⟨y0, y1, y2, y3⟩ := box4 hX rfl rfl rfl rfl
        refine upon_val ?_ rfl
        clear hin hg hX
        obtain ⟨ek, ef⟩ := evs a
        generalize a.eval = ev at *
        go_simp
        all_goals first | omega | (intro _; omega) | go_arith
       ·refine need_plain rfl (fun a w' hg hin => ?_)
        have e15 : a.eval (.tmp 15) = _ := ins_on hin 1 (by kernel_rfl)
        refine upon_call (f := 40) (args := #[.agg #[.int .i64 e.rc.kind, .int .i64 e.rc.key, .int .i64 e.rc.ver, .slice a1 e.rc.data.length c1]]) ?_ ((rwrong_any _ _ _ e.rc.data _ w' (bytes_grow hu1.p hg)).mono ?_)
        ·clear hin hg
         obtain ⟨ek, ef⟩ := evs a
         generalize a.eval = ev at *
         go_simp
         all_goals first | omega | (intro _; omega) | go_arith
        ·rintro e w2 ⟨rfl, g2⟩
         exact ⟨_, rfl, g2, by rw [HW.out]; rfl⟩
       ·refine need_plain rfl (fun a w' hg hin => ?_)
        have e16 : a.eval (.tmp 16) = _ := ins_on hin 2 (by kernel_rfl)
        refine upon_val ?_ rfl
        clear hin hg
        obtain ⟨ek, ef⟩ := evs a
        generalize a.eval = ev at *
        go_simp
        all_goals first | omega | (intro _; omega) | go_arith
       ·refine need_plain rfl (fun a w' hg hin => ?_)
        have e : a.eval (.tmp 17) = _ := ins_on hin 3 (by kernel_rfl)
        exact upon_move rfl e
       ·refine need_yes 4 false rfl (fun a w' hin => ins_on hin 4 (by kernel_rfl)) (fun a w' hg hin => ?_)
        have e4 : a.eval (.tmp 4) = .pointer (some ⟨g, 0, none⟩) := ins_ext hin 4 (by kernel_rfl)
        refine upon_val ?_ rfl
        clear hin hg
        obtain ⟨ek, ef⟩ := evs a
        generalize a.eval = ev at *
        go_simp
        all_goals first | omega | (intro _; omega) | go_arith
       ·refine need_yes 4 false rfl (fun a w' hin => ins_on hin 4 (by kernel_rfl)) (fun a w' hg hin => ?_)
        have e19 : a.eval (.tmp 19) = _ := ins_on hin 5 (by kernel_rfl)
        refine upon_val ?_ rfl
        clear hin hg
        obtain ⟨ek, ef⟩ := evs a
        generalize a.eval = ev at *
        go_simp
        all_goals first | omega | (intro _; omega) | go_arith
       ·refine need_yes 4 false rfl (fun a w' hin => ins_on hin 4 (by kernel_rfl)) (fun a w' hg hin => ?_)
        have e20 : a.eval (.tmp 20) = _ := ins_on hin 6 (by kernel_rfl)
        have hX := (hg.block _ (heap_lt hX1)).trans hX1
        have y0 := box_cell hX 0 _ rfl
        refine upon_val ?_ rfl
        clear hin hg hX
        obtain ⟨ek, ef⟩ := evs a
        generalize a.eval = ev at *
        go_simp
        all_goals first | omega | (intro _; omega) | go_arith
       ·refine need_yes 4 false rfl (fun a w' hin => ins_on hin 4 (by kernel_rfl)) (fun a w' hg hin => ?_)
        have e21 : a.eval (.tmp 21) = _ := ins_on hin 7 (by kernel_rfl)
        refine upon_val ?_ rfl
        clear hin hg
        obtain ⟨ek, ef⟩ := evs a
        generalize a.eval = ev at *
        go_simp
        all_goals first | omega | (intro _; omega) | go_arith
       ·refine need_plain rfl (fun a w' hg hin => ?_)
        have ec : a.eval (.tmp 18) = _ := ins_on hin 4 (by kernel_rfl)
        have e : a.eval (.tmp 22) = _ := ins_on hin 8 (by kernel_rfl)
        exact upon_pick rfl ec e
       ·refine need_plain rfl (fun a w' hg hin => ?_)
        have e : a.eval (.tmp 23) = _ := ins_on hin 9 (by kernel_rfl)
        exact upon_move rfl e
       ·refine need_yes 10 false rfl (fun a w' hin => ins_on hin 10 (by kernel_rfl)) (fun a w' hg hin => ?_)
        have e4 : a.eval (.tmp 4) = .pointer (some ⟨g, 0, none⟩) := ins_ext hin 4 (by kernel_rfl)
        refine upon_val ?_ rfl
        clear hin hg
        obtain ⟨ek, ef⟩ := evs a
        generalize a.eval = ev at *
        go_simp
        all_goals first | omega | (intro _; omega) | go_arith
       ·refine need_yes 10 false rfl (fun a w' hin => ins_on hin 10 (by kernel_rfl)) (fun a w' hg hin => ?_)
        have e25 : a.eval (.tmp 25) = _ := ins_on hin 11 (by kernel_rfl)
        have hX := (hg.block _ (heap_lt hX1)).trans hX1
        have y0 := box_cell hX 4 _ rfl
        refine upon_val ?_ rfl
        clear hin hg hX
        obtain ⟨ek, ef⟩ := evs a
        generalize a.eval = ev at *
        go_simp
        all_goals first | omega | (intro _; omega) | go_arith
       ·refine need_yes 10 false rfl (fun a w' hin => ins_on hin 10 (by kernel_rfl)) (fun a w' hg hin => ?_)
        have e26 : a.eval (.tmp 26) = _ := ins_on hin 12 (by kernel_rfl)
        refine upon_val ?_ rfl
        clear hin hg
        obtain ⟨ek, ef⟩ := evs a
        generalize a.eval = ev at *
        go_simp
        all_goals first | omega | (intro _; omega) | go_arith
       ·refine need_plain rfl (fun a w' hg hin => ?_)
        have ec : a.eval (.tmp 24) = _ := ins_on hin 10 (by kernel_rfl)
        have e : a.eval (.tmp 27) = _ := ins_on hin 13 (by kernel_rfl)
        exact upon_pick rfl ec e
       ·refine need_plain rfl (fun a w' hg hin => ?_)
        have e : a.eval (.tmp 28) = _ := ins_on hin 14 (by kernel_rfl)
        exact upon_move rfl e
       ·refine need_no 15 false true rfl (by decide) (fun a w' hin => ins_on hin 15 (by kernel_rfl)) (fun _ => rfl)
       ·refine need_no 15 false true rfl (by decide) (fun a w' hin => ins_on hin 15 (by kernel_rfl)) (fun _ => rfl)
       ·refine need_no 15 false true rfl (by decide) (fun a w' hin => ins_on hin 15 (by kernel_rfl)) (fun _ => rfl)
       ·refine need_plain rfl (fun a w' hg hin => ?_)
        have ec : a.eval (.tmp 29) = _ := ins_on hin 15 (by kernel_rfl)
        exact upon_pick rfl ec rfl
       ·refine need_plain rfl (fun a w' hg hin => ?_)
        have e : a.eval (.tmp 33) = _ := ins_on hin 19 (by kernel_rfl)
        exact upon_move rfl e
       ·refine need_no 20 false true rfl (by decide) (fun a w' hin => ins_on hin 20 (by kernel_rfl)) (fun _ => rfl)
       ·refine need_no 20 false true rfl (by decide) (fun a w' hin => ins_on hin 20 (by kernel_rfl)) (fun _ => rfl)
       ·refine need_no 20 false true rfl (by decide) (fun a w' hin => ins_on hin 20 (by kernel_rfl)) (fun _ => rfl)
       ·refine need_undef 23 true rfl (fun a w' hin => ins_on hin 23 (by kernel_rfl)) (fun _ => rfl)
       ·refine need_undef 23 true rfl (fun a w' hin => ins_on hin 23 (by kernel_rfl)) (fun _ => rfl)
       ·refine need_undef 23 true rfl (fun a w' hin => ins_on hin 23 (by kernel_rfl)) (fun _ => rfl)
       ·refine need_undef 23 true rfl (fun a w' hin => ins_on hin 23 (by kernel_rfl)) (fun _ => rfl)
       ·refine need_undef 23 true rfl (fun a w' hin => ins_on hin 23 (by kernel_rfl)) (fun _ => rfl)
       ·refine need_undef 23 true rfl (fun a w' hin => ins_on hin 23 (by kernel_rfl)) (fun _ => rfl)
       ·refine need_undef 23 true rfl (fun a w' hin => ins_on hin 23 (by kernel_rfl)) (fun _ => rfl)
       ·refine need_undef 23 true rfl (fun a w' hin => ins_on hin 23 (by kernel_rfl)) (fun _ => rfl)
       ·refine need_no 20 false true rfl (by decide) (fun a w' hin => ins_on hin 20 (by kernel_rfl)) (fun _ => rfl)
       ·refine need_plain rfl (fun a w' hg hin => ?_)
        have ec : a.eval (.tmp 34) = _ := ins_on hin 20 (by kernel_rfl)
        exact upon_pick rfl ec rfl
      ·intro vs w' hg ht
       obtain ⟨q14, q15, q16, q17, q18, q19, q20, q21, q22, q23, q24, q25, q26, q27, q28, q29, q30, q31, q32, q33, q34, q35, q36, q37, q38, q39, q40, q41, q42, q43, q44, q45, q46, q47, -⟩ := ht
       have r14 : vs 0 = .pointer (some ⟨g, 0, none⟩) := q14
       have r15 : vs 1 = .agg #[.int .i64 e.rc.kind, .int .i64 e.rc.key, .int .i64 e.rc.ver, .slice a1 e.rc.data.length c1] := q15
       have r16 : vs 2 = .int .i64 W := q16
       have r17 : vs 3 = .bool false := q17
       have r18 : vs 4 = .bool false := q18
       have r19 : vs 5 = .pointer (some ⟨g, 0, none⟩) := q19
       have r20 : vs 6 = .pointer (some ⟨g, 0, none⟩) := q20
       have r21 : vs 7 = .int .i64 e.rc.kind := q21
       have r22 : vs 8 = .bool false := q22
       have r23 : vs 9 = .bool false := q23
       have r24 : vs 10 = .bool false := q24
       have r25 : vs 11 = .pointer (some ⟨g, 4, none⟩) := q25
       have r26 : vs 12 = .int .i64 e.pair := q26
       have r27 : vs 13 = .bool true := q27
       have r28 : vs 14 = .bool true := q28
       have r29 : vs 15 = .bool true := q29
       have r30 : vs 16 = undef := q30
       have r31 : vs 17 = undef := q31
       have r32 : vs 18 = undef := q32
       have r33 : vs 19 = .bool true := q33
       have r34 : vs 20 = .bool true := q34
       have r35 : vs 21 = undef := q35
       have r36 : vs 22 = undef := q36
       have r37 : vs 23 = undef := q37
       have r38 : vs 24 = undef := q38
       have r39 : vs 25 = undef := q39
       have r40 : vs 26 = undef := q40
       have r41 : vs 27 = undef := q41
       have r42 : vs 28 = undef := q42
       have r43 : vs 29 = undef := q43
       have r44 : vs 30 = undef := q44
       have r45 : vs 31 = undef := q45
       have r46 : vs 32 = undef := q46
       have r47 : vs 33 = .bool true := q47
       clear q14 q15 q16 q17 q18 q19 q20 q21 q22 q23 q24 q25 q26 q27 q28 q29 q30 q31 q32 q33 q34 q35 q36 q37 q38 q39 q40 q41 q42 q43 q44 q45 q46 q47
       simp only [putAll, Act.put, List.setIfInBounds_toArray, List.set_cons_zero, List.set_cons_succ, r14, r15, r16, r17, r18, r19, r20, r21, r22, r23, r24, r25, r26, r27, r28, r29, r30, r31, r32, r33, r34, r35, r36, r37, r38, r39, r40, r41, r42, r43, r44, r45, r46, r47]
       clear r14 r15 r16 r17 r18 r19 r20 r21 r22 r23 r24 r25 r26 r27 r28 r29 r30 r31 r32 r33 r34 r35 r36 r37 r38 r39 r40 r41 r42 r43 r44 r45 r46 r47
       have gr2 := hgr.trans (g1.trans hg)
       clear hg hX1 hu1
       go_wp2_with fail
       go_ret
       exact ⟨rfl, gr2⟩
     ·by_cases hp1 : 1000 < e.pair
      ·have hRf : R = false := HX.out (by unfold okE; rw [decide_eq_false (by omega)]; rfl)
       subst hRf
       clear HX HE hk1
       go_wp2_with fail
       clear q0 q1 q2 q3 q4 HSL
       generalize World.alloc wr _ = W1 at *
       generalize wr.heap.size = g at *
       refine wp_region_told [ex (.pointer (some ⟨g, 0, none⟩)), ex (.agg #[.int .i64 e.rc.kind, .int .i64 e.rc.key, .int .i64 e.rc.ver, .slice a1 e.rc.data.length c1]), ex (.int .i64 W), ex (.bool false), ex (.bool false), ex (.pointer (some ⟨g, 0, none⟩)), ex (.pointer (some ⟨g, 0, none⟩)), ex (.int .i64 e.rc.kind), ex (.bool false), ex (.bool false), ex (.bool false), ex (.pointer (some ⟨g, 4, none⟩)), ex (.int .i64 e.pair), ex (.bool false), ex (.bool false), ex (.bool false), ex (.pointer (some ⟨g, 4, none⟩)), ex (.int .i64 e.pair), ex (.bool true), ex (.bool true), ex (.bool true), ex (undef), ex (undef), ex (undef), ex (undef), ex (undef), ex (undef), ex (undef), ex (undef), ex (undef), ex (undef), ex (undef), ex (undef), ex (.bool true)] (by kernel_rfl) (by kernel_rfl) ⟨st_ex _, st_ex _, st_ex _, st_ex _, st_ex _, st_ex _, st_ex _, st_ex _, st_ex _, st_ex _, st_ex _, st_ex _, st_ex _, st_ex _, st_ex _, st_ex _, st_ex _, st_ex _, st_ex _, st_ex _, st_ex _, st_ex _, st_ex _, st_ex _, st_ex _, st_ex _, st_ex _, st_ex _, st_ex _, st_ex _, st_ex _, st_ex _, st_ex _, st_ex _, trivial⟩ ?_ ?_
       ·refine ⟨?_, ?_, ?_, ?_, ?_, ?_, ?_, ?_, ?_, ?_, ?_, ?_, ?_, ?_, ?_, ?_, ?_, ?_, ?_, ?_, ?_, ?_, ?_, ?_, ?_, ?_, ?_, ?_, ?_, ?_, ?_, ?_, ?_, ?_, trivial⟩
        ·refine need_plain rfl (fun a w' hg hin => ?_)
         have e4 : a.eval (.tmp 4) = .pointer (some ⟨g, 0, none⟩) := ins_ext hin 4 (by kernel_rfl)
         refine upon_val ?_ rfl
         clear hin hg
         obtain ⟨ek, ef⟩ := evs a
         generalize a.eval = ev at *
         go_simp
         all_goals first | omega | (intro _; omega) | go_arith
        ·refine need_plain rfl (fun a w' hg hin => ?_)
         have e14 : a.eval (.tmp 14) = _ := ins_on hin 0 (by kernel_rfl)
         have hX := (hg.block _ (heap_lt hX1)).trans hX1
         obtain ⟨y0, y1, y2, y3⟩ := box4 hX rfl rfl rfl rfl
         refine upon_val ?_ rfl
         clear hin hg hX
         obtain ⟨ek, ef⟩ := evs a
         generalize a.eval = ev at *
         go_simp
         all_goals first | omega | (intro _; omega) | go_arith
        ·refine need_plain rfl (fun a w' hg hin => ?_)
         have e15 : a.eval (.tmp 15) = _ := ins_on hin 1 (by kernel_rfl)
         refine upon_call (f := 40) (args := #[.agg #[.int .i64 e.rc.kind, .int .i64 e.rc.key, .int .i64 e.rc.ver, .slice a1 e.rc.data.length c1]]) ?_ ((rwrong_any _ _ _ e.rc.data _ w' (bytes_grow hu1.p hg)).mono ?_)
         ·clear hin hg
          obtain ⟨ek, ef⟩ := evs a
          generalize a.eval = ev at *
          go_simp
          all_goals first | omega | (intro _; omega) | go_arith
         ·rintro e w2 ⟨rfl, g2⟩
          exact ⟨_, rfl, g2, by rw [HW.out]; rfl⟩
        ·refine need_plain rfl (fun a w' hg hin => ?_)
         have e16 : a.eval (.tmp 16) = _ := ins_on hin 2 (by kernel_rfl)
         refine upon_val ?_ rfl
         clear hin hg
         obtain ⟨ek, ef⟩ := evs a
         generalize a.eval = ev at *
         go_simp
         all_goals first | omega | (intro _; omega) | go_arith
        ·refine need_plain rfl (fun a w' hg hin => ?_)
         have e : a.eval (.tmp 17) = _ := ins_on hin 3 (by kernel_rfl)
         exact upon_move rfl e
        ·refine need_yes 4 false rfl (fun a w' hin => ins_on hin 4 (by kernel_rfl)) (fun a w' hg hin => ?_)
         have e4 : a.eval (.tmp 4) = .pointer (some ⟨g, 0, none⟩) := ins_ext hin 4 (by kernel_rfl)
         refine upon_val ?_ rfl
         clear hin hg
         obtain ⟨ek, ef⟩ := evs a
         generalize a.eval = ev at *
         go_simp
         all_goals first | omega | (intro _; omega) | go_arith
        ·refine need_yes 4 false rfl (fun a w' hin => ins_on hin 4 (by kernel_rfl)) (fun a w' hg hin => ?_)
         have e19 : a.eval (.tmp 19) = _ := ins_on hin 5 (by kernel_rfl)
         refine upon_val ?_ rfl
         clear hin hg
         obtain ⟨ek, ef⟩ := evs a
         generalize a.eval = ev at *
         go_simp
         all_goals first | omega | (intro _; omega) | go_arith
        ·refine need_yes 4 false rfl (fun a w' hin => ins_on hin 4 (by kernel_rfl)) (fun a w' hg hin => ?_)
         have e20 : a.eval (.tmp 20) = _ := ins_on hin 6 (by kernel_rfl)
         have hX := (hg.block _ (heap_lt hX1)).trans hX1
         have y0 := box_cell hX 0 _ rfl
         refine upon_val ?_ rfl
         clear hin hg hX
         obtain ⟨ek, ef⟩ := evs a
         generalize a.eval = ev at *
         go_simp
         all_goals first | omega | (intro _; omega) | go_arith
        ·refine need_yes 4 false rfl (fun a w' hin => ins_on hin 4 (by kernel_rfl)) (fun a w' hg hin => ?_)
         have e21 : a.eval (.tmp 21) = _ := ins_on hin 7 (by kernel_rfl)
         refine upon_val ?_ rfl
         clear hin hg
         obtain ⟨ek, ef⟩ := evs a
         generalize a.eval = ev at *
         go_simp
         all_goals first | omega | (intro _; omega) | go_arith
        ·refine need_plain rfl (fun a w' hg hin => ?_)
         have ec : a.eval (.tmp 18) = _ := ins_on hin 4 (by kernel_rfl)
         have e : a.eval (.tmp 22) = _ := ins_on hin 8 (by kernel_rfl)
         exact upon_pick rfl ec e
        ·refine need_plain rfl (fun a w' hg hin => ?_)
         have e : a.eval (.tmp 23) = _ := ins_on hin 9 (by kernel_rfl)
         exact upon_move rfl e
        ·refine need_yes 10 false rfl (fun a w' hin => ins_on hin 10 (by kernel_rfl)) (fun a w' hg hin => ?_)
         have e4 : a.eval (.tmp 4) = .pointer (some ⟨g, 0, none⟩) := ins_ext hin 4 (by kernel_rfl)
         refine upon_val ?_ rfl
         clear hin hg
         obtain ⟨ek, ef⟩ := evs a
         generalize a.eval = ev at *
         go_simp
         all_goals first | omega | (intro _; omega) | go_arith
        ·refine need_yes 10 false rfl (fun a w' hin => ins_on hin 10 (by kernel_rfl)) (fun a w' hg hin => ?_)
         have e25 : a.eval (.tmp 25) = _ := ins_on hin 11 (by kernel_rfl)
         have hX := (hg.block _ (heap_lt hX1)).trans hX1
         have y0 := box_cell hX 4 _ rfl
         refine upon_val ?_ rfl
         clear hin hg hX
         obtain ⟨ek, ef⟩ := evs a
         generalize a.eval = ev at *
         go_simp
         all_goals first | omega | (intro _; omega) | go_arith
        ·refine need_yes 10 false rfl (fun a w' hin => ins_on hin 10 (by kernel_rfl)) (fun a w' hg hin => ?_)
         have e26 : a.eval (.tmp 26) = _ := ins_on hin 12 (by kernel_rfl)
         refine upon_val ?_ rfl
         clear hin hg
         obtain ⟨ek, ef⟩ := evs a
         generalize a.eval = ev at *
         go_simp
         all_goals first | omega | (intro _; omega) | go_arith
        ·refine need_plain rfl (fun a w' hg hin => ?_)
         have ec : a.eval (.tmp 24) = _ := ins_on hin 10 (by kernel_rfl)
         have e : a.eval (.tmp 27) = _ := ins_on hin 13 (by kernel_rfl)
         exact upon_pick rfl ec e
        ·refine need_plain rfl (fun a w' hg hin => ?_)
         have e : a.eval (.tmp 28) = _ := ins_on hin 14 (by kernel_rfl)
         exact upon_move rfl e
        ·refine need_yes 15 false rfl (fun a w' hin => ins_on hin 15 (by kernel_rfl)) (fun a w' hg hin => ?_)
         have e4 : a.eval (.tmp 4) = .pointer (some ⟨g, 0, none⟩) := ins_ext hin 4 (by kernel_rfl)
         refine upon_val ?_ rfl
         clear hin hg
         obtain ⟨ek, ef⟩ := evs a
         generalize a.eval = ev at *
         go_simp
         all_goals first | omega | (intro _; omega) | go_arith
        ·refine need_yes 15 false rfl (fun a w' hin => ins_on hin 15 (by kernel_rfl)) (fun a w' hg hin => ?_)
         have e30 : a.eval (.tmp 30) = _ := ins_on hin 16 (by kernel_rfl)
         have hX := (hg.block _ (heap_lt hX1)).trans hX1
         have y0 := box_cell hX 4 _ rfl
         refine upon_val ?_ rfl
         clear hin hg hX
         obtain ⟨ek, ef⟩ := evs a
         generalize a.eval = ev at *
         go_simp
         all_goals first | omega | (intro _; omega) | go_arith
        ·refine need_yes 15 false rfl (fun a w' hin => ins_on hin 15 (by kernel_rfl)) (fun a w' hg hin => ?_)
         have e31 : a.eval (.tmp 31) = _ := ins_on hin 17 (by kernel_rfl)
         refine upon_val ?_ rfl
         clear hin hg
         obtain ⟨ek, ef⟩ := evs a
         generalize a.eval = ev at *
         go_simp
         all_goals first | omega | (intro _; omega) | go_arith
        ·refine need_plain rfl (fun a w' hg hin => ?_)
         have ec : a.eval (.tmp 29) = _ := ins_on hin 15 (by kernel_rfl)
         have e : a.eval (.tmp 32) = _ := ins_on hin 18 (by kernel_rfl)
         exact upon_pick rfl ec e
        ·refine need_plain rfl (fun a w' hg hin => ?_)
         have e : a.eval (.tmp 33) = _ := ins_on hin 19 (by kernel_rfl)
         exact upon_move rfl e
        ·refine need_no 20 false true rfl (by decide) (fun a w' hin => ins_on hin 20 (by kernel_rfl)) (fun _ => rfl)
        ·refine need_no 20 false true rfl (by decide) (fun a w' hin => ins_on hin 20 (by kernel_rfl)) (fun _ => rfl)
        ·refine need_no 20 false true rfl (by decide) (fun a w' hin => ins_on hin 20 (by kernel_rfl)) (fun _ => rfl)
        ·refine need_undef 23 true rfl (fun a w' hin => ins_on hin 23 (by kernel_rfl)) (fun _ => rfl)
        ·refine need_undef 23 true rfl (fun a w' hin => ins_on hin 23 (by kernel_rfl)) (fun _ => rfl)
        ·refine need_undef 23 true rfl (fun a w' hin => ins_on hin 23 (by kernel_rfl)) (fun _ => rfl)
        ·refine need_undef 23 true rfl (fun a w' hin => ins_on hin 23 (by kernel_rfl)) (fun _ => rfl)
        ·refine need_undef 23 true rfl (fun a w' hin => ins_on hin 23 (by kernel_rfl)) (fun _ => rfl)
        ·refine need_undef 23 true rfl (fun a w' hin => ins_on hin 23 (by kernel_rfl)) (fun _ => rfl)
        ·refine need_undef 23 true rfl (fun a w' hin => ins_on hin 23 (by kernel_rfl)) (fun _ => rfl)
        ·refine need_undef 23 true rfl (fun a w' hin => ins_on hin 23 (by kernel_rfl)) (fun _ => rfl)
        ·refine need_no 20 false true rfl (by decide) (fun a w' hin => ins_on hin 20 (by kernel_rfl)) (fun _ => rfl)
        ·refine need_plain rfl (fun a w' hg hin => ?_)
         have ec : a.eval (.tmp 34) = _ := ins_on hin 20 (by kernel_rfl)
         exact upon_pick rfl ec rfl
       ·intro vs w' hg ht
        obtain ⟨q14, q15, q16, q17, q18, q19, q20, q21, q22, q23, q24, q25, q26, q27, q28, q29, q30, q31, q32, q33, q34, q35, q36, q37, q38, q39, q40, q41, q42, q43, q44, q45, q46, q47, -⟩ := ht
        have r14 : vs 0 = .pointer (some ⟨g, 0, none⟩) := q14
        have r15 : vs 1 = .agg #[.int .i64 e.rc.kind, .int .i64 e.rc.key, .int .i64 e.rc.ver, .slice a1 e.rc.data.length c1] := q15
        have r16 : vs 2 = .int .i64 W := q16
        have r17 : vs 3 = .bool false := q17
        have r18 : vs 4 = .bool false := q18
        have r19 : vs 5 = .pointer (some ⟨g, 0, none⟩) := q19
        have r20 : vs 6 = .pointer (some ⟨g, 0, none⟩) := q20
        have r21 : vs 7 = .int .i64 e.rc.kind := q21
        have r22 : vs 8 = .bool false := q22
        have r23 : vs 9 = .bool false := q23
        have r24 : vs 10 = .bool false := q24
        have r25 : vs 11 = .pointer (some ⟨g, 4, none⟩) := q25
        have r26 : vs 12 = .int .i64 e.pair := q26
        have r27 : vs 13 = .bool false := q27
        have r28 : vs 14 = .bool false := q28
        have r29 : vs 15 = .bool false := q29
        have r30 : vs 16 = .pointer (some ⟨g, 4, none⟩) := q30
        have r31 : vs 17 = .int .i64 e.pair := q31
        have r32 : vs 18 = .bool true := q32
        have r33 : vs 19 = .bool true := q33
        have r34 : vs 20 = .bool true := q34
        have r35 : vs 21 = undef := q35
        have r36 : vs 22 = undef := q36
        have r37 : vs 23 = undef := q37
        have r38 : vs 24 = undef := q38
        have r39 : vs 25 = undef := q39
        have r40 : vs 26 = undef := q40
        have r41 : vs 27 = undef := q41
        have r42 : vs 28 = undef := q42
        have r43 : vs 29 = undef := q43
        have r44 : vs 30 = undef := q44
        have r45 : vs 31 = undef := q45
        have r46 : vs 32 = undef := q46
        have r47 : vs 33 = .bool true := q47
        clear q14 q15 q16 q17 q18 q19 q20 q21 q22 q23 q24 q25 q26 q27 q28 q29 q30 q31 q32 q33 q34 q35 q36 q37 q38 q39 q40 q41 q42 q43 q44 q45 q46 q47
        simp only [putAll, Act.put, List.setIfInBounds_toArray, List.set_cons_zero, List.set_cons_succ, r14, r15, r16, r17, r18, r19, r20, r21, r22, r23, r24, r25, r26, r27, r28, r29, r30, r31, r32, r33, r34, r35, r36, r37, r38, r39, r40, r41, r42, r43, r44, r45, r46, r47]
        clear r14 r15 r16 r17 r18 r19 r20 r21 r22 r23 r24 r25 r26 r27 r28 r29 r30 r31 r32 r33 r34 r35 r36 r37 r38 r39 r40 r41 r42 r43 r44 r45 r46 r47
        have gr2 := hgr.trans (g1.trans hg)
        clear hg hX1 hu1
        go_wp2_with fail
        go_ret
        exact ⟨rfl, gr2⟩
      ·have HOK : Hid (∀ B C : Bool, lastLess (l.take k) e = B → (l.take k).all (fun x => decide (x.pair ≠ e.pair)) = C → okE (l.take k) e = (B && C)) := by
        rintro B C rfl rfl
        unfold okE
        rw [decide_eq_true (by exact ⟨HW0.out, hk1, by omega, by omega⟩), Bool.true_and]
       have hp0' : 0 ≤ e.pair := by omega
       have hp1' : e.pair ≤ 1000 := by omega
       clear hk1 hp0 hp1
       by_cases hk0 : 0 < k
       ·obtain ⟨k1, hkk⟩ : ∃ k1, k = k1 + 1 := ⟨k - 1, by omega⟩
        have hk1l : k1 < l.length := by omega
        have HSL1 := HSL.grow g1
        obtain ⟨b', off', a2, c2, hv2, p0, p1, p2, p3, p4, hz⟩ := ents_at HSL1 k1 hk1l
        cases hv2
        have HLL : Hid (lastLess (l.take k) e = lessB l[k1] e) := by
         show lastLess _ e = _
         unfold lastLess
         rw [hkk, List.take_succ_eq_append_getElem hk1l, List.getLast?_append]
         simp
        have hka : k1 < k := by omega
        have hkb : k ≤ k1 + 1 := by omega
        clear hkk
        generalize l[k1] = x at *
        obtain ⟨L, hL⟩ : ∃ L, L = lessB x e := ⟨_, rfl⟩
        have HL : Hid _ := hL
        clear hL
        cases L with
        | false =>
         have hRf : R = false := HX.out (by rw [HOK.out false _ (by rw [HLL.out, ← HL.out]) rfl]; rfl)
         subst hRf
         clear HX HE HOK
         go_wp2_with fail
         clear q0 q1 q2 q3 q4 HSL
         generalize World.alloc wr _ = W1 at *
         generalize wr.heap.size = g at *
         refine wp_region_told [ex (.pointer (some ⟨g, 0, none⟩)), ex (.agg #[.int .i64 e.rc.kind, .int .i64 e.rc.key, .int .i64 e.rc.ver, .slice a1 e.rc.data.length c1]), ex (.int .i64 W), ex (.bool false), ex (.bool false), ex (.pointer (some ⟨g, 0, none⟩)), ex (.pointer (some ⟨g, 0, none⟩)), ex (.int .i64 e.rc.kind), ex (.bool false), ex (.bool false), ex (.bool false), ex (.pointer (some ⟨g, 4, none⟩)), ex (.int .i64 e.pair), ex (.bool false), ex (.bool false), ex (.bool false), ex (.pointer (some ⟨g, 4, none⟩)), ex (.int .i64 e.pair), ex (.bool false), ex (.bool false), ex (.bool false), ex (.int .i64 k), ex (.bool true), ex (.bool true), ex (.slice (some ⟨b, off, none⟩) l.length cp), ex (.int .i64 k), ex (.int .i64 k1), ex (.pointer (some ⟨b, off + k1 * 5, none⟩)), ex (.agg #[.int .i64 x.rc.kind, .int .i64 x.rc.key, .int .i64 x.rc.ver, .slice a2 x.rc.data.length c2, .int .i64 x.pair]), ex (.agg #[.int .i64 e.rc.kind, .int .i64 e.rc.key, .int .i64 e.rc.ver, .slice a1 e.rc.data.length c1, .int .i64 e.pair]), ex (.bool false), ex (.bool true), ex (.bool true), ex (.bool true)] (by kernel_rfl) (by kernel_rfl) ⟨st_ex _, st_ex _, st_ex _, st_ex _, st_ex _, st_ex _, st_ex _, st_ex _, st_ex _, st_ex _, st_ex _, st_ex _, st_ex _, st_ex _, st_ex _, st_ex _, st_ex _, st_ex _, st_ex _, st_ex _, st_ex _, st_ex _, st_ex _, st_ex _, st_ex _, st_ex _, st_ex _, st_ex _, st_ex _, st_ex _, st_ex _, st_ex _, st_ex _, st_ex _, trivial⟩ ?_ ?_
         ·refine ⟨?_, ?_, ?_, ?_, ?_, ?_, ?_, ?_, ?_, ?_, ?_, ?_, ?_, ?_, ?_, ?_, ?_, ?_, ?_, ?_, ?_, ?_, ?_, ?_, ?_, ?_, ?_, ?_, ?_, ?_, ?_, ?_, ?_, ?_, trivial⟩
          ·refine need_plain rfl (fun a w' hg hin => ?_)
           have e4 : a.eval (.tmp 4) = .pointer (some ⟨g, 0, none⟩) := ins_ext hin 4 (by kernel_rfl)
           refine upon_val ?_ rfl
           clear hin hg
           obtain ⟨ek, ef⟩ := evs a
           generalize a.eval = ev at *
           go_simp
           all_goals first | omega | (intro _; omega) | go_arith
          ·refine need_plain rfl (fun a w' hg hin => ?_)
           have e14 : a.eval (.tmp 14) = _ := ins_on hin 0 (by kernel_rfl)
           have hX := (hg.block _ (heap_lt hX1)).trans hX1
           obtain ⟨y0, y1, y2, y3⟩ := box4 hX rfl rfl rfl rfl
           refine upon_val ?_ rfl
           clear hin hg hX
           obtain ⟨ek, ef⟩ := evs a
           generalize a.eval = ev at *
           go_simp
           all_goals first | omega | (intro _; omega) | go_arith
          ·refine need_plain rfl (fun a w' hg hin => ?_)
           have e15 : a.eval (.tmp 15) = _ := ins_on hin 1 (by kernel_rfl)
           refine upon_call (f := 40) (args := #[.agg #[.int .i64 e.rc.kind, .int .i64 e.rc.key, .int .i64 e.rc.ver, .slice a1 e.rc.data.length c1]]) ?_ ((rwrong_any _ _ _ e.rc.data _ w' (bytes_grow hu1.p hg)).mono ?_)
           ·clear hin hg
            obtain ⟨ek, ef⟩ := evs a
            generalize a.eval = ev at *
            go_simp
            all_goals first | omega | (intro _; omega) | go_arith
           ·rintro e w2 ⟨rfl, g2⟩
            exact ⟨_, rfl, g2, by rw [HW.out]; rfl⟩
          ·refine need_plain rfl (fun a w' hg hin => ?_)
           have e16 : a.eval (.tmp 16) = _ := ins_on hin 2 (by kernel_rfl)
           refine upon_val ?_ rfl
           clear hin hg
           obtain ⟨ek, ef⟩ := evs a
           generalize a.eval = ev at *
           go_simp
           all_goals first | omega | (intro _; omega) | go_arith
          ·refine need_plain rfl (fun a w' hg hin => ?_)
           have e : a.eval (.tmp 17) = _ := ins_on hin 3 (by kernel_rfl)
           exact upon_move rfl e
          ·refine need_yes 4 false rfl (fun a w' hin => ins_on hin 4 (by kernel_rfl)) (fun a w' hg hin => ?_)
           have e4 : a.eval (.tmp 4) = .pointer (some ⟨g, 0, none⟩) := ins_ext hin 4 (by kernel_rfl)
           refine upon_val ?_ rfl
           clear hin hg
           obtain ⟨ek, ef⟩ := evs a
           generalize a.eval = ev at *
           go_simp
           all_goals first | omega | (intro _; omega) | go_arith
          ·refine need_yes 4 false rfl (fun a w' hin => ins_on hin 4 (by kernel_rfl)) (fun a w' hg hin => ?_)
           have e19 : a.eval (.tmp 19) = _ := ins_on hin 5 (by kernel_rfl)
           refine upon_val ?_ rfl
           clear hin hg
           obtain ⟨ek, ef⟩ := evs a
           generalize a.eval = ev at *
           go_simp
           all_goals first | omega | (intro _; omega) | go_arith
          ·refine need_yes 4 false rfl (fun a w' hin => ins_on hin 4 (by kernel_rfl)) (fun a w' hg hin => ?_)
           have e20 : a.eval (.tmp 20) = _ := ins_on hin 6 (by kernel_rfl)
           have hX := (hg.block _ (heap_lt hX1)).trans hX1
           have y0 := box_cell hX 0 _ rfl
           refine upon_val ?_ rfl
           clear hin hg hX
           obtain ⟨ek, ef⟩ := evs a
           generalize a.eval = ev at *
           go_simp
           all_goals first | omega | (intro _; omega) | go_arith
          ·refine need_yes 4 false rfl (fun a w' hin => ins_on hin 4 (by kernel_rfl)) (fun a w' hg hin => ?_)
           have e21 : a.eval (.tmp 21) = _ := ins_on hin 7 (by kernel_rfl)
           refine upon_val ?_ rfl
           clear hin hg
           obtain ⟨ek, ef⟩ := evs a
           generalize a.eval = ev at *
           go_simp
           all_goals first | omega | (intro _; omega) | go_arith
          ·refine need_plain rfl (fun a w' hg hin => ?_)
           have ec : a.eval (.tmp 18) = _ := ins_on hin 4 (by kernel_rfl)
           have e : a.eval (.tmp 22) = _ := ins_on hin 8 (by kernel_rfl)
           exact upon_pick rfl ec e
          ·refine need_plain rfl (fun a w' hg hin => ?_)
           have e : a.eval (.tmp 23) = _ := ins_on hin 9 (by kernel_rfl)
           exact upon_move rfl e
          ·refine need_yes 10 false rfl (fun a w' hin => ins_on hin 10 (by kernel_rfl)) (fun a w' hg hin => ?_)
           have e4 : a.eval (.tmp 4) = .pointer (some ⟨g, 0, none⟩) := ins_ext hin 4 (by kernel_rfl)
           refine upon_val ?_ rfl
           clear hin hg
           obtain ⟨ek, ef⟩ := evs a
           generalize a.eval = ev at *
           go_simp
           all_goals first | omega | (intro _; omega) | go_arith
          ·refine need_yes 10 false rfl (fun a w' hin => ins_on hin 10 (by kernel_rfl)) (fun a w' hg hin => ?_)
           have e25 : a.eval (.tmp 25) = _ := ins_on hin 11 (by kernel_rfl)
           have hX := (hg.block _ (heap_lt hX1)).trans hX1
           have y0 := box_cell hX 4 _ rfl
           refine upon_val ?_ rfl
           clear hin hg hX
           obtain ⟨ek, ef⟩ := evs a
           generalize a.eval = ev at *
           go_simp
           all_goals first | omega | (intro _; omega) | go_arith
          ·refine need_yes 10 false rfl (fun a w' hin => ins_on hin 10 (by kernel_rfl)) (fun a w' hg hin => ?_)
           have e26 : a.eval (.tmp 26) = _ := ins_on hin 12 (by kernel_rfl)
           refine upon_val ?_ rfl
           clear hin hg
           obtain ⟨ek, ef⟩ := evs a
           generalize a.eval = ev at *
           go_simp
           all_goals first | omega | (intro _; omega) | go_arith
          ·refine need_plain rfl (fun a w' hg hin => ?_)
           have ec : a.eval (.tmp 24) = _ := ins_on hin 10 (by kernel_rfl)
           have e : a.eval (.tmp 27) = _ := ins_on hin 13 (by kernel_rfl)
           exact upon_pick rfl ec e
          ·refine need_plain rfl (fun a w' hg hin => ?_)
           have e : a.eval (.tmp 28) = _ := ins_on hin 14 (by kernel_rfl)
           exact upon_move rfl e
          ·refine need_yes 15 false rfl (fun a w' hin => ins_on hin 15 (by kernel_rfl)) (fun a w' hg hin => ?_)
           have e4 : a.eval (.tmp 4) = .pointer (some ⟨g, 0, none⟩) := ins_ext hin 4 (by kernel_rfl)
           refine upon_val ?_ rfl
           clear hin hg
           obtain ⟨ek, ef⟩ := evs a
           generalize a.eval = ev at *
           go_simp
           all_goals first | omega | (intro _; omega) | go_arith
          ·refine need_yes 15 false rfl (fun a w' hin => ins_on hin 15 (by kernel_rfl)) (fun a w' hg hin => ?_)
           have e30 : a.eval (.tmp 30) = _ := ins_on hin 16 (by kernel_rfl)
           have hX := (hg.block _ (heap_lt hX1)).trans hX1
           have y0 := box_cell hX 4 _ rfl
           refine upon_val ?_ rfl
           clear hin hg hX
           obtain ⟨ek, ef⟩ := evs a
           generalize a.eval = ev at *
           go_simp
           all_goals first | omega | (intro _; omega) | go_arith
          ·refine need_yes 15 false rfl (fun a w' hin => ins_on hin 15 (by kernel_rfl)) (fun a w' hg hin => ?_)
           have e31 : a.eval (.tmp 31) = _ := ins_on hin 17 (by kernel_rfl)
           refine upon_val ?_ rfl
           clear hin hg
           obtain ⟨ek, ef⟩ := evs a
           generalize a.eval = ev at *
           go_simp
           all_goals first | omega | (intro _; omega) | go_arith
          ·refine need_plain rfl (fun a w' hg hin => ?_)
           have ec : a.eval (.tmp 29) = _ := ins_on hin 15 (by kernel_rfl)
           have e : a.eval (.tmp 32) = _ := ins_on hin 18 (by kernel_rfl)
           exact upon_pick rfl ec e
          ·refine need_plain rfl (fun a w' hg hin => ?_)
           have e : a.eval (.tmp 33) = _ := ins_on hin 19 (by kernel_rfl)
           exact upon_move rfl e
          ·refine need_yes 20 false rfl (fun a w' hin => ins_on hin 20 (by kernel_rfl)) (fun a w' hg hin => ?_)
           have e : a.eval (.tmp 3) = .int .i64 k := ins_ext hin 3 (by kernel_rfl)
           exact upon_move rfl e
          ·refine need_yes 20 false rfl (fun a w' hin => ins_on hin 20 (by kernel_rfl)) (fun a w' hg hin => ?_)
           have e35 : a.eval (.tmp 35) = _ := ins_on hin 21 (by kernel_rfl)
           refine upon_val ?_ rfl
           clear hin hg
           obtain ⟨ek, ef⟩ := evs a
           generalize a.eval = ev at *
           go_simp
           all_goals first | omega | (intro _; omega) | go_arith
          ·refine need_yes 20 false rfl (fun a w' hin => ins_on hin 20 (by kernel_rfl)) (fun a w' hg hin => ?_)
           have e : a.eval (.tmp 36) = _ := ins_on hin 22 (by kernel_rfl)
           exact upon_move rfl e
          ·refine need_yes 23 true rfl (fun a w' hin => ins_on hin 23 (by kernel_rfl)) (fun a w' hg hin => ?_)
           have e : a.eval (.tmp 0) = .slice (some ⟨b, off, none⟩) l.length cp := ins_ext hin 0 (by kernel_rfl)
           exact upon_move rfl e
          ·refine need_yes 23 true rfl (fun a w' hin => ins_on hin 23 (by kernel_rfl)) (fun a w' hg hin => ?_)
           have e : a.eval (.tmp 3) = .int .i64 k := ins_ext hin 3 (by kernel_rfl)
           exact upon_move rfl e
          ·refine need_yes 23 true rfl (fun a w' hin => ins_on hin 23 (by kernel_rfl)) (fun a w' hg hin => ?_)
           have e39 : a.eval (.tmp 39) = _ := ins_on hin 25 (by kernel_rfl)
           refine upon_val ?_ rfl
           clear hin hg
           obtain ⟨ek, ef⟩ := evs a
           generalize a.eval = ev at *
           go_simp
           all_goals first | omega | (intro _; omega) | go_arith
          ·refine need_yes 23 true rfl (fun a w' hin => ins_on hin 23 (by kernel_rfl)) (fun a w' hg hin => ?_)
           have e38 : a.eval (.tmp 38) = _ := ins_on hin 24 (by kernel_rfl)
           have e40 : a.eval (.tmp 40) = _ := ins_on hin 26 (by kernel_rfl)
           refine upon_val ?_ rfl
           clear hin hg
           obtain ⟨ek, ef⟩ := evs a
           generalize a.eval = ev at *
           go_simp
           all_goals first | omega | (intro _; omega) | go_arith
          ·refine need_yes 23 true rfl (fun a w' hin => ins_on hin 23 (by kernel_rfl)) (fun a w' hg hin => ?_)
           have e41 : a.eval (.tmp 41) = _ := ins_on hin 27 (by kernel_rfl)
           have h1 := (Below.cell hg (cell_lt p0)).trans p0
           have h2 := (Below.cell hg (cell_lt p1)).trans p1
           have h3 := (Below.cell hg (cell_lt p2)).trans p2
           have h4 := (Below.cell hg (cell_lt p3)).trans p3
           have h5 := (Below.cell hg (cell_lt p4)).trans p4
           refine upon_val ?_ rfl
           clear hin hg
           obtain ⟨ek, ef⟩ := evs a
           generalize a.eval = ev at *
           go_simp
           all_goals first | omega | (intro _; omega) | go_arith
          ·refine need_yes 23 true rfl (fun a w' hin => ins_on hin 23 (by kernel_rfl)) (fun a w' hg hin => ?_)
           have e4 : a.eval (.tmp 4) = .pointer (some ⟨g, 0, none⟩) := ins_ext hin 4 (by kernel_rfl)
           have hX := (hg.block _ (heap_lt hX1)).trans hX1
           obtain ⟨y0, y1, y2, y3, y4⟩ := box5 hX rfl rfl rfl rfl rfl
           refine upon_val ?_ rfl
           clear hin hg hX
           obtain ⟨ek, ef⟩ := evs a
           generalize a.eval = ev at *
           go_simp
           all_goals first | omega | (intro _; omega) | go_arith
          ·refine need_yes 23 true rfl (fun a w' hin => ins_on hin 23 (by kernel_rfl)) (fun a w' hg hin => ?_)
           have e42 : a.eval (.tmp 42) = _ := ins_on hin 28 (by kernel_rfl)
           have e43 : a.eval (.tmp 43) = _ := ins_on hin 29 (by kernel_rfl)
           refine upon_call (f := 41) (args := #[.agg #[.int .i64 x.rc.kind, .int .i64 x.rc.key, .int .i64 x.rc.ver, .slice a2 x.rc.data.length c2, .int .i64 x.pair], .agg #[.int .i64 e.rc.kind, .int .i64 e.rc.key, .int .i64 e.rc.ver, .slice a1 e.rc.data.length c1, .int .i64 e.pair]]) ?_ ((rless_any x e _ _ _ _ w').mono ?_)
           ·clear hin hg
            obtain ⟨ek, ef⟩ := evs a
            generalize a.eval = ev at *
            go_simp
            all_goals first | omega | (intro _; omega) | go_arith
           ·rintro e w2 ⟨rfl, g2⟩
            exact ⟨_, rfl, g2, by rw [HL.out]; rfl⟩
          ·refine need_yes 23 true rfl (fun a w' hin => ins_on hin 23 (by kernel_rfl)) (fun a w' hg hin => ?_)
           have e44 : a.eval (.tmp 44) = _ := ins_on hin 30 (by kernel_rfl)
           refine upon_val ?_ rfl
           clear hin hg
           obtain ⟨ek, ef⟩ := evs a
           generalize a.eval = ev at *
           go_simp
           all_goals first | omega | (intro _; omega) | go_arith
          ·refine need_yes 20 false rfl (fun a w' hin => ins_on hin 20 (by kernel_rfl)) (fun a w' hg hin => ?_)
           have ec : a.eval (.tmp 37) = _ := ins_on hin 23 (by kernel_rfl)
           have e : a.eval (.tmp 45) = _ := ins_on hin 31 (by kernel_rfl)
           exact upon_pick rfl ec e
          ·refine need_plain rfl (fun a w' hg hin => ?_)
           have ec : a.eval (.tmp 34) = _ := ins_on hin 20 (by kernel_rfl)
           have e : a.eval (.tmp 46) = _ := ins_on hin 32 (by kernel_rfl)
           exact upon_pick rfl ec e
         ·intro vs w' hg ht
          obtain ⟨q14, q15, q16, q17, q18, q19, q20, q21, q22, q23, q24, q25, q26, q27, q28, q29, q30, q31, q32, q33, q34, q35, q36, q37, q38, q39, q40, q41, q42, q43, q44, q45, q46, q47, -⟩ := ht
          have r14 : vs 0 = .pointer (some ⟨g, 0, none⟩) := q14
          have r15 : vs 1 = .agg #[.int .i64 e.rc.kind, .int .i64 e.rc.key, .int .i64 e.rc.ver, .slice a1 e.rc.data.length c1] := q15
          have r16 : vs 2 = .int .i64 W := q16
          have r17 : vs 3 = .bool false := q17
          have r18 : vs 4 = .bool false := q18
          have r19 : vs 5 = .pointer (some ⟨g, 0, none⟩) := q19
          have r20 : vs 6 = .pointer (some ⟨g, 0, none⟩) := q20
          have r21 : vs 7 = .int .i64 e.rc.kind := q21
          have r22 : vs 8 = .bool false := q22
          have r23 : vs 9 = .bool false := q23
          have r24 : vs 10 = .bool false := q24
          have r25 : vs 11 = .pointer (some ⟨g, 4, none⟩) := q25
          have r26 : vs 12 = .int .i64 e.pair := q26
          have r27 : vs 13 = .bool false := q27
          have r28 : vs 14 = .bool false := q28
          have r29 : vs 15 = .bool false := q29
          have r30 : vs 16 = .pointer (some ⟨g, 4, none⟩) := q30
          have r31 : vs 17 = .int .i64 e.pair := q31
          have r32 : vs 18 = .bool false := q32
          have r33 : vs 19 = .bool false := q33
          have r34 : vs 20 = .bool false := q34
          have r35 : vs 21 = .int .i64 k := q35
          have r36 : vs 22 = .bool true := q36
          have r37 : vs 23 = .bool true := q37
          have r38 : vs 24 = .slice (some ⟨b, off, none⟩) l.length cp := q38
          have r39 : vs 25 = .int .i64 k := q39
          have r40 : vs 26 = .int .i64 k1 := q40
          have r41 : vs 27 = .pointer (some ⟨b, off + k1 * 5, none⟩) := q41
          have r42 : vs 28 = .agg #[.int .i64 x.rc.kind, .int .i64 x.rc.key, .int .i64 x.rc.ver, .slice a2 x.rc.data.length c2, .int .i64 x.pair] := q42
          have r43 : vs 29 = .agg #[.int .i64 e.rc.kind, .int .i64 e.rc.key, .int .i64 e.rc.ver, .slice a1 e.rc.data.length c1, .int .i64 e.pair] := q43
          have r44 : vs 30 = .bool false := q44
          have r45 : vs 31 = .bool true := q45
          have r46 : vs 32 = .bool true := q46
          have r47 : vs 33 = .bool true := q47
          clear q14 q15 q16 q17 q18 q19 q20 q21 q22 q23 q24 q25 q26 q27 q28 q29 q30 q31 q32 q33 q34 q35 q36 q37 q38 q39 q40 q41 q42 q43 q44 q45 q46 q47
          simp only [putAll, Act.put, List.setIfInBounds_toArray, List.set_cons_zero, List.set_cons_succ, r14, r15, r16, r17, r18, r19, r20, r21, r22, r23, r24, r25, r26, r27, r28, r29, r30, r31, r32, r33, r34, r35, r36, r37, r38, r39, r40, r41, r42, r43, r44, r45, r46, r47]
          clear r14 r15 r16 r17 r18 r19 r20 r21 r22 r23 r24 r25 r26 r27 r28 r29 r30 r31 r32 r33 r34 r35 r36 r37 r38 r39 r40 r41 r42 r43 r44 r45 r46 r47
          have gr2 := hgr.trans (g1.trans hg)
          clear hg hX1 hu1
          go_wp2_with fail
          go_ret
          exact ⟨rfl, gr2⟩
        | true =>
         have HZ : Hid (R = ((l.take k).all (fun x => decide (x.pair ≠ e.pair)) && rightFrom (l.take (k + 1)) (l.drop (k + 1)))) := by show R = _; rw [HE.out, HOK.out true _ (by rw [HLL.out, ← HL.out]) rfl]; rfl
         clear HX HE HOK
         go_wp2_with fail
         clear q0 q1 q2 q3 q4
         generalize World.alloc wr _ = W1 at *
         generalize wr.heap.size = g at *
         refine wp_region_told [ex (.pointer (some ⟨g, 0, none⟩)), ex (.agg #[.int .i64 e.rc.kind, .int .i64 e.rc.key, .int .i64 e.rc.ver, .slice a1 e.rc.data.length c1]), ex (.int .i64 W), ex (.bool false), ex (.bool false), ex (.pointer (some ⟨g, 0, none⟩)), ex (.pointer (some ⟨g, 0, none⟩)), ex (.int .i64 e.rc.kind), ex (.bool false), ex (.bool false), ex (.bool false), ex (.pointer (some ⟨g, 4, none⟩)), ex (.int .i64 e.pair), ex (.bool false), ex (.bool false), ex (.bool false), ex (.pointer (some ⟨g, 4, none⟩)), ex (.int .i64 e.pair), ex (.bool false), ex (.bool false), ex (.bool false), ex (.int .i64 k), ex (.bool true), ex (.bool true), ex (.slice (some ⟨b, off, none⟩) l.length cp), ex (.int .i64 k), ex (.int .i64 k1), ex (.pointer (some ⟨b, off + k1 * 5, none⟩)), ex (.agg #[.int .i64 x.rc.kind, .int .i64 x.rc.key, .int .i64 x.rc.ver, .slice a2 x.rc.data.length c2, .int .i64 x.pair]), ex (.agg #[.int .i64 e.rc.kind, .int .i64 e.rc.key, .int .i64 e.rc.ver, .slice a1 e.rc.data.length c1, .int .i64 e.pair]), ex (.bool true), ex (.bool false), ex (.bool false), ex (.bool false)] (by kernel_rfl) (by kernel_rfl) ⟨st_ex _, st_ex _, st_ex _, st_ex _, st_ex _, st_ex _, st_ex _, st_ex _, st_ex _, st_ex _, st_ex _, st_ex _, st_ex _, st_ex _, st_ex _, st_ex _, st_ex _, st_ex _, st_ex _, st_ex _, st_ex _, st_ex _, st_ex _, st_ex _, st_ex _, st_ex _, st_ex _, st_ex _, st_ex _, st_ex _, st_ex _, st_ex _, st_ex _, st_ex _, trivial⟩ ?_ ?_
         ·refine ⟨?_, ?_, ?_, ?_, ?_, ?_, ?_, ?_, ?_, ?_, ?_, ?_, ?_, ?_, ?_, ?_, ?_, ?_, ?_, ?_, ?_, ?_, ?_, ?_, ?_, ?_, ?_, ?_, ?_, ?_, ?_, ?_, ?_, ?_, trivial⟩
          ·refine need_plain rfl (fun a w' hg hin => ?_)
           have e4 : a.eval (.tmp 4) = .pointer (some ⟨g, 0, none⟩) := ins_ext hin 4 (by kernel_rfl)
           refine upon_val ?_ rfl
           clear hin hg
           obtain ⟨ek, ef⟩ := evs a
           generalize a.eval = ev at *
           go_simp
           all_goals first | omega | (intro _; omega) | go_arith
          ·refine need_plain rfl (fun a w' hg hin => ?_)
           have e14 : a.eval (.tmp 14) = _ := ins_on hin 0 (by kernel_rfl)
           have hX := (hg.block _ (heap_lt hX1)).trans hX1
           obtain ⟨y0, y1, y2, y3⟩ := box4 hX rfl rfl rfl rfl
           refine upon_val ?_ rfl
           clear hin hg hX
           obtain ⟨ek, ef⟩ := evs a
           generalize a.eval = ev at *
           go_simp
           all_goals first | omega | (intro _; omega) | go_arith
          ·refine need_plain rfl (fun a w' hg hin => ?_)
           have e15 : a.eval (.tmp 15) = _ := ins_on hin 1 (by kernel_rfl)
           refine upon_call (f := 40) (args := #[.agg #[.int .i64 e.rc.kind, .int .i64 e.rc.key, .int .i64 e.rc.ver, .slice a1 e.rc.data.length c1]]) ?_ ((rwrong_any _ _ _ e.rc.data _ w' (bytes_grow hu1.p hg)).mono ?_)
           ·clear hin hg
            obtain ⟨ek, ef⟩ := evs a
            generalize a.eval = ev at *
            go_simp
            all_goals first | omega | (intro _; omega) | go_arith
           ·rintro e w2 ⟨rfl, g2⟩
            exact ⟨_, rfl, g2, by rw [HW.out]; rfl⟩
          ·refine need_plain rfl (fun a w' hg hin => ?_)
           have e16 : a.eval (.tmp 16) = _ := ins_on hin 2 (by kernel_rfl)
           refine upon_val ?_ rfl
           clear hin hg
           obtain ⟨ek, ef⟩ := evs a
           generalize a.eval = ev at *
           go_simp
           all_goals first | omega | (intro _; omega) | go_arith
          ·refine need_plain rfl (fun a w' hg hin => ?_)
           have e : a.eval (.tmp 17) = _ := ins_on hin 3 (by kernel_rfl)
           exact upon_move rfl e
          ·refine need_yes 4 false rfl (fun a w' hin => ins_on hin 4 (by kernel_rfl)) (fun a w' hg hin => ?_)
           have e4 : a.eval (.tmp 4) = .pointer (some ⟨g, 0, none⟩) := ins_ext hin 4 (by kernel_rfl)
           refine upon_val ?_ rfl
           clear hin hg
           obtain ⟨ek, ef⟩ := evs a
           generalize a.eval = ev at *
           go_simp
           all_goals first | omega | (intro _; omega) | go_arith
          ·refine need_yes 4 false rfl (fun a w' hin => ins_on hin 4 (by kernel_rfl)) (fun a w' hg hin => ?_)
           have e19 : a.eval (.tmp 19) = _ := ins_on hin 5 (by kernel_rfl)
           refine upon_val ?_ rfl
           clear hin hg
           obtain ⟨ek, ef⟩ := evs a
           generalize a.eval = ev at *
           go_simp
           all_goals first | omega | (intro _; omega) | go_arith
          ·refine need_yes 4 false rfl (fun a w' hin => ins_on hin 4 (by kernel_rfl)) (fun a w' hg hin => ?_)
           have e20 : a.eval (.tmp 20) = _ := ins_on hin 6 (by kernel_rfl)
           have hX := (hg.block _ (heap_lt hX1)).trans hX1
           have y0 := box_cell hX 0 _ rfl
           refine upon_val ?_ rfl
           clear hin hg hX
           obtain ⟨ek, ef⟩ := evs a
           generalize a.eval = ev at *
           go_simp
           all_goals first | omega | (intro _; omega) | go_arith
          ·refine need_yes 4 false rfl (fun a w' hin => ins_on hin 4 (by kernel_rfl)) (fun a w' hg hin => ?_)
           have e21 : a.eval (.tmp 21) = _ := ins_on hin 7 (by kernel_rfl)
           refine upon_val ?_ rfl
           clear hin hg
           obtain ⟨ek, ef⟩ := evs a
           generalize a.eval = ev at *
           go_simp
           all_goals first | omega | (intro _; omega) | go_arith
          ·refine need_plain rfl (fun a w' hg hin => ?_)
           have ec : a.eval (.tmp 18) = _ := ins_on hin 4 (by kernel_rfl)
           have e : a.eval (.tmp 22) = _ := ins_on hin 8 (by kernel_rfl)
           exact upon_pick rfl ec e
          ·refine need_plain rfl (fun a w' hg hin => ?_)
           have e : a.eval (.tmp 23) = _ := ins_on hin 9 (by kernel_rfl)
           exact upon_move rfl e
          ·refine need_yes 10 false rfl (fun a w' hin => ins_on hin 10 (by kernel_rfl)) (fun a w' hg hin => ?_)
           have e4 : a.eval (.tmp 4) = .pointer (some ⟨g, 0, none⟩) := ins_ext hin 4 (by kernel_rfl)
           refine upon_val ?_ rfl
           clear hin hg
           obtain ⟨ek, ef⟩ := evs a
           generalize a.eval = ev at *
           go_simp
           all_goals first | omega | (intro _; omega) | go_arith
          ·refine need_yes 10 false rfl (fun a w' hin => ins_on hin 10 (by kernel_rfl)) (fun a w' hg hin => ?_)
           have e25 : a.eval (.tmp 25) = _ := ins_on hin 11 (by kernel_rfl)
           have hX := (hg.block _ (heap_lt hX1)).trans hX1
           have y0 := box_cell hX 4 _ rfl
           refine upon_val ?_ rfl
           clear hin hg hX
           obtain ⟨ek, ef⟩ := evs a
           generalize a.eval = ev at *
           go_simp
           all_goals first | omega | (intro _; omega) | go_arith
          ·refine need_yes 10 false rfl (fun a w' hin => ins_on hin 10 (by kernel_rfl)) (fun a w' hg hin => ?_)
           have e26 : a.eval (.tmp 26) = _ := ins_on hin 12 (by kernel_rfl)
           refine upon_val ?_ rfl
           clear hin hg
           obtain ⟨ek, ef⟩ := evs a
           generalize a.eval = ev at *
           go_simp
           all_goals first | omega | (intro _; omega) | go_arith
          ·refine need_plain rfl (fun a w' hg hin => ?_)
           have ec : a.eval (.tmp 24) = _ := ins_on hin 10 (by kernel_rfl)
           have e : a.eval (.tmp 27) = _ := ins_on hin 13 (by kernel_rfl)
           exact upon_pick rfl ec e
          ·refine need_plain rfl (fun a w' hg hin => ?_)
           have e : a.eval (.tmp 28) = _ := ins_on hin 14 (by kernel_rfl)
           exact upon_move rfl e
          ·refine need_yes 15 false rfl (fun a w' hin => ins_on hin 15 (by kernel_rfl)) (fun a w' hg hin => ?_)
           have e4 : a.eval (.tmp 4) = .pointer (some ⟨g, 0, none⟩) := ins_ext hin 4 (by kernel_rfl)
           refine upon_val ?_ rfl
           clear hin hg
           obtain ⟨ek, ef⟩ := evs a
           generalize a.eval = ev at *
           go_simp
           all_goals first | omega | (intro _; omega) | go_arith
          ·refine need_yes 15 false rfl (fun a w' hin => ins_on hin 15 (by kernel_rfl)) (fun a w' hg hin => ?_)
           have e30 : a.eval (.tmp 30) = _ := ins_on hin 16 (by kernel_rfl)
           have hX := (hg.block _ (heap_lt hX1)).trans hX1
           have y0 := box_cell hX 4 _ rfl
           refine upon_val ?_ rfl
           clear hin hg hX
           obtain ⟨ek, ef⟩ := evs a
           generalize a.eval = ev at *
           go_simp
           all_goals first | omega | (intro _; omega) | go_arith
          ·refine need_yes 15 false rfl (fun a w' hin => ins_on hin 15 (by kernel_rfl)) (fun a w' hg hin => ?_)
           have e31 : a.eval (.tmp 31) = _ := ins_on hin 17 (by kernel_rfl)
           refine upon_val ?_ rfl
           clear hin hg
           obtain ⟨ek, ef⟩ := evs a
           generalize a.eval = ev at *
           go_simp
           all_goals first | omega | (intro _; omega) | go_arith
          ·refine need_plain rfl (fun a w' hg hin => ?_)
           have ec : a.eval (.tmp 29) = _ := ins_on hin 15 (by kernel_rfl)
           have e : a.eval (.tmp 32) = _ := ins_on hin 18 (by kernel_rfl)
           exact upon_pick rfl ec e
          ·refine need_plain rfl (fun a w' hg hin => ?_)
           have e : a.eval (.tmp 33) = _ := ins_on hin 19 (by kernel_rfl)
           exact upon_move rfl e
          ·refine need_yes 20 false rfl (fun a w' hin => ins_on hin 20 (by kernel_rfl)) (fun a w' hg hin => ?_)
           have e : a.eval (.tmp 3) = .int .i64 k := ins_ext hin 3 (by kernel_rfl)
           exact upon_move rfl e
          ·refine need_yes 20 false rfl (fun a w' hin => ins_on hin 20 (by kernel_rfl)) (fun a w' hg hin => ?_)
           have e35 : a.eval (.tmp 35) = _ := ins_on hin 21 (by kernel_rfl)
           refine upon_val ?_ rfl
           clear hin hg
           obtain ⟨ek, ef⟩ := evs a
           generalize a.eval = ev at *
           go_simp
           all_goals first | omega | (intro _; omega) | go_arith
          ·refine need_yes 20 false rfl (fun a w' hin => ins_on hin 20 (by kernel_rfl)) (fun a w' hg hin => ?_)
           have e : a.eval (.tmp 36) = _ := ins_on hin 22 (by kernel_rfl)
           exact upon_move rfl e
          ·refine need_yes 23 true rfl (fun a w' hin => ins_on hin 23 (by kernel_rfl)) (fun a w' hg hin => ?_)
           have e : a.eval (.tmp 0) = .slice (some ⟨b, off, none⟩) l.length cp := ins_ext hin 0 (by kernel_rfl)
           exact upon_move rfl e
          ·refine need_yes 23 true rfl (fun a w' hin => ins_on hin 23 (by kernel_rfl)) (fun a w' hg hin => ?_)
           have e : a.eval (.tmp 3) = .int .i64 k := ins_ext hin 3 (by kernel_rfl)
           exact upon_move rfl e
          ·refine need_yes 23 true rfl (fun a w' hin => ins_on hin 23 (by kernel_rfl)) (fun a w' hg hin => ?_)
           have e39 : a.eval (.tmp 39) = _ := ins_on hin 25 (by kernel_rfl)
           refine upon_val ?_ rfl
           clear hin hg
           obtain ⟨ek, ef⟩ := evs a
           generalize a.eval = ev at *
           go_simp
           all_goals first | omega | (intro _; omega) | go_arith
          ·refine need_yes 23 true rfl (fun a w' hin => ins_on hin 23 (by kernel_rfl)) (fun a w' hg hin => ?_)
           have e38 : a.eval (.tmp 38) = _ := ins_on hin 24 (by kernel_rfl)
           have e40 : a.eval (.tmp 40) = _ := ins_on hin 26 (by kernel_rfl)
           refine upon_val ?_ rfl
           clear hin hg
           obtain ⟨ek, ef⟩ := evs a
           generalize a.eval = ev at *
           go_simp
           all_goals first | omega | (intro _; omega) | go_arith
          ·refine need_yes 23 true rfl (fun a w' hin => ins_on hin 23 (by kernel_rfl)) (fun a w' hg hin => ?_)
           have e41 : a.eval (.tmp 41) = _ := ins_on hin 27 (by kernel_rfl)
           have h1 := (Below.cell hg (cell_lt p0)).trans p0
           have h2 := (Below.cell hg (cell_lt p1)).trans p1
           have h3 := (Below.cell hg (cell_lt p2)).trans p2
           have h4 := (Below.cell hg (cell_lt p3)).trans p3
           have h5 := (Below.cell hg (cell_lt p4)).trans p4
           refine upon_val ?_ rfl
           clear hin hg
           obtain ⟨ek, ef⟩ := evs a
           generalize a.eval = ev at *
           go_simp
           all_goals first | omega | (intro _; omega) | go_arith
          ·refine need_yes 23 true rfl (fun a w' hin => ins_on hin 23 (by kernel_rfl)) (fun a w' hg hin => ?_)
           have e4 : a.eval (.tmp 4) = .pointer (some ⟨g, 0, none⟩) := ins_ext hin 4 (by kernel_rfl)
           have hX := (hg.block _ (heap_lt hX1)).trans hX1
           obtain ⟨y0, y1, y2, y3, y4⟩ := box5 hX rfl rfl rfl rfl rfl
           refine upon_val ?_ rfl
           clear hin hg hX
           obtain ⟨ek, ef⟩ := evs a
           generalize a.eval = ev at *
           go_simp
           all_goals first | omega | (intro _; omega) | go_arith
          ·refine need_yes 23 true rfl (fun a w' hin => ins_on hin 23 (by kernel_rfl)) (fun a w' hg hin => ?_)
           have e42 : a.eval (.tmp 42) = _ := ins_on hin 28 (by kernel_rfl)
           have e43 : a.eval (.tmp 43) = _ := ins_on hin 29 (by kernel_rfl)
           refine upon_call (f := 41) (args := #[.agg #[.int .i64 x.rc.kind, .int .i64 x.rc.key, .int .i64 x.rc.ver, .slice a2 x.rc.data.length c2, .int .i64 x.pair], .agg #[.int .i64 e.rc.kind, .int .i64 e.rc.key, .int .i64 e.rc.ver, .slice a1 e.rc.data.length c1, .int .i64 e.pair]]) ?_ ((rless_any x e _ _ _ _ w').mono ?_)
           ·clear hin hg
            obtain ⟨ek, ef⟩ := evs a
            generalize a.eval = ev at *
            go_simp
            all_goals first | omega | (intro _; omega) | go_arith
           ·rintro e w2 ⟨rfl, g2⟩
            exact ⟨_, rfl, g2, by rw [HL.out]; rfl⟩
          ·refine need_yes 23 true rfl (fun a w' hin => ins_on hin 23 (by kernel_rfl)) (fun a w' hg hin => ?_)
           have e44 : a.eval (.tmp 44) = _ := ins_on hin 30 (by kernel_rfl)
           refine upon_val ?_ rfl
           clear hin hg
           obtain ⟨ek, ef⟩ := evs a
           generalize a.eval = ev at *
           go_simp
           all_goals first | omega | (intro _; omega) | go_arith
          ·refine need_yes 20 false rfl (fun a w' hin => ins_on hin 20 (by kernel_rfl)) (fun a w' hg hin => ?_)
           have ec : a.eval (.tmp 37) = _ := ins_on hin 23 (by kernel_rfl)
           have e : a.eval (.tmp 45) = _ := ins_on hin 31 (by kernel_rfl)
           exact upon_pick rfl ec e
          ·refine need_plain rfl (fun a w' hg hin => ?_)
           have ec : a.eval (.tmp 34) = _ := ins_on hin 20 (by kernel_rfl)
           have e : a.eval (.tmp 46) = _ := ins_on hin 32 (by kernel_rfl)
           exact upon_pick rfl ec e
         ·intro vs w' hg ht
          obtain ⟨q14, q15, q16, q17, q18, q19, q20, q21, q22, q23, q24, q25, q26, q27, q28, q29, q30, q31, q32, q33, q34, q35, q36, q37, q38, q39, q40, q41, q42, q43, q44, q45, q46, q47, -⟩ := ht
          have r14 : vs 0 = .pointer (some ⟨g, 0, none⟩) := q14
          have r15 : vs 1 = .agg #[.int .i64 e.rc.kind, .int .i64 e.rc.key, .int .i64 e.rc.ver, .slice a1 e.rc.data.length c1] := q15
          have r16 : vs 2 = .int .i64 W := q16
          have r17 : vs 3 = .bool false := q17
          have r18 : vs 4 = .bool false := q18
          have r19 : vs 5 = .pointer (some ⟨g, 0, none⟩) := q19
          have r20 : vs 6 = .pointer (some ⟨g, 0, none⟩) := q20
          have r21 : vs 7 = .int .i64 e.rc.kind := q21
          have r22 : vs 8 = .bool false := q22
          have r23 : vs 9 = .bool false := q23
          have r24 : vs 10 = .bool false := q24
          have r25 : vs 11 = .pointer (some ⟨g, 4, none⟩) := q25
          have r26 : vs 12 = .int .i64 e.pair := q26
          have r27 : vs 13 = .bool false := q27
          have r28 : vs 14 = .bool false := q28
          have r29 : vs 15 = .bool false := q29
          have r30 : vs 16 = .pointer (some ⟨g, 4, none⟩) := q30
          have r31 : vs 17 = .int .i64 e.pair := q31
          have r32 : vs 18 = .bool false := q32
          have r33 : vs 19 = .bool false := q33
          have r34 : vs 20 = .bool false := q34
          have r35 : vs 21 = .int .i64 k := q35
          have r36 : vs 22 = .bool true := q36
          have r37 : vs 23 = .bool true := q37
          have r38 : vs 24 = .slice (some ⟨b, off, none⟩) l.length cp := q38
          have r39 : vs 25 = .int .i64 k := q39
          have r40 : vs 26 = .int .i64 k1 := q40
          have r41 : vs 27 = .pointer (some ⟨b, off + k1 * 5, none⟩) := q41
          have r42 : vs 28 = .agg #[.int .i64 x.rc.kind, .int .i64 x.rc.key, .int .i64 x.rc.ver, .slice a2 x.rc.data.length c2, .int .i64 x.pair] := q42
          have r43 : vs 29 = .agg #[.int .i64 e.rc.kind, .int .i64 e.rc.key, .int .i64 e.rc.ver, .slice a1 e.rc.data.length c1, .int .i64 e.pair] := q43
          have r44 : vs 30 = .bool true := q44
          have r45 : vs 31 = .bool false := q45
          have r46 : vs 32 = .bool false := q46
          have r47 : vs 33 = .bool false := q47
          clear q14 q15 q16 q17 q18 q19 q20 q21 q22 q23 q24 q25 q26 q27 q28 q29 q30 q31 q32 q33 q34 q35 q36 q37 q38 q39 q40 q41 q42 q43 q44 q45 q46 q47
          simp only [putAll, Act.put, List.setIfInBounds_toArray, List.set_cons_zero, List.set_cons_succ, r14, r15, r16, r17, r18, r19, r20, r21, r22, r23, r24, r25, r26, r27, r28, r29, r30, r31, r32, r33, r34, r35, r36, r37, r38, r39, r40, r41, r42, r43, r44, r45, r46, r47]
          clear r14 r15 r16 r17 r18 r19 r20 r21 r22 r23 r24 r25 r26 r27 r28 r29 r30 r31 r32 r33 r34 r35 r36 r37 r38 r39 r40 r41 r42 r43 r44 r45 r46 r47
          clear p0 p1 p2 p3 p4 hz HL HLL hka hkb hk1l HSL1
          have gr2 := hgr.trans (g1.trans hg)
          have hX2 := (hg.block _ (heap_lt hX1)).trans hX1
          have HX2 : Hid _ := hX2
          have hcpl : k ≤ cp := by
           rcases hs with ⟨_, _, h1, h2, _⟩ | ⟨_, _, _, _, h1, h2, _⟩
           ·rw [h2] at hlt; simp at hlt
           ·cases h1; omega
          clear hg hX1 hu1 g1 hX2 HSL
          go_wp2_with fail
          obtain ⟨wo, rfl⟩ : ∃ wo : World, wo = wr := ⟨_, rfl⟩
          go_loopw [52] (fun i wq => ∃ j : Nat, j ≤ k ∧ i = .int .i64 j ∧ (l.take j).all (fun x => decide (x.pair ≠ e.pair)) = true ∧ Grow w wq ∧ wq.heap[g]? = some (.cells #[.int .i64 e.rc.kind, .int .i64 e.rc.key, .int .i64 e.rc.ver, .slice a1 e.rc.data.length c1, .int .i64 e.pair] 37 (0, 0))) (fun i _ => k - (intOf i).toNat)
          case atStart => exact ⟨0, by omega, rfl, rfl, gr2, HX2.out⟩
          case round =>
           clear gr2 HX2
           obtain ⟨j, hj, rfl, hall, hgq, hXq⟩ := hrel
           have HAL : Hid _ := hall
           clear hall
           by_cases hjl : j < k
           ·have hjl2 : j < l.length := by omega
            obtain ⟨b3, off3, a3, c3, hv3, p0, p1, p2, p3, p4, hz3⟩ := ents_at (hs.grow hgq) j hjl2
            cases hv3
            have HA1 : Hid (l[j].pair ≠ e.pair → (l.take (j + 1)).all (fun x => decide (x.pair ≠ e.pair)) = true) := fun h => by
             rw [List.take_succ_eq_append_getElem hjl2, List.all_append, HAL.out]; simp [h]
            have HA2 : Hid (l[j].pair = e.pair → R = false) := fun h => by
             rw [HZ.out]
             have : (l.take k).all (fun x => decide (x.pair ≠ e.pair)) = false := by
              rw [List.all_eq_false]
              exact ⟨l[j], by rw [List.mem_take_iff_getElem]; exact ⟨j, by omega, rfl⟩, by simp [h]⟩
             rw [this]; rfl
            generalize l[j] = z at *
            have g5 := grow_alloc wr (.cells #[.int .i64 z.rc.kind, .int .i64 z.rc.key, .int .i64 z.rc.ver, .slice a3 z.rc.data.length c3, .int .i64 z.pair] 37)
            have hZ5 := heap_new wr #[.int .i64 z.rc.kind, .int .i64 z.rc.key, .int .i64 z.rc.ver, .slice a3 z.rc.data.length c3, .int .i64 z.pair] 37
            have hX5 := (g5.block _ (heap_lt hXq)).trans hXq
            have gw5 := hgq.trans g5
            have z4 := box_cell hZ5 4 _ rfl
            have x4 := box_cell hX5 4 _ rfl
            clear hz3 hgq hXq g5 hZ5
            by_cases hpz : z.pair = e.pair
            ·have hRf : R = false := HA2.out hpz
             subst hRf
             have d5 : (z.pair == e.pair) = true := by simp [hpz]
             clear HA1 HA2 hpz
             go_wp2_with fail
             go_ret
             exact ⟨rfl, gw5⟩
            ·have d5 : (z.pair == e.pair) = false := by simp [hpz]
             have HB : Hid _ := HA1.out hpz
             clear HA1 HA2 hpz
             go_wp2_with fail
             go_roundw
             case rel => exact ⟨j + 1, by omega, by go_num, HB.out, gw5, hX5⟩
             case measure => simp [intOf]; omega
           ·have hjk : j = k := by omega
            have HK2 : Hid (R = rightFrom (l.take (k + 1)) (l.drop (k + 1))) := by
             show R = _
             have h := HAL.out
             rw [hjk] at h
             rw [HZ.out, h]; rfl
            clear hjk HZ
            go_wp2_with fail
            go_roundw
            case rel => exact ⟨k + 1, by omega, by go_num, HK2, hgq⟩
            case measure => simp [intOf]; omega
       ·have HZ : Hid (R = ((l.take k).all (fun x => decide (x.pair ≠ e.pair)) && rightFrom (l.take (k + 1)) (l.drop (k + 1)))) := by
         show R = _
         rw [HE.out, HOK.out true _ (by rw [show k = 0 from by omega]; rfl) rfl]; rfl
        clear HX HE HOK
        go_wp2_with fail
        clear q0 q1 q2 q3 q4
        generalize World.alloc wr _ = W1 at *
        generalize wr.heap.size = g at *
        refine wp_region_told [ex (.pointer (some ⟨g, 0, none⟩)), ex (.agg #[.int .i64 e.rc.kind, .int .i64 e.rc.key, .int .i64 e.rc.ver, .slice a1 e.rc.data.length c1]), ex (.int .i64 W), ex (.bool false), ex (.bool false), ex (.pointer (some ⟨g, 0, none⟩)), ex (.pointer (some ⟨g, 0, none⟩)), ex (.int .i64 e.rc.kind), ex (.bool false), ex (.bool false), ex (.bool false), ex (.pointer (some ⟨g, 4, none⟩)), ex (.int .i64 e.pair), ex (.bool false), ex (.bool false), ex (.bool false), ex (.pointer (some ⟨g, 4, none⟩)), ex (.int .i64 e.pair), ex (.bool false), ex (.bool false), ex (.bool false), ex (.int .i64 k), ex (.bool false), ex (.bool false), ex (undef), ex (undef), ex (undef), ex (undef), ex (undef), ex (undef), ex (undef), ex (undef), ex (.bool false), ex (.bool false)] (by kernel_rfl) (by kernel_rfl) ⟨st_ex _, st_ex _, st_ex _, st_ex _, st_ex _, st_ex _, st_ex _, st_ex _, st_ex _, st_ex _, st_ex _, st_ex _, st_ex _, st_ex _, st_ex _, st_ex _, st_ex _, st_ex _, st_ex _, st_ex _, st_ex _, st_ex _, st_ex _, st_ex _, st_ex _, st_ex _, st_ex _, st_ex _, st_ex _, st_ex _, st_ex _, st_ex _, st_ex _, st_ex _, trivial⟩ ?_ ?_
        ·refine ⟨?_, ?_, ?_, ?_, ?_, ?_, ?_, ?_, ?_, ?_, ?_, ?_, ?_, ?_, ?_, ?_, ?_, ?_, ?_, ?_, ?_, ?_, ?_, ?_, ?_, ?_, ?_, ?_, ?_, ?_, ?_, ?_, ?_, ?_, trivial⟩
         ·refine need_plain rfl (fun a w' hg hin => ?_)
          have e4 : a.eval (.tmp 4) = .pointer (some ⟨g, 0, none⟩) := ins_ext hin 4 (by kernel_rfl)
          refine upon_val ?_ rfl
          clear hin hg
          obtain ⟨ek, ef⟩ := evs a
          generalize a.eval = ev at *
          go_simp
          all_goals first | omega | (intro _; omega) | go_arith
         ·refine need_plain rfl (fun a w' hg hin => ?_)
          have e14 : a.eval (.tmp 14) = _ := ins_on hin 0 (by kernel_rfl)
          have hX := (hg.block _ (heap_lt hX1)).trans hX1
          obtain ⟨y0, y1, y2, y3⟩ := box4 hX rfl rfl rfl rfl
          refine upon_val ?_ rfl
          clear hin hg hX
          obtain ⟨ek, ef⟩ := evs a
          generalize a.eval = ev at *
          go_simp
          all_goals first | omega | (intro _; omega) | go_arith
         ·refine need_plain rfl (fun a w' hg hin => ?_)
          have e15 : a.eval (.tmp 15) = _ := ins_on hin 1 (by kernel_rfl)
          refine upon_call (f := 40) (args := #[.agg #[.int .i64 e.rc.kind, .int .i64 e.rc.key, .int .i64 e.rc.ver, .slice a1 e.rc.data.length c1]]) ?_ ((rwrong_any _ _ _ e.rc.data _ w' (bytes_grow hu1.p hg)).mono ?_)
          ·clear hin hg
           obtain ⟨ek, ef⟩ := evs a
           generalize a.eval = ev at *
           go_simp
           all_goals first | omega | (intro _; omega) | go_arith
          ·rintro e w2 ⟨rfl, g2⟩
           exact ⟨_, rfl, g2, by rw [HW.out]; rfl⟩
         ·refine need_plain rfl (fun a w' hg hin => ?_)
          have e16 : a.eval (.tmp 16) = _ := ins_on hin 2 (by kernel_rfl)
          refine upon_val ?_ rfl
          clear hin hg
          obtain ⟨ek, ef⟩ := evs a
          generalize a.eval = ev at *
          go_simp
          all_goals first | omega | (intro _; omega) | go_arith
         ·refine need_plain rfl (fun a w' hg hin => ?_)
          have e : a.eval (.tmp 17) = _ := ins_on hin 3 (by kernel_rfl)
          exact upon_move rfl e
         ·refine need_yes 4 false rfl (fun a w' hin => ins_on hin 4 (by kernel_rfl)) (fun a w' hg hin => ?_)
          have e4 : a.eval (.tmp 4) = .pointer (some ⟨g, 0, none⟩) := ins_ext hin 4 (by kernel_rfl)
          refine upon_val ?_ rfl
          clear hin hg
          obtain ⟨ek, ef⟩ := evs a
          generalize a.eval = ev at *
          go_simp
          all_goals first | omega | (intro _; omega) | go_arith
         ·refine need_yes 4 false rfl (fun a w' hin => ins_on hin 4 (by kernel_rfl)) (fun a w' hg hin => ?_)
          have e19 : a.eval (.tmp 19) = _ := ins_on hin 5 (by kernel_rfl)
          refine upon_val ?_ rfl
          clear hin hg
          obtain ⟨ek, ef⟩ := evs a
          generalize a.eval = ev at *
          go_simp
          all_goals first | omega | (intro _; omega) | go_arith
         ·refine need_yes 4 false rfl (fun a w' hin => ins_on hin 4 (by kernel_rfl)) (fun a w' hg hin => ?_)
          have e20 : a.eval (.tmp 20) = _ := ins_on hin 6 (by kernel_rfl)
          have hX := (hg.block _ (heap_lt hX1)).trans hX1
          have y0 := box_cell hX 0 _ rfl
          refine upon_val ?_ rfl
          clear hin hg hX
          obtain ⟨ek, ef⟩ := evs a
          generalize a.eval = ev at *
          go_simp
          all_goals first | omega | (intro _; omega) | go_arith
         ·refine need_yes 4 false rfl (fun a w' hin => ins_on hin 4 (by kernel_rfl)) (fun a w' hg hin => ?_)
          have e21 : a.eval (.tmp 21) = _ := ins_on hin 7 (by kernel_rfl)
          refine upon_val ?_ rfl
          clear hin hg
          obtain ⟨ek, ef⟩ := evs a
          generalize a.eval = ev at *
          go_simp
          all_goals first | omega | (intro _; omega) | go_arith
         ·refine need_plain rfl (fun a w' hg hin => ?_)
          have ec : a.eval (.tmp 18) = _ := ins_on hin 4 (by kernel_rfl)
          have e : a.eval (.tmp 22) = _ := ins_on hin 8 (by kernel_rfl)
          exact upon_pick rfl ec e
         ·refine need_plain rfl (fun a w' hg hin => ?_)
          have e : a.eval (.tmp 23) = _ := ins_on hin 9 (by kernel_rfl)
          exact upon_move rfl e
         ·refine need_yes 10 false rfl (fun a w' hin => ins_on hin 10 (by kernel_rfl)) (fun a w' hg hin => ?_)
          have e4 : a.eval (.tmp 4) = .pointer (some ⟨g, 0, none⟩) := ins_ext hin 4 (by kernel_rfl)
          refine upon_val ?_ rfl
          clear hin hg
          obtain ⟨ek, ef⟩ := evs a
          generalize a.eval = ev at *
          go_simp
          all_goals first | omega | (intro _; omega) | go_arith
         ·refine need_yes 10 false rfl (fun a w' hin => ins_on hin 10 (by kernel_rfl)) (fun a w' hg hin => ?_)
          have e25 : a.eval (.tmp 25) = _ := ins_on hin 11 (by kernel_rfl)
          have hX := (hg.block _ (heap_lt hX1)).trans hX1
          have y0 := box_cell hX 4 _ rfl
          refine upon_val ?_ rfl
          clear hin hg hX
          obtain ⟨ek, ef⟩ := evs a
          generalize a.eval = ev at *
          go_simp
          all_goals first | omega | (intro _; omega) | go_arith
         ·refine need_yes 10 false rfl (fun a w' hin => ins_on hin 10 (by kernel_rfl)) (fun a w' hg hin => ?_)
          have e26 : a.eval (.tmp 26) = _ := ins_on hin 12 (by kernel_rfl)
          refine upon_val ?_ rfl
          clear hin hg
          obtain ⟨ek, ef⟩ := evs a
          generalize a.eval = ev at *
          go_simp
          all_goals first | omega | (intro _; omega) | go_arith
         ·refine need_plain rfl (fun a w' hg hin => ?_)
          have ec : a.eval (.tmp 24) = _ := ins_on hin 10 (by kernel_rfl)
          have e : a.eval (.tmp 27) = _ := ins_on hin 13 (by kernel_rfl)
          exact upon_pick rfl ec e
         ·refine need_plain rfl (fun a w' hg hin => ?_)
          have e : a.eval (.tmp 28) = _ := ins_on hin 14 (by kernel_rfl)
          exact upon_move rfl e
         ·refine need_yes 15 false rfl (fun a w' hin => ins_on hin 15 (by kernel_rfl)) (fun a w' hg hin => ?_)
          have e4 : a.eval (.tmp 4) = .pointer (some ⟨g, 0, none⟩) := ins_ext hin 4 (by kernel_rfl)
          refine upon_val ?_ rfl
          clear hin hg
          obtain ⟨ek, ef⟩ := evs a
          generalize a.eval = ev at *
          go_simp
          all_goals first | omega | (intro _; omega) | go_arith
         ·refine need_yes 15 false rfl (fun a w' hin => ins_on hin 15 (by kernel_rfl)) (fun a w' hg hin => ?_)
          have e30 : a.eval (.tmp 30) = _ := ins_on hin 16 (by kernel_rfl)
          have hX := (hg.block _ (heap_lt hX1)).trans hX1
          have y0 := box_cell hX 4 _ rfl
          refine upon_val ?_ rfl
          clear hin hg hX
          obtain ⟨ek, ef⟩ := evs a
          generalize a.eval = ev at *
          go_simp
          all_goals first | omega | (intro _; omega) | go_arith
         ·refine need_yes 15 false rfl (fun a w' hin => ins_on hin 15 (by kernel_rfl)) (fun a w' hg hin => ?_)
          have e31 : a.eval (.tmp 31) = _ := ins_on hin 17 (by kernel_rfl)
          refine upon_val ?_ rfl
          clear hin hg
          obtain ⟨ek, ef⟩ := evs a
          generalize a.eval = ev at *
          go_simp
          all_goals first | omega | (intro _; omega) | go_arith
         ·refine need_plain rfl (fun a w' hg hin => ?_)
          have ec : a.eval (.tmp 29) = _ := ins_on hin 15 (by kernel_rfl)
          have e : a.eval (.tmp 32) = _ := ins_on hin 18 (by kernel_rfl)
          exact upon_pick rfl ec e
         ·refine need_plain rfl (fun a w' hg hin => ?_)
          have e : a.eval (.tmp 33) = _ := ins_on hin 19 (by kernel_rfl)
          exact upon_move rfl e
         ·refine need_yes 20 false rfl (fun a w' hin => ins_on hin 20 (by kernel_rfl)) (fun a w' hg hin => ?_)
          have e : a.eval (.tmp 3) = .int .i64 k := ins_ext hin 3 (by kernel_rfl)
          exact upon_move rfl e
         ·refine need_yes 20 false rfl (fun a w' hin => ins_on hin 20 (by kernel_rfl)) (fun a w' hg hin => ?_)
          have e35 : a.eval (.tmp 35) = _ := ins_on hin 21 (by kernel_rfl)
          refine upon_val ?_ rfl
          clear hin hg
          obtain ⟨ek, ef⟩ := evs a
          generalize a.eval = ev at *
          go_simp
          all_goals first | omega | (intro _; omega) | go_arith
         ·refine need_yes 20 false rfl (fun a w' hin => ins_on hin 20 (by kernel_rfl)) (fun a w' hg hin => ?_)
          have e : a.eval (.tmp 36) = _ := ins_on hin 22 (by kernel_rfl)
          exact upon_move rfl e
         ·refine need_no 23 true false rfl (by decide) (fun a w' hin => ins_on hin 23 (by kernel_rfl)) (fun _ => rfl)
         ·refine need_no 23 true false rfl (by decide) (fun a w' hin => ins_on hin 23 (by kernel_rfl)) (fun _ => rfl)
         ·refine need_no 23 true false rfl (by decide) (fun a w' hin => ins_on hin 23 (by kernel_rfl)) (fun _ => rfl)
         ·refine need_no 23 true false rfl (by decide) (fun a w' hin => ins_on hin 23 (by kernel_rfl)) (fun _ => rfl)
         ·refine need_no 23 true false rfl (by decide) (fun a w' hin => ins_on hin 23 (by kernel_rfl)) (fun _ => rfl)
         ·refine need_no 23 true false rfl (by decide) (fun a w' hin => ins_on hin 23 (by kernel_rfl)) (fun _ => rfl)
         ·refine need_no 23 true false rfl (by decide) (fun a w' hin => ins_on hin 23 (by kernel_rfl)) (fun _ => rfl)
         ·refine need_no 23 true false rfl (by decide) (fun a w' hin => ins_on hin 23 (by kernel_rfl)) (fun _ => rfl)
         ·refine need_yes 20 false rfl (fun a w' hin => ins_on hin 20 (by kernel_rfl)) (fun a w' hg hin => ?_)
          have ec : a.eval (.tmp 37) = _ := ins_on hin 23 (by kernel_rfl)
          exact upon_pick rfl ec rfl
         ·refine need_plain rfl (fun a w' hg hin => ?_)
          have ec : a.eval (.tmp 34) = _ := ins_on hin 20 (by kernel_rfl)
          have e : a.eval (.tmp 46) = _ := ins_on hin 32 (by kernel_rfl)
          exact upon_pick rfl ec e
        ·intro vs w' hg ht
         obtain ⟨q14, q15, q16, q17, q18, q19, q20, q21, q22, q23, q24, q25, q26, q27, q28, q29, q30, q31, q32, q33, q34, q35, q36, q37, q38, q39, q40, q41, q42, q43, q44, q45, q46, q47, -⟩ := ht
         have r14 : vs 0 = .pointer (some ⟨g, 0, none⟩) := q14
         have r15 : vs 1 = .agg #[.int .i64 e.rc.kind, .int .i64 e.rc.key, .int .i64 e.rc.ver, .slice a1 e.rc.data.length c1] := q15
         have r16 : vs 2 = .int .i64 W := q16
         have r17 : vs 3 = .bool false := q17
         have r18 : vs 4 = .bool false := q18
         have r19 : vs 5 = .pointer (some ⟨g, 0, none⟩) := q19
         have r20 : vs 6 = .pointer (some ⟨g, 0, none⟩) := q20
         have r21 : vs 7 = .int .i64 e.rc.kind := q21
         have r22 : vs 8 = .bool false := q22
         have r23 : vs 9 = .bool false := q23
         have r24 : vs 10 = .bool false := q24
         have r25 : vs 11 = .pointer (some ⟨g, 4, none⟩) := q25
         have r26 : vs 12 = .int .i64 e.pair := q26
         have r27 : vs 13 = .bool false := q27
         have r28 : vs 14 = .bool false := q28
         have r29 : vs 15 = .bool false := q29
         have r30 : vs 16 = .pointer (some ⟨g, 4, none⟩) := q30
         have r31 : vs 17 = .int .i64 e.pair := q31
         have r32 : vs 18 = .bool false := q32
         have r33 : vs 19 = .bool false := q33
         have r34 : vs 20 = .bool false := q34
         have r35 : vs 21 = .int .i64 k := q35
         have r36 : vs 22 = .bool false := q36
         have r37 : vs 23 = .bool false := q37
         have r38 : vs 24 = undef := q38
         have r39 : vs 25 = undef := q39
         have r40 : vs 26 = undef := q40
         have r41 : vs 27 = undef := q41
         have r42 : vs 28 = undef := q42
         have r43 : vs 29 = undef := q43
         have r44 : vs 30 = undef := q44
         have r45 : vs 31 = undef := q45
         have r46 : vs 32 = .bool false := q46
         have r47 : vs 33 = .bool false := q47
         clear q14 q15 q16 q17 q18 q19 q20 q21 q22 q23 q24 q25 q26 q27 q28 q29 q30 q31 q32 q33 q34 q35 q36 q37 q38 q39 q40 q41 q42 q43 q44 q45 q46 q47
         simp only [putAll, Act.put, List.setIfInBounds_toArray, List.set_cons_zero, List.set_cons_succ, r14, r15, r16, r17, r18, r19, r20, r21, r22, r23, r24, r25, r26, r27, r28, r29, r30, r31, r32, r33, r34, r35, r36, r37, r38, r39, r40, r41, r42, r43, r44, r45, r46, r47]
         clear r14 r15 r16 r17 r18 r19 r20 r21 r22 r23 r24 r25 r26 r27 r28 r29 r30 r31 r32 r33 r34 r35 r36 r37 r38 r39 r40 r41 r42 r43 r44 r45 r46 r47
         clear hk0
         have gr2 := hgr.trans (g1.trans hg)
         have hX2 := (hg.block _ (heap_lt hX1)).trans hX1
         have HX2 : Hid _ := hX2
         have hcpl : k ≤ cp := by
          rcases hs with ⟨_, _, h1, h2, _⟩ | ⟨_, _, _, _, h1, h2, _⟩
          ·rw [h2] at hlt; simp at hlt
          ·cases h1; omega
         clear hg hX1 hu1 g1 hX2 HSL
         go_wp2_with fail
         obtain ⟨wo, rfl⟩ : ∃ wo : World, wo = wr := ⟨_, rfl⟩
         go_loopw [52] (fun i wq => ∃ j : Nat, j ≤ k ∧ i = .int .i64 j ∧ (l.take j).all (fun x => decide (x.pair ≠ e.pair)) = true ∧ Grow w wq ∧ wq.heap[g]? = some (.cells #[.int .i64 e.rc.kind, .int .i64 e.rc.key, .int .i64 e.rc.ver, .slice a1 e.rc.data.length c1, .int .i64 e.pair] 37 (0, 0))) (fun i _ => k - (intOf i).toNat)
         case atStart => exact ⟨0, by omega, rfl, rfl, gr2, HX2.out⟩
         case round =>
          clear gr2 HX2
          obtain ⟨j, hj, rfl, hall, hgq, hXq⟩ := hrel
          have HAL : Hid _ := hall
          clear hall
          by_cases hjl : j < k
          ·have hjl2 : j < l.length := by omega
           obtain ⟨b3, off3, a3, c3, hv3, p0, p1, p2, p3, p4, hz3⟩ := ents_at (hs.grow hgq) j hjl2
           cases hv3
           have HA1 : Hid (l[j].pair ≠ e.pair → (l.take (j + 1)).all (fun x => decide (x.pair ≠ e.pair)) = true) := fun h => by
            rw [List.take_succ_eq_append_getElem hjl2, List.all_append, HAL.out]; simp [h]
           have HA2 : Hid (l[j].pair = e.pair → R = false) := fun h => by
            rw [HZ.out]
            have : (l.take k).all (fun x => decide (x.pair ≠ e.pair)) = false := by
             rw [List.all_eq_false]
             exact ⟨l[j], by rw [List.mem_take_iff_getElem]; exact ⟨j, by omega, rfl⟩, by simp [h]⟩
            rw [this]; rfl
           generalize l[j] = z at *
           have g5 := grow_alloc wr (.cells #[.int .i64 z.rc.kind, .int .i64 z.rc.key, .int .i64 z.rc.ver, .slice a3 z.rc.data.length c3, .int .i64 z.pair] 37)
           have hZ5 := heap_new wr #[.int .i64 z.rc.kind, .int .i64 z.rc.key, .int .i64 z.rc.ver, .slice a3 z.rc.data.length c3, .int .i64 z.pair] 37
           have hX5 := (g5.block _ (heap_lt hXq)).trans hXq
           have gw5 := hgq.trans g5
           have z4 := box_cell hZ5 4 _ rfl
           have x4 := box_cell hX5 4 _ rfl
           clear hz3 hgq hXq g5 hZ5
           by_cases hpz : z.pair = e.pair
           ·have hRf : R = false := HA2.out hpz
            subst hRf
            have d5 : (z.pair == e.pair) = true := by simp [hpz]
            clear HA1 HA2 hpz
            go_wp2_with fail
            go_ret
            exact ⟨rfl, gw5⟩
           ·have d5 : (z.pair == e.pair) = false := by simp [hpz]
            have HB : Hid _ := HA1.out hpz
            clear HA1 HA2 hpz
            go_wp2_with fail
            go_roundw
            case rel => exact ⟨j + 1, by omega, by go_num, HB.out, gw5, hX5⟩
            case measure => simp [intOf]; omega
          ·have hjk : j = k := by omega
           have HK2 : Hid (R = rightFrom (l.take (k + 1)) (l.drop (k + 1))) := by
            show R = _
            have h := HAL.out
            rw [hjk] at h
            rw [HZ.out, h]; rfl
           clear hjk HZ
           go_wp2_with fail
           go_roundw
           case rel => exact ⟨k + 1, by omega, by go_num, HK2, hgq⟩
           case measure => simp [intOf]; omega
   ·have hRf : R = false := HX.out (by unfold okE; rw [← HW.out]; simp [hw])
    subst hRf
    have d0 : (W != 0) = true := by simp [hw]
    clear HX HE hw
    go_wp2_with fail
    clear q0 q1 q2 q3 q4 HSL
    generalize World.alloc wr _ = W1 at *
    generalize wr.heap.size = g at *
    refine wp_region_told [ex (.pointer (some ⟨g, 0, none⟩)), ex (.agg #[.int .i64 e.rc.kind, .int .i64 e.rc.key, .int .i64 e.rc.ver, .slice a1 e.rc.data.length c1]), ex (.int .i64 W), ex (.bool true), ex (.bool true), ex (undef), ex (undef), ex (undef), ex (undef), ex (.bool true), ex (.bool true), ex (undef), ex (undef), ex (undef), ex (.bool true), ex (.bool true), ex (undef), ex (undef), ex (undef), ex (.bool true), ex (.bool true), ex (undef), ex (undef), ex (undef), ex (undef), ex (undef), ex (undef), ex (undef), ex (undef), ex (undef), ex (undef), ex (undef), ex (undef), ex (.bool true)] (by kernel_rfl) (by kernel_rfl) ⟨st_ex _, st_ex _, st_ex _, st_ex _, st_ex _, st_ex _, st_ex _, st_ex _, st_ex _, st_ex _, st_ex _, st_ex _, st_ex _, st_ex _, st_ex _, st_ex _, st_ex _, st_ex _, st_ex _, st_ex _, st_ex _, st_ex _, st_ex _, st_ex _, st_ex _, st_ex _, st_ex _, st_ex _, st_ex _, st_ex _, st_ex _, st_ex _, st_ex _, st_ex _, trivial⟩ ?_ ?_
    ·refine ⟨?_, ?_, ?_, ?_, ?_, ?_, ?_, ?_, ?_, ?_, ?_, ?_, ?_, ?_, ?_, ?_, ?_, ?_, ?_, ?_, ?_, ?_, ?_, ?_, ?_, ?_, ?_, ?_, ?_, ?_, ?_, ?_, ?_, ?_, trivial⟩
     ·refine need_plain rfl (fun a w' hg hin => ?_)
      have e4 : a.eval (.tmp 4) = .pointer (some ⟨g, 0, none⟩) := ins_ext hin 4 (by kernel_rfl)
      refine upon_val ?_ rfl
      clear hin hg
      obtain ⟨ek, ef⟩ := evs a
      generalize a.eval = ev at *
      go_simp
      all_goals first | omega | (intro _; omega) | go_arith
     ·refine need_plain rfl (fun a w' hg hin => ?_)
      have e14 : a.eval (.tmp 14) = _ := ins_on hin 0 (by kernel_rfl)
      have hX := (hg.block _ (heap_lt hX1)).trans hX1
      obtain ⟨y0, y1, y2, y3⟩ := box4 hX rfl rfl rfl rfl
      refine upon_val ?_ rfl
      clear hin hg hX
      obtain ⟨ek, ef⟩ := evs a
      generalize a.eval = ev at *
      go_simp
      all_goals first | omega | (intro _; omega) | go_arith
     ·refine need_plain rfl (fun a w' hg hin => ?_)
      have e15 : a.eval (.tmp 15) = _ := ins_on hin 1 (by kernel_rfl)
      refine upon_call (f := 40) (args := #[.agg #[.int .i64 e.rc.kind, .int .i64 e.rc.key, .int .i64 e.rc.ver, .slice a1 e.rc.data.length c1]]) ?_ ((rwrong_any _ _ _ e.rc.data _ w' (bytes_grow hu1.p hg)).mono ?_)
      ·clear hin hg
       obtain ⟨ek, ef⟩ := evs a
       generalize a.eval = ev at *
       go_simp
       all_goals first | omega | (intro _; omega) | go_arith
      ·rintro e w2 ⟨rfl, g2⟩
       exact ⟨_, rfl, g2, by rw [HW.out]; rfl⟩
     ·refine need_plain rfl (fun a w' hg hin => ?_)
      have e16 : a.eval (.tmp 16) = _ := ins_on hin 2 (by kernel_rfl)
      refine upon_val ?_ rfl
      clear hin hg
      obtain ⟨ek, ef⟩ := evs a
      generalize a.eval = ev at *
      go_simp
      all_goals first | omega | (intro _; omega) | go_arith
     ·refine need_plain rfl (fun a w' hg hin => ?_)
      have e : a.eval (.tmp 17) = _ := ins_on hin 3 (by kernel_rfl)
      exact upon_move rfl e
     ·refine need_no 4 false true rfl (by decide) (fun a w' hin => ins_on hin 4 (by kernel_rfl)) (fun _ => rfl)
     ·refine need_no 4 false true rfl (by decide) (fun a w' hin => ins_on hin 4 (by kernel_rfl)) (fun _ => rfl)
     ·refine need_no 4 false true rfl (by decide) (fun a w' hin => ins_on hin 4 (by kernel_rfl)) (fun _ => rfl)
     ·refine need_no 4 false true rfl (by decide) (fun a w' hin => ins_on hin 4 (by kernel_rfl)) (fun _ => rfl)
     ·refine need_plain rfl (fun a w' hg hin => ?_)
      have ec : a.eval (.tmp 18) = _ := ins_on hin 4 (by kernel_rfl)
      exact upon_pick rfl ec rfl
     ·refine need_plain rfl (fun a w' hg hin => ?_)
      have e : a.eval (.tmp 23) = _ := ins_on hin 9 (by kernel_rfl)
      exact upon_move rfl e
     ·refine need_no 10 false true rfl (by decide) (fun a w' hin => ins_on hin 10 (by kernel_rfl)) (fun _ => rfl)
     ·refine need_no 10 false true rfl (by decide) (fun a w' hin => ins_on hin 10 (by kernel_rfl)) (fun _ => rfl)
     ·refine need_no 10 false true rfl (by decide) (fun a w' hin => ins_on hin 10 (by kernel_rfl)) (fun _ => rfl)
     ·refine need_plain rfl (fun a w' hg hin => ?_)
      have ec : a.eval (.tmp 24) = _ := ins_on hin 10 (by kernel_rfl)
      exact upon_pick rfl ec rfl
     ·refine need_plain rfl (fun a w' hg hin => ?_)
      have e : a.eval (.tmp 28) = _ := ins_on hin 14 (by kernel_rfl)
      exact upon_move rfl e
     ·refine need_no 15 false true rfl (by decide) (fun a w' hin => ins_on hin 15 (by kernel_rfl)) (fun _ => rfl)
     ·refine need_no 15 false true rfl (by decide) (fun a w' hin => ins_on hin 15 (by kernel_rfl)) (fun _ => rfl)
     ·refine need_no 15 false true rfl (by decide) (fun a w' hin => ins_on hin 15 (by kernel_rfl)) (fun _ => rfl)
     ·refine need_plain rfl (fun a w' hg hin => ?_)
      have ec : a.eval (.tmp 29) = _ := ins_on hin 15 (by kernel_rfl)
      exact upon_pick rfl ec rfl
     ·refine need_plain rfl (fun a w' hg hin => ?_)
      have e : a.eval (.tmp 33) = _ := ins_on hin 19 (by kernel_rfl)
      exact upon_move rfl e
     ·refine need_no 20 false true rfl (by decide) (fun a w' hin => ins_on hin 20 (by kernel_rfl)) (fun _ => rfl)
     ·refine need_no 20 false true rfl (by decide) (fun a w' hin => ins_on hin 20 (by kernel_rfl)) (fun _ => rfl)
     ·refine need_no 20 false true rfl (by decide) (fun a w' hin => ins_on hin 20 (by kernel_rfl)) (fun _ => rfl)
     ·refine need_undef 23 true rfl (fun a w' hin => ins_on hin 23 (by kernel_rfl)) (fun _ => rfl)
     ·refine need_undef 23 true rfl (fun a w' hin => ins_on hin 23 (by kernel_rfl)) (fun _ => rfl)
     ·refine need_undef 23 true rfl (fun a w' hin => ins_on hin 23 (by kernel_rfl)) (fun _ => rfl)
     ·refine need_undef 23 true rfl (fun a w' hin => ins_on hin 23 (by kernel_rfl)) (fun _ => rfl)
     ·refine need_undef 23 true rfl (fun a w' hin => ins_on hin 23 (by kernel_rfl)) (fun _ => rfl)
     ·refine need_undef 23 true rfl (fun a w' hin => ins_on hin 23 (by kernel_rfl)) (fun _ => rfl)
     ·refine need_undef 23 true rfl (fun a w' hin => ins_on hin 23 (by kernel_rfl)) (fun _ => rfl)
     ·refine need_undef 23 true rfl (fun a w' hin => ins_on hin 23 (by kernel_rfl)) (fun _ => rfl)
     ·refine need_no 20 false true rfl (by decide) (fun a w' hin => ins_on hin 20 (by kernel_rfl)) (fun _ => rfl)
     ·refine need_plain rfl (fun a w' hg hin => ?_)
      have ec : a.eval (.tmp 34) = _ := ins_on hin 20 (by kernel_rfl)
      exact upon_pick rfl ec rfl
    ·intro vs w' hg ht
     obtain ⟨q14, q15, q16, q17, q18, q19, q20, q21, q22, q23, q24, q25, q26, q27, q28, q29, q30, q31, q32, q33, q34, q35, q36, q37, q38, q39, q40, q41, q42, q43, q44, q45, q46, q47, -⟩ := ht
     have r14 : vs 0 = .pointer (some ⟨g, 0, none⟩) := q14
     have r15 : vs 1 = .agg #[.int .i64 e.rc.kind, .int .i64 e.rc.key, .int .i64 e.rc.ver, .slice a1 e.rc.data.length c1] := q15
     have r16 : vs 2 = .int .i64 W := q16
     have r17 : vs 3 = .bool true := q17
     have r18 : vs 4 = .bool true := q18
     have r19 : vs 5 = undef := q19
     have r20 : vs 6 = undef := q20
     have r21 : vs 7 = undef := q21
     have r22 : vs 8 = undef := q22
     have r23 : vs 9 = .bool true := q23
     have r24 : vs 10 = .bool true := q24
     have r25 : vs 11 = undef := q25
     have r26 : vs 12 = undef := q26
     have r27 : vs 13 = undef := q27
     have r28 : vs 14 = .bool true := q28
     have r29 : vs 15 = .bool true := q29
     have r30 : vs 16 = undef := q30
     have r31 : vs 17 = undef := q31
     have r32 : vs 18 = undef := q32
     have r33 : vs 19 = .bool true := q33
     have r34 : vs 20 = .bool true := q34
     have r35 : vs 21 = undef := q35
     have r36 : vs 22 = undef := q36
     have r37 : vs 23 = undef := q37
     have r38 : vs 24 = undef := q38
     have r39 : vs 25 = undef := q39
     have r40 : vs 26 = undef := q40
     have r41 : vs 27 = undef := q41
     have r42 : vs 28 = undef := q42
     have r43 : vs 29 = undef := q43
     have r44 : vs 30 = undef := q44
     have r45 : vs 31 = undef := q45
     have r46 : vs 32 = undef := q46
     have r47 : vs 33 = .bool true := q47
     clear q14 q15 q16 q17 q18 q19 q20 q21 q22 q23 q24 q25 q26 q27 q28 q29 q30 q31 q32 q33 q34 q35 q36 q37 q38 q39 q40 q41 q42 q43 q44 q45 q46 q47
     simp only [putAll, Act.put, List.setIfInBounds_toArray, List.set_cons_zero, List.set_cons_succ, r14, r15, r16, r17, r18, r19, r20, r21, r22, r23, r24, r25, r26, r27, r28, r29, r30, r31, r32, r33, r34, r35, r36, r37, r38, r39, r40, r41, r42, r43, r44, r45, r46, r47]
     clear r14 r15 r16 r17 r18 r19 r20 r21 r22 r23 r24 r25 r26 r27 r28 r29 r30 r31 r32 r33 r34 r35 r36 r37 r38 r39 r40 r41 r42 r43 r44 r45 r46 r47
     have gr2 := hgr.trans (g1.trans hg)
     clear hg hX1 hu1
     go_wp2_with fail
     go_ret
     exact ⟨rfl, gr2⟩
  ·have hRt : R = true := by
    rw [HK.out, show k = l.length from by omega, List.drop_length]; rfl
   subst hRt
   clear HK
   go_wp2_with fail
   go_ret
   exact ⟨rfl, hgr⟩
end Go.Proofs.Ytgaecpdokgklpab
