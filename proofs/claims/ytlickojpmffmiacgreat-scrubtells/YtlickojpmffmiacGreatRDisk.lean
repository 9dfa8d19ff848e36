import Derived.Test.YtlickojpmffmiacGreatBlk
set_option maxHeartbeats 8000000
namespace Go.Proofs.YtlickojpmffmiacGreat
set_option maxRecDepth 100000
open Go.RowKit
open Plain Reg
theorem take_eq_succ {α : Type} (a b : List α) (k : Nat) (ha : k < a.length) (hb : k < b.length) (h : a.take k = b.take k) (he : a[k] = b[k]) : a.take (k + 1) = b.take (k + 1) := by
 rw [List.take_succ_eq_append_getElem ha, List.take_succ_eq_append_getElem hb, h, he]
theorem ne_of_at {α : Type} (a b : List α) (k : Nat) (ha : k < a.length) (hb : k < b.length) (he : a[k] ≠ b[k]) : a ≠ b := by
 rintro rfl; exact he rfl
theorem beq_true' {α : Type} [BEq α] [LawfulBEq α] {a b : α} (h : a = b) : (a == b) = true := by simp [h]
theorem beq_false' {α : Type} [BEq α] [LawfulBEq α] {a b : α} (h : a ≠ b) : (a == b) = false := by simpa using h
theorem sameBlocks_any (s t : List (List UInt8)) (va vb : Value) (w : World) (ha : BlocksP w va s) (hb : BlocksP w vb t) (hm : s.length ≤ 140737488355328) :
  Calls Tryz.prog 42 #[va, vb] w fun e w' => e = .returned (.bool (s == t)) ∧ Grow w w' := by
 obtain ⟨aa, ca, rfl⟩ := ha.form
 obtain ⟨ab, cb, rfl⟩ := hb.form
 by_cases hlen : s.length = t.length
 ·have d1 : ((s.length : Int) != (t.length : Int)) = false := by simp [hlen]
  have HL : Hid (s.length = t.length) := hlen
  clear hlen
  go_enter Tryz.func42, Tryz.ntmps42
  go_wp2_with fail
  go_loopw [13] (fun i wr => ∃ k : Nat, k ≤ s.length ∧ i = .int .i64 k ∧ Grow w wr ∧ s.take k = t.take k) (fun i _ => s.length - (intOf i).toNat)
  case atStart => exact ⟨0, Nat.zero_le _, rfl, Grow.refl _, rfl⟩
  case round =>
   obtain ⟨k, hk, rfl, gr, htk⟩ := hrel
   have HT : Hid (s.take k = t.take k) := htk
   clear htk
   by_cases hlt : k < s.length
   ·have hlb : k < t.length := by have := HL.out; omega
    obtain ⟨b1, o1, rfl, u1, hu1, hB1⟩ := (ha.grow gr).at k hlt
    obtain ⟨b2, o2, rfl, u2, hu2, hB2⟩ := (hb.grow gr).at k hlb
    obtain ⟨a1, c1, rfl, -, -⟩ := bytes_src hB1
    obtain ⟨a2, c2, rfl, -, -⟩ := bytes_src hB2
    have HX : Hid (s[k] = t[k] → s.take (k + 1) = t.take (k + 1)) := take_eq_succ s t k hlt hlb HT.out
    have HY : Hid (s[k] ≠ t[k] → (s == t) = false) := fun h => beq_false' (ne_of_at s t k hlt hlb h)
    generalize s[k] = x at *
    generalize t[k] = z at *
    go_wp2_with fail
    rename_i wr _
    refine wp_region_told [ex (.slice (some ⟨b1, o1, none⟩) s.length ca), ex (.int .i64 k), ex (.pointer (some ⟨b1, o1 + k, none⟩)), ex (.slice a1 x.length c1), ex (str x), ex (.slice (some ⟨b2, o2, none⟩) t.length cb), ex (.int .i64 k), ex (.pointer (some ⟨b2, o2 + k, none⟩)), ex (.slice a2 z.length c2), ex (str z), ex (.bool (x != z))] (by kernel_rfl) (by kernel_rfl) ⟨st_ex _, st_ex _, st_ex _, st_ex _, st_ex _, st_ex _, st_ex _, st_ex _, st_ex _, st_ex _, st_ex _, trivial⟩ ?_ ?_
    ·refine ⟨?_, ?_, ?_, ?_, ?_, ?_, ?_, ?_, ?_, ?_, ?_, trivial⟩
     ·refine need_plain rfl (fun a w' hg hin => ?_)
      have e : a.eval (.tmp 0) = .slice (some ⟨b1, o1, none⟩) s.length ca := ins_ext hin 0 (by kernel_rfl)
      exact upon_move rfl e
     ·refine need_plain rfl (fun a w' hg hin => ?_)
      have e : a.eval (.tmp 5) = .int .i64 k := ins_ext hin 5 (by kernel_rfl)
      exact upon_move rfl e
     ·refine need_plain rfl (fun a w' hg hin => ?_)
      have e16 : a.eval (.tmp 16) = _ := ins_on hin 0 (by kernel_rfl)
      have e17 : a.eval (.tmp 17) = _ := ins_on hin 1 (by kernel_rfl)
      refine upon_val ?_ rfl
      clear hin hg
      obtain ⟨ek, ef⟩ := evs a
      generalize a.eval = ev at *
      go_simp
      all_goals first | omega | (intro _; omega) | go_arith
     ·refine need_plain rfl (fun a w' hg hin => ?_)
      have e18 : a.eval (.tmp 18) = _ := ins_on hin 2 (by kernel_rfl)
      have h1 := (Below.cell hg (cell_lt hu1)).trans hu1
      refine upon_val ?_ rfl
      clear hin hg
      obtain ⟨ek, ef⟩ := evs a
      generalize a.eval = ev at *
      go_simp
      all_goals first | omega | (intro _; omega) | go_arith
     ·refine need_plain rfl (fun a w' hg hin => ?_)
      have e19 : a.eval (.tmp 19) = _ := ins_on hin 3 (by kernel_rfl)
      refine upon_val ?_ rfl
      have hrun := run_str w' _ _ (bytes_grow hB1 hg)
      clear hin hg
      obtain ⟨ek, ef⟩ := evs a
      generalize a.eval = ev at *
      go_simp
      all_goals first | omega | (intro _; omega) | go_arith
     ·refine need_plain rfl (fun a w' hg hin => ?_)
      have e : a.eval (.tmp 1) = .slice (some ⟨b2, o2, none⟩) t.length cb := ins_ext hin 1 (by kernel_rfl)
      exact upon_move rfl e
     ·refine need_plain rfl (fun a w' hg hin => ?_)
      have e : a.eval (.tmp 5) = .int .i64 k := ins_ext hin 5 (by kernel_rfl)
      exact upon_move rfl e
     ·refine need_plain rfl (fun a w' hg hin => ?_)
      have e21 : a.eval (.tmp 21) = _ := ins_on hin 5 (by kernel_rfl)
      have e22 : a.eval (.tmp 22) = _ := ins_on hin 6 (by kernel_rfl)
      refine upon_val ?_ rfl
      clear hin hg
      obtain ⟨ek, ef⟩ := evs a
      generalize a.eval = ev at *
      go_simp
      all_goals first | omega | (intro _; omega) | go_arith
     ·refine need_plain rfl (fun a w' hg hin => ?_)
      have e23 : a.eval (.tmp 23) = _ := ins_on hin 7 (by kernel_rfl)
      have h1 := (Below.cell hg (cell_lt hu2)).trans hu2
      refine upon_val ?_ rfl
      clear hin hg
      obtain ⟨ek, ef⟩ := evs a
      generalize a.eval = ev at *
      go_simp
      all_goals first | omega | (intro _; omega) | go_arith
     ·refine need_plain rfl (fun a w' hg hin => ?_)
      have e24 : a.eval (.tmp 24) = _ := ins_on hin 8 (by kernel_rfl)
      refine upon_val ?_ rfl
      have hrun := run_str w' _ _ (bytes_grow hB2 hg)
      clear hin hg
      obtain ⟨ek, ef⟩ := evs a
      generalize a.eval = ev at *
      go_simp
      all_goals first | omega | (intro _; omega) | go_arith
     ·refine need_plain rfl (fun a w' hg hin => ?_)
      have e20 : a.eval (.tmp 20) = _ := ins_on hin 4 (by kernel_rfl)
      have e25 : a.eval (.tmp 25) = _ := ins_on hin 9 (by kernel_rfl)
      refine upon_val ?_ rfl
      unfold str at e20 e25
      clear hin hg
      obtain ⟨ek, ef⟩ := evs a
      generalize a.eval = ev at *
      go_simp
      simp only [bne, Bool.not_not]
    ·intro vs w' hg ht
     obtain ⟨q16, q17, q18, q19, q20, q21, q22, q23, q24, q25, q26, -⟩ := ht
     have r16 : vs 0 = .slice (some ⟨b1, o1, none⟩) s.length ca := q16
     have r17 : vs 1 = .int .i64 k := q17
     have r18 : vs 2 = .pointer (some ⟨b1, o1 + k, none⟩) := q18
     have r19 : vs 3 = .slice a1 x.length c1 := q19
     have r20 : vs 4 = str x := q20
     have r21 : vs 5 = .slice (some ⟨b2, o2, none⟩) t.length cb := q21
     have r22 : vs 6 = .int .i64 k := q22
     have r23 : vs 7 = .pointer (some ⟨b2, o2 + k, none⟩) := q23
     have r24 : vs 8 = .slice a2 z.length c2 := q24
     have r25 : vs 9 = str z := q25
     have r26 : vs 10 = .bool (x != z) := q26
     clear q16 q17 q18 q19 q20 q21 q22 q23 q24 q25 q26
     simp only [putAll, Act.put, List.setIfInBounds_toArray, List.set_cons_zero, List.set_cons_succ, r16, r17, r18, r19, r20, r21, r22, r23, r24, r25, r26]
     clear r16 r17 r18 r19 r20 r21 r22 r23 r24 r25 r26
     have g2 := gr.trans hg
     by_cases hxz : x = z
     ·have d2 : (x != z) = false := by simp [hxz]
      have HN := HX.out hxz
      clear hxz
      rw [d2]
      have HN' : Hid _ := HN
      clear HN d2
      go_wp2_with fail
      go_roundw
      case rel => exact ⟨k + 1, by omega, by go_num, g2, HN'.out⟩
      case measure => simp [intOf]; omega
     ·have d2 : (x != z) = true := by simp [hxz]
      have HN : Hid _ := HY.out hxz
      clear hxz
      rw [d2]
      clear d2
      go_wp2_with fail
      go_ret
      exact ⟨ret_bool HN.out.symm, g2⟩
   ·have HN : Hid ((s == t) = true) := by
     have h := HT.out
     rw [List.take_of_length_le (by omega), List.take_of_length_le (by have := HL.out; omega)] at h
     exact beq_true' h
    go_wp2_with fail
    go_ret
    exact ⟨ret_bool HN.out.symm, gr⟩
 ·have d1 : ((s.length : Int) != (t.length : Int)) = true := by simp; omega
  have HN : Hid ((s == t) = false) := beq_false' (fun e => hlen (by rw [e]))
  clear hlen
  go_enter Tryz.func42, Tryz.ntmps42
  go_wp2_with fail
  go_ret
  exact ⟨ret_bool HN.out.symm, Grow.refl _⟩
theorem late_ne (s t : List Wr) (k : Nat) (hs : k < s.length) (ht : k < t.length) (h : s[k].1 ≠ t[k].1 ∨ s[k].2 ≠ t[k].2) : (s == t) = false := by
 refine beq_false' (ne_of_at s t k hs ht (fun e => ?_))
 rcases h with h | h
 ·exact h (by rw [e])
 ·exact h (by rw [e])
theorem sameDisk_any (s t : Dk) (vb vl ub ul : Value) (w : World) (hb : BlocksP w vb s.blocks) (hl : LateP w vl s.late) (hb' : BlocksP w ub t.blocks) (hl' : LateP w ul t.late) (hm : s.blocks.length ≤ 140737488355328) (hm2 : s.late.length ≤ 140737488355328) :
  Calls Tryz.prog 22 #[.agg #[vb, vl], .agg #[ub, ul]] w fun e w' => e = .returned (.bool (s.same t)) ∧ Grow w w' := by
 obtain ⟨ab, cb, rfl⟩ := hb.form
 obtain ⟨al, cl, rfl⟩ := hl.form
 obtain ⟨ab', cb', rfl⟩ := hb'.form
 obtain ⟨al', cl', rfl⟩ := hl'.form
 have gW := grow_alloc2 w (.cells #[.slice ab s.blocks.length cb, .slice al s.late.length cl] 26) (.cells #[.slice ab' t.blocks.length cb', .slice al' t.late.length cl'] 26)
 have hx : ((w.alloc (.cells #[.slice ab s.blocks.length cb, .slice al s.late.length cl] 26)).alloc (.cells #[.slice ab' t.blocks.length cb', .slice al' t.late.length cl'] 26)).heap[w.heap.size]? = some (.cells #[.slice ab s.blocks.length cb, .slice al s.late.length cl] 26 (0, 0)) :=
  ((grow_alloc (w.alloc (.cells #[.slice ab s.blocks.length cb, .slice al s.late.length cl] 26)) _).block _ (by simp)).trans (heap_new _ _ _)
 have hy : ((w.alloc (.cells #[.slice ab s.blocks.length cb, .slice al s.late.length cl] 26)).alloc (.cells #[.slice ab' t.blocks.length cb', .slice al' t.late.length cl'] 26)).heap[w.heap.size + 1]? = some (.cells #[.slice ab' t.blocks.length cb', .slice al' t.late.length cl'] 26 (0, 0)) := by
  have h := heap_new (w.alloc (.cells #[.slice ab s.blocks.length cb, .slice al s.late.length cl] 26)) #[.slice ab' t.blocks.length cb', .slice al' t.late.length cl'] 26
  rw [World.size_alloc] at h
  exact h
 have hbW := hb.grow gW
 have hbW' := hb'.grow gW
 go_enter Tryz.func22, Tryz.ntmps22
 go_wp2_with fail
 generalize World.alloc (World.alloc w _) _ = W at hx hy gW hbW hbW' ⊢
 refine (sameBlocks_any s.blocks t.blocks _ _ _ hbW hbW' hm).mono ?_
 cases hbe : (s.blocks == t.blocks) with
 | false =>
  have HN : Hid (s.same t = false) := by show s.same t = false; unfold Dk.same; rw [hbe]; rfl
  clear hbe
  rintro e w1 ⟨rfl, g1⟩
  go_wp2_with fail
  go_ret
  exact ⟨ret_bool HN.out.symm, gW.trans g1⟩
 | true =>
  have HS : Hid (s.same t = (s.late == t.late)) := by show s.same t = _; unfold Dk.same; rw [hbe]; rfl
  clear hbe
  rintro e w1 ⟨rfl, g1⟩
  have hx1 := (g1.block _ (heap_lt hx)).trans hx
  have hy1 := (g1.block _ (heap_lt hy)).trans hy
  have gw1 := gW.trans g1
  obtain ⟨x0, x1⟩ := box2 hx1 rfl rfl
  obtain ⟨y0, y1⟩ := box2 hy1 rfl rfl
  clear hx hy g1 hbW hbW' gW
  by_cases hlen : s.late.length = t.late.length
  ·have d1 : ((s.late.length : Int) != (t.late.length : Int)) = false := by simp [hlen]
   have HL : Hid (s.late.length = t.late.length) := hlen
   clear hlen
   go_wp2_with fail
   go_loopw [24] (fun i wr => ∃ k : Nat, k ≤ s.late.length ∧ i = .int .i64 k ∧ Grow w1 wr ∧ s.late.take k = t.late.take k) (fun i _ => s.late.length - (intOf i).toNat)
   case atStart => exact ⟨0, Nat.zero_le _, rfl, Grow.refl _, rfl⟩
   case round =>
    obtain ⟨k, hk, rfl, gr, htk⟩ := hrel
    have HT : Hid (s.late.take k = t.late.take k) := htk
    clear htk
    by_cases hlt : k < s.late.length
    ·have hlb : k < t.late.length := by have := HL.out; omega
     have gwr := gw1.trans gr
     obtain ⟨b1, o1, rfl, hp1, u1, hu1, hB1⟩ := (hl.grow gwr).at k hlt
     obtain ⟨b2, o2, rfl, hp2, u2, hu2, hB2⟩ := (hl'.grow gwr).at k hlb
     obtain ⟨a1, c1, rfl, -, -⟩ := bytes_src hB1
     obtain ⟨a2, c2, rfl, -, -⟩ := bytes_src hB2
     have HX : Hid (s.late[k].1 = t.late[k].1 → s.late[k].2 = t.late[k].2 → s.late.take (k + 1) = t.late.take (k + 1)) := fun h1 h2 => take_eq_succ _ _ k hlt hlb HT.out (Prod.ext h1 h2)
     have HY : Hid (s.late[k].1 ≠ t.late[k].1 ∨ s.late[k].2 ≠ t.late[k].2 → (s.late == t.late) = false) := late_ne _ _ k hlt hlb
     have x1' := (Below.cell gr (cell_lt x1)).trans x1
     have y1' := (Below.cell gr (cell_lt y1)).trans y1
     clear x1 y1 x0 y0 hx1 hy1
     have x1 := x1'
     have y1 := y1'
     clear x1' y1'
     generalize s.late[k].1 = p at *
     generalize t.late[k].1 = q at *
     generalize s.late[k].2 = x at *
     generalize t.late[k].2 = z at *
     go_wp2_with fail
     rename_i wr _
     by_cases hpq : p = q
     ·have d2 : (p != q) = false := by simp [hpq]
      have HPQ : Hid (p = q) := hpq
      clear hpq
      refine wp_region_told [ex (.pointer (some ⟨w.heap.size, 1, none⟩)), ex (.slice (some ⟨b1, o1, none⟩) s.late.length cl), ex (.int .i64 k), ex (.pointer (some ⟨b1, o1 + k * 2, none⟩)), ex (.pointer (some ⟨b1, o1 + k * 2, none⟩)), ex (.int .i64 p), ex (.pointer (some ⟨w.heap.size + 1, 1, none⟩)), ex (.slice (some ⟨b2, o2, none⟩) t.late.length cl'), ex (.int .i64 k), ex (.pointer (some ⟨b2, o2 + k * 2, none⟩)), ex (.pointer (some ⟨b2, o2 + k * 2, none⟩)), ex (.int .i64 q), ex (.bool false), ex (.bool false), ex (.pointer (some ⟨w.heap.size, 1, none⟩)), ex (.slice (some ⟨b1, o1, none⟩) s.late.length cl), ex (.int .i64 k), ex (.pointer (some ⟨b1, o1 + k * 2, none⟩)), ex (.pointer (some ⟨b1, o1 + k * 2 + 1, none⟩)), ex (.slice a1 x.length c1), ex (str x), ex (.pointer (some ⟨w.heap.size + 1, 1, none⟩)), ex (.slice (some ⟨b2, o2, none⟩) t.late.length cl'), ex (.int .i64 k), ex (.pointer (some ⟨b2, o2 + k * 2, none⟩)), ex (.pointer (some ⟨b2, o2 + k * 2 + 1, none⟩)), ex (.slice a2 z.length c2), ex (str z), ex (.bool (x != z)), ex (.bool (x != z))] (by kernel_rfl) (by kernel_rfl) ⟨st_ex _, st_ex _, st_ex _, st_ex _, st_ex _, st_ex _, st_ex _, st_ex _, st_ex _, st_ex _, st_ex _, st_ex _, st_ex _, st_ex _, st_ex _, st_ex _, st_ex _, st_ex _, st_ex _, st_ex _, st_ex _, st_ex _, st_ex _, st_ex _, st_ex _, st_ex _, st_ex _, st_ex _, st_ex _, st_ex _, trivial⟩ ?_ ?_
      ·refine ⟨?_, ?_, ?_, ?_, ?_, ?_, ?_, ?_, ?_, ?_, ?_, ?_, ?_, ?_, ?_, ?_, ?_, ?_, ?_, ?_, ?_, ?_, ?_, ?_, ?_, ?_, ?_, ?_, ?_, ?_, trivial⟩
       ·refine need_plain rfl (fun a w' hg hin => ?_)
        have e2 : a.eval (.tmp 2) = .pointer (some ⟨w.heap.size, 0, none⟩) := ins_ext hin 2 (by kernel_rfl)
        refine upon_val ?_ rfl
        clear hin hg
        obtain ⟨ek, ef⟩ := evs a
        generalize a.eval = ev at *
        go_simp
        all_goals first | omega | (intro _; omega) | go_arith
       ·refine need_plain rfl (fun a w' hg hin => ?_)
        have e27 : a.eval (.tmp 27) = _ := ins_on hin 0 (by kernel_rfl)
        have h1 := (Below.cell hg (cell_lt x1)).trans x1
        refine upon_val ?_ rfl
        clear hin hg
        obtain ⟨ek, ef⟩ := evs a
        generalize a.eval = ev at *
        go_simp
        all_goals first | omega | (intro _; omega) | go_arith
       ·refine need_plain rfl (fun a w' hg hin => ?_)
        have e : a.eval (.tmp 5) = .int .i64 k := ins_ext hin 5 (by kernel_rfl)
        exact upon_move rfl e
       ·refine need_plain rfl (fun a w' hg hin => ?_)
        have e28 : a.eval (.tmp 28) = _ := ins_on hin 1 (by kernel_rfl)
        have e29 : a.eval (.tmp 29) = _ := ins_on hin 2 (by kernel_rfl)
        refine upon_val ?_ rfl
        clear hin hg
        obtain ⟨ek, ef⟩ := evs a
        generalize a.eval = ev at *
        go_simp
        all_goals first | omega | (intro _; omega) | go_arith
       ·refine need_plain rfl (fun a w' hg hin => ?_)
        have e30 : a.eval (.tmp 30) = _ := ins_on hin 3 (by kernel_rfl)
        refine upon_val ?_ rfl
        clear hin hg
        obtain ⟨ek, ef⟩ := evs a
        generalize a.eval = ev at *
        go_simp
        all_goals first | omega | (intro _; omega) | go_arith
       ·refine need_plain rfl (fun a w' hg hin => ?_)
        have e31 : a.eval (.tmp 31) = _ := ins_on hin 4 (by kernel_rfl)
        have h1 := (Below.cell hg (cell_lt hp1)).trans hp1
        refine upon_val ?_ rfl
        clear hin hg
        obtain ⟨ek, ef⟩ := evs a
        generalize a.eval = ev at *
        go_simp
        all_goals first | omega | (intro _; omega) | go_arith
       ·refine need_plain rfl (fun a w' hg hin => ?_)
        have e3 : a.eval (.tmp 3) = .pointer (some ⟨w.heap.size + 1, 0, none⟩) := ins_ext hin 3 (by kernel_rfl)
        refine upon_val ?_ rfl
        clear hin hg
        obtain ⟨ek, ef⟩ := evs a
        generalize a.eval = ev at *
        go_simp
        all_goals first | omega | (intro _; omega) | go_arith
       ·refine need_plain rfl (fun a w' hg hin => ?_)
        have e33 : a.eval (.tmp 33) = _ := ins_on hin 6 (by kernel_rfl)
        have h1 := (Below.cell hg (cell_lt y1)).trans y1
        refine upon_val ?_ rfl
        clear hin hg
        obtain ⟨ek, ef⟩ := evs a
        generalize a.eval = ev at *
        go_simp
        all_goals first | omega | (intro _; omega) | go_arith
       ·refine need_plain rfl (fun a w' hg hin => ?_)
        have e : a.eval (.tmp 5) = .int .i64 k := ins_ext hin 5 (by kernel_rfl)
        exact upon_move rfl e
       ·refine need_plain rfl (fun a w' hg hin => ?_)
        have e34 : a.eval (.tmp 34) = _ := ins_on hin 7 (by kernel_rfl)
        have e35 : a.eval (.tmp 35) = _ := ins_on hin 8 (by kernel_rfl)
        refine upon_val ?_ rfl
        clear hin hg
        obtain ⟨ek, ef⟩ := evs a
        generalize a.eval = ev at *
        go_simp
        all_goals first | omega | (intro _; omega) | go_arith
       ·refine need_plain rfl (fun a w' hg hin => ?_)
        have e36 : a.eval (.tmp 36) = _ := ins_on hin 9 (by kernel_rfl)
        refine upon_val ?_ rfl
        clear hin hg
        obtain ⟨ek, ef⟩ := evs a
        generalize a.eval = ev at *
        go_simp
        all_goals first | omega | (intro _; omega) | go_arith
       ·refine need_plain rfl (fun a w' hg hin => ?_)
        have e37 : a.eval (.tmp 37) = _ := ins_on hin 10 (by kernel_rfl)
        have h1 := (Below.cell hg (cell_lt hp2)).trans hp2
        refine upon_val ?_ rfl
        clear hin hg
        obtain ⟨ek, ef⟩ := evs a
        generalize a.eval = ev at *
        go_simp
        all_goals first | omega | (intro _; omega) | go_arith
       ·refine need_plain rfl (fun a w' hg hin => ?_)
        have e32 : a.eval (.tmp 32) = _ := ins_on hin 5 (by kernel_rfl)
        have e38 : a.eval (.tmp 38) = _ := ins_on hin 11 (by kernel_rfl)
        refine upon_val ?_ rfl
        clear hin hg
        obtain ⟨ek, ef⟩ := evs a
        generalize a.eval = ev at *
        go_simp
        all_goals first | omega | (intro _; omega) | go_arith
       ·refine need_plain rfl (fun a w' hg hin => ?_)
        have e : a.eval (.tmp 39) = _ := ins_on hin 12 (by kernel_rfl)
        exact upon_move rfl e
       ·refine need_yes 13 false rfl (fun a w' hin => ins_on hin 13 (by kernel_rfl)) (fun a w' hg hin => ?_)
        have e2 : a.eval (.tmp 2) = .pointer (some ⟨w.heap.size, 0, none⟩) := ins_ext hin 2 (by kernel_rfl)
        refine upon_val ?_ rfl
        clear hin hg
        obtain ⟨ek, ef⟩ := evs a
        generalize a.eval = ev at *
        go_simp
        all_goals first | omega | (intro _; omega) | go_arith
       ·refine need_yes 13 false rfl (fun a w' hin => ins_on hin 13 (by kernel_rfl)) (fun a w' hg hin => ?_)
        have e41 : a.eval (.tmp 41) = _ := ins_on hin 14 (by kernel_rfl)
        have h1 := (Below.cell hg (cell_lt x1)).trans x1
        refine upon_val ?_ rfl
        clear hin hg
        obtain ⟨ek, ef⟩ := evs a
        generalize a.eval = ev at *
        go_simp
        all_goals first | omega | (intro _; omega) | go_arith
       ·refine need_yes 13 false rfl (fun a w' hin => ins_on hin 13 (by kernel_rfl)) (fun a w' hg hin => ?_)
        have e : a.eval (.tmp 5) = .int .i64 k := ins_ext hin 5 (by kernel_rfl)
        exact upon_move rfl e
       ·refine need_yes 13 false rfl (fun a w' hin => ins_on hin 13 (by kernel_rfl)) (fun a w' hg hin => ?_)
        have e42 : a.eval (.tmp 42) = _ := ins_on hin 15 (by kernel_rfl)
        have e43 : a.eval (.tmp 43) = _ := ins_on hin 16 (by kernel_rfl)
        refine upon_val ?_ rfl
        clear hin hg
        obtain ⟨ek, ef⟩ := evs a
        generalize a.eval = ev at *
        go_simp
        all_goals first | omega | (intro _; omega) | go_arith
       ·refine need_yes 13 false rfl (fun a w' hin => ins_on hin 13 (by kernel_rfl)) (fun a w' hg hin => ?_)
        have e44 : a.eval (.tmp 44) = _ := ins_on hin 17 (by kernel_rfl)
        refine upon_val ?_ rfl
        clear hin hg
        obtain ⟨ek, ef⟩ := evs a
        generalize a.eval = ev at *
        go_simp
        all_goals first | omega | (intro _; omega) | go_arith
       ·refine need_yes 13 false rfl (fun a w' hin => ins_on hin 13 (by kernel_rfl)) (fun a w' hg hin => ?_)
        have e45 : a.eval (.tmp 45) = _ := ins_on hin 18 (by kernel_rfl)
        have h1 := (Below.cell hg (cell_lt hu1)).trans hu1
        refine upon_val ?_ rfl
        clear hin hg
        obtain ⟨ek, ef⟩ := evs a
        generalize a.eval = ev at *
        go_simp
        all_goals first | omega | (intro _; omega) | go_arith
       ·refine need_yes 13 false rfl (fun a w' hin => ins_on hin 13 (by kernel_rfl)) (fun a w' hg hin => ?_)
        have e46 : a.eval (.tmp 46) = _ := ins_on hin 19 (by kernel_rfl)
        refine upon_val ?_ rfl
        have hrun := run_str w' _ _ (bytes_grow hB1 hg)
        clear hin hg
        obtain ⟨ek, ef⟩ := evs a
        generalize a.eval = ev at *
        go_simp
        all_goals first | omega | (intro _; omega) | go_arith
       ·refine need_yes 13 false rfl (fun a w' hin => ins_on hin 13 (by kernel_rfl)) (fun a w' hg hin => ?_)
        have e3 : a.eval (.tmp 3) = .pointer (some ⟨w.heap.size + 1, 0, none⟩) := ins_ext hin 3 (by kernel_rfl)
        refine upon_val ?_ rfl
        clear hin hg
        obtain ⟨ek, ef⟩ := evs a
        generalize a.eval = ev at *
        go_simp
        all_goals first | omega | (intro _; omega) | go_arith
       ·refine need_yes 13 false rfl (fun a w' hin => ins_on hin 13 (by kernel_rfl)) (fun a w' hg hin => ?_)
        have e48 : a.eval (.tmp 48) = _ := ins_on hin 21 (by kernel_rfl)
        have h1 := (Below.cell hg (cell_lt y1)).trans y1
        refine upon_val ?_ rfl
        clear hin hg
        obtain ⟨ek, ef⟩ := evs a
        generalize a.eval = ev at *
        go_simp
        all_goals first | omega | (intro _; omega) | go_arith
       ·refine need_yes 13 false rfl (fun a w' hin => ins_on hin 13 (by kernel_rfl)) (fun a w' hg hin => ?_)
        have e : a.eval (.tmp 5) = .int .i64 k := ins_ext hin 5 (by kernel_rfl)
        exact upon_move rfl e
       ·refine need_yes 13 false rfl (fun a w' hin => ins_on hin 13 (by kernel_rfl)) (fun a w' hg hin => ?_)
        have e49 : a.eval (.tmp 49) = _ := ins_on hin 22 (by kernel_rfl)
        have e50 : a.eval (.tmp 50) = _ := ins_on hin 23 (by kernel_rfl)
        refine upon_val ?_ rfl
        clear hin hg
        obtain ⟨ek, ef⟩ := evs a
        generalize a.eval = ev at *
        go_simp
        all_goals first | omega | (intro _; omega) | go_arith
       ·refine need_yes 13 false rfl (fun a w' hin => ins_on hin 13 (by kernel_rfl)) (fun a w' hg hin => ?_)
        have e51 : a.eval (.tmp 51) = _ := ins_on hin 24 (by kernel_rfl)
        refine upon_val ?_ rfl
        clear hin hg
        obtain ⟨ek, ef⟩ := evs a
        generalize a.eval = ev at *
        go_simp
        all_goals first | omega | (intro _; omega) | go_arith
       ·refine need_yes 13 false rfl (fun a w' hin => ins_on hin 13 (by kernel_rfl)) (fun a w' hg hin => ?_)
        have e52 : a.eval (.tmp 52) = _ := ins_on hin 25 (by kernel_rfl)
        have h1 := (Below.cell hg (cell_lt hu2)).trans hu2
        refine upon_val ?_ rfl
        clear hin hg
        obtain ⟨ek, ef⟩ := evs a
        generalize a.eval = ev at *
        go_simp
        all_goals first | omega | (intro _; omega) | go_arith
       ·refine need_yes 13 false rfl (fun a w' hin => ins_on hin 13 (by kernel_rfl)) (fun a w' hg hin => ?_)
        have e53 : a.eval (.tmp 53) = _ := ins_on hin 26 (by kernel_rfl)
        refine upon_val ?_ rfl
        have hrun := run_str w' _ _ (bytes_grow hB2 hg)
        clear hin hg
        obtain ⟨ek, ef⟩ := evs a
        generalize a.eval = ev at *
        go_simp
        all_goals first | omega | (intro _; omega) | go_arith
       ·refine need_yes 13 false rfl (fun a w' hin => ins_on hin 13 (by kernel_rfl)) (fun a w' hg hin => ?_)
        have e47 : a.eval (.tmp 47) = _ := ins_on hin 20 (by kernel_rfl)
        have e54 : a.eval (.tmp 54) = _ := ins_on hin 27 (by kernel_rfl)
        refine upon_val ?_ rfl
        unfold str at e47 e54
        clear hin hg
        obtain ⟨ek, ef⟩ := evs a
        generalize a.eval = ev at *
        go_simp
        simp only [bne, Bool.not_not]
       ·refine need_plain rfl (fun a w' hg hin => ?_)
        have ec : a.eval (.tmp 40) = _ := ins_on hin 13 (by kernel_rfl)
        have e : a.eval (.tmp 55) = _ := ins_on hin 28 (by kernel_rfl)
        exact upon_pick rfl ec e
      ·intro vs w' hg ht
       obtain ⟨q27, q28, q29, q30, q31, q32, q33, q34, q35, q36, q37, q38, q39, q40, q41, q42, q43, q44, q45, q46, q47, q48, q49, q50, q51, q52, q53, q54, q55, q56, -⟩ := ht
       have r27 : vs 0 = .pointer (some ⟨w.heap.size, 1, none⟩) := q27
       have r28 : vs 1 = .slice (some ⟨b1, o1, none⟩) s.late.length cl := q28
       have r29 : vs 2 = .int .i64 k := q29
       have r30 : vs 3 = .pointer (some ⟨b1, o1 + k * 2, none⟩) := q30
       have r31 : vs 4 = .pointer (some ⟨b1, o1 + k * 2, none⟩) := q31
       have r32 : vs 5 = .int .i64 p := q32
       have r33 : vs 6 = .pointer (some ⟨w.heap.size + 1, 1, none⟩) := q33
       have r34 : vs 7 = .slice (some ⟨b2, o2, none⟩) t.late.length cl' := q34
       have r35 : vs 8 = .int .i64 k := q35
       have r36 : vs 9 = .pointer (some ⟨b2, o2 + k * 2, none⟩) := q36
       have r37 : vs 10 = .pointer (some ⟨b2, o2 + k * 2, none⟩) := q37
       have r38 : vs 11 = .int .i64 q := q38
       have r39 : vs 12 = .bool false := q39
       have r40 : vs 13 = .bool false := q40
       have r41 : vs 14 = .pointer (some ⟨w.heap.size, 1, none⟩) := q41
       have r42 : vs 15 = .slice (some ⟨b1, o1, none⟩) s.late.length cl := q42
       have r43 : vs 16 = .int .i64 k := q43
       have r44 : vs 17 = .pointer (some ⟨b1, o1 + k * 2, none⟩) := q44
       have r45 : vs 18 = .pointer (some ⟨b1, o1 + k * 2 + 1, none⟩) := q45
       have r46 : vs 19 = .slice a1 x.length c1 := q46
       have r47 : vs 20 = str x := q47
       have r48 : vs 21 = .pointer (some ⟨w.heap.size + 1, 1, none⟩) := q48
       have r49 : vs 22 = .slice (some ⟨b2, o2, none⟩) t.late.length cl' := q49
       have r50 : vs 23 = .int .i64 k := q50
       have r51 : vs 24 = .pointer (some ⟨b2, o2 + k * 2, none⟩) := q51
       have r52 : vs 25 = .pointer (some ⟨b2, o2 + k * 2 + 1, none⟩) := q52
       have r53 : vs 26 = .slice a2 z.length c2 := q53
       have r54 : vs 27 = str z := q54
       have r55 : vs 28 = .bool (x != z) := q55
       have r56 : vs 29 = .bool (x != z) := q56
       clear q27 q28 q29 q30 q31 q32 q33 q34 q35 q36 q37 q38 q39 q40 q41 q42 q43 q44 q45 q46 q47 q48 q49 q50 q51 q52 q53 q54 q55 q56
       simp only [putAll, Act.put, List.setIfInBounds_toArray, List.set_cons_zero, List.set_cons_succ, r27, r28, r29, r30, r31, r32, r33, r34, r35, r36, r37, r38, r39, r40, r41, r42, r43, r44, r45, r46, r47, r48, r49, r50, r51, r52, r53, r54, r55, r56]
       clear r27 r28 r29 r30 r31 r32 r33 r34 r35 r36 r37 r38 r39 r40 r41 r42 r43 r44 r45 r46 r47 r48 r49 r50 r51 r52 r53 r54 r55 r56
       have g2 := gr.trans hg
       by_cases hxz : x = z
       ·have d3 : (x != z) = false := by simp [hxz]
        have HN : Hid _ := HX.out HPQ.out hxz
        clear hxz
        rw [d3]
        clear d3
        go_wp2_with fail
        go_roundw
        case rel => exact ⟨k + 1, by omega, by go_num, g2, HN.out⟩
        case measure => simp [intOf]; omega
       ·have d3 : (x != z) = true := by simp [hxz]
        have HN : Hid (s.same t = false) := HS.out.trans (HY.out (.inr hxz))
        clear hxz
        rw [d3]
        clear d3
        go_wp2_with fail
        go_ret
        exact ⟨ret_bool HN.out.symm, gw1.trans g2⟩
     ·have d2 : (p != q) = true := by simp [hpq]
      have HN : Hid (s.same t = false) := HS.out.trans (HY.out (.inl hpq))
      clear hpq
      refine wp_region_told [ex (.pointer (some ⟨w.heap.size, 1, none⟩)), ex (.slice (some ⟨b1, o1, none⟩) s.late.length cl), ex (.int .i64 k), ex (.pointer (some ⟨b1, o1 + k * 2, none⟩)), ex (.pointer (some ⟨b1, o1 + k * 2, none⟩)), ex (.int .i64 p), ex (.pointer (some ⟨w.heap.size + 1, 1, none⟩)), ex (.slice (some ⟨b2, o2, none⟩) t.late.length cl'), ex (.int .i64 k), ex (.pointer (some ⟨b2, o2 + k * 2, none⟩)), ex (.pointer (some ⟨b2, o2 + k * 2, none⟩)), ex (.int .i64 q), ex (.bool true), ex (.bool true), ex (undef), ex (undef), ex (undef), ex (undef), ex (undef), ex (undef), ex (undef), ex (undef), ex (undef), ex (undef), ex (undef), ex (undef), ex (undef), ex (undef), ex (undef), ex (.bool true)] (by kernel_rfl) (by kernel_rfl) ⟨st_ex _, st_ex _, st_ex _, st_ex _, st_ex _, st_ex _, st_ex _, st_ex _, st_ex _, st_ex _, st_ex _, st_ex _, st_ex _, st_ex _, st_ex _, st_ex _, st_ex _, st_ex _, st_ex _, st_ex _, st_ex _, st_ex _, st_ex _, st_ex _, st_ex _, st_ex _, st_ex _, st_ex _, st_ex _, st_ex _, trivial⟩ ?_ ?_
      ·refine ⟨?_, ?_, ?_, ?_, ?_, ?_, ?_, ?_, ?_, ?_, ?_, ?_, ?_, ?_, ?_, ?_, ?_, ?_, ?_, ?_, ?_, ?_, ?_, ?_, ?_, ?_, ?_, ?_, ?_, ?_, trivial⟩
       ·refine need_plain rfl (fun a w' hg hin => ?_)
        have e2 : a.eval (.tmp 2) = .pointer (some ⟨w.heap.size, 0, none⟩) := ins_ext hin 2 (by kernel_rfl)
        refine upon_val ?_ rfl
        clear hin hg
        obtain ⟨ek, ef⟩ := evs a
        generalize a.eval = ev at *
        go_simp
        all_goals first | omega | (intro _; omega) | go_arith
       ·refine need_plain rfl (fun a w' hg hin => ?_)
        have e27 : a.eval (.tmp 27) = _ := ins_on hin 0 (by kernel_rfl)
        have h1 := (Below.cell hg (cell_lt x1)).trans x1
        refine upon_val ?_ rfl
        clear hin hg
        obtain ⟨ek, ef⟩ := evs a
        generalize a.eval = ev at *
        go_simp
        all_goals first | omega | (intro _; omega) | go_arith
       ·refine need_plain rfl (fun a w' hg hin => ?_)
        have e : a.eval (.tmp 5) = .int .i64 k := ins_ext hin 5 (by kernel_rfl)
        exact upon_move rfl e
       ·refine need_plain rfl (fun a w' hg hin => ?_)
        have e28 : a.eval (.tmp 28) = _ := ins_on hin 1 (by kernel_rfl)
        have e29 : a.eval (.tmp 29) = _ := ins_on hin 2 (by kernel_rfl)
        refine upon_val ?_ rfl
        clear hin hg
        obtain ⟨ek, ef⟩ := evs a
        generalize a.eval = ev at *
        go_simp
        all_goals first | omega | (intro _; omega) | go_arith
       ·refine need_plain rfl (fun a w' hg hin => ?_)
        have e30 : a.eval (.tmp 30) = _ := ins_on hin 3 (by kernel_rfl)
        refine upon_val ?_ rfl
        clear hin hg
        obtain ⟨ek, ef⟩ := evs a
        generalize a.eval = ev at *
        go_simp
        all_goals first | omega | (intro _; omega) | go_arith
       ·refine need_plain rfl (fun a w' hg hin => ?_)
        have e31 : a.eval (.tmp 31) = _ := ins_on hin 4 (by kernel_rfl)
        have h1 := (Below.cell hg (cell_lt hp1)).trans hp1
        refine upon_val ?_ rfl
        clear hin hg
        obtain ⟨ek, ef⟩ := evs a
        generalize a.eval = ev at *
        go_simp
        all_goals first | omega | (intro _; omega) | go_arith
       ·refine need_plain rfl (fun a w' hg hin => ?_)
        have e3 : a.eval (.tmp 3) = .pointer (some ⟨w.heap.size + 1, 0, none⟩) := ins_ext hin 3 (by kernel_rfl)
        refine upon_val ?_ rfl
        clear hin hg
        obtain ⟨ek, ef⟩ := evs a
        generalize a.eval = ev at *
        go_simp
        all_goals first | omega | (intro _; omega) | go_arith
       ·refine need_plain rfl (fun a w' hg hin => ?_)
        have e33 : a.eval (.tmp 33) = _ := ins_on hin 6 (by kernel_rfl)
        have h1 := (Below.cell hg (cell_lt y1)).trans y1
        refine upon_val ?_ rfl
        clear hin hg
        obtain ⟨ek, ef⟩ := evs a
        generalize a.eval = ev at *
        go_simp
        all_goals first | omega | (intro _; omega) | go_arith
       ·refine need_plain rfl (fun a w' hg hin => ?_)
        have e : a.eval (.tmp 5) = .int .i64 k := ins_ext hin 5 (by kernel_rfl)
        exact upon_move rfl e
       ·refine need_plain rfl (fun a w' hg hin => ?_)
        have e34 : a.eval (.tmp 34) = _ := ins_on hin 7 (by kernel_rfl)
        have e35 : a.eval (.tmp 35) = _ := ins_on hin 8 (by kernel_rfl)
        refine upon_val ?_ rfl
        clear hin hg
        obtain ⟨ek, ef⟩ := evs a
        generalize a.eval = ev at *
        go_simp
        all_goals first | omega | (intro _; omega) | go_arith
       ·refine need_plain rfl (fun a w' hg hin => ?_)
        have e36 : a.eval (.tmp 36) = _ := ins_on hin 9 (by kernel_rfl)
        refine upon_val ?_ rfl
        clear hin hg
        obtain ⟨ek, ef⟩ := evs a
        generalize a.eval = ev at *
        go_simp
        all_goals first | omega | (intro _; omega) | go_arith
       ·refine need_plain rfl (fun a w' hg hin => ?_)
        have e37 : a.eval (.tmp 37) = _ := ins_on hin 10 (by kernel_rfl)
        have h1 := (Below.cell hg (cell_lt hp2)).trans hp2
        refine upon_val ?_ rfl
        clear hin hg
        obtain ⟨ek, ef⟩ := evs a
        generalize a.eval = ev at *
        go_simp
        all_goals first | omega | (intro _; omega) | go_arith
       ·refine need_plain rfl (fun a w' hg hin => ?_)
        have e32 : a.eval (.tmp 32) = _ := ins_on hin 5 (by kernel_rfl)
        have e38 : a.eval (.tmp 38) = _ := ins_on hin 11 (by kernel_rfl)
        refine upon_val ?_ rfl
        clear hin hg
        obtain ⟨ek, ef⟩ := evs a
        generalize a.eval = ev at *
        go_simp
        all_goals first | omega | (intro _; omega) | go_arith
       ·refine need_plain rfl (fun a w' hg hin => ?_)
        have e : a.eval (.tmp 39) = _ := ins_on hin 12 (by kernel_rfl)
        exact upon_move rfl e
       ·refine need_no 13 false true rfl (by decide) (fun a w' hin => ins_on hin 13 (by kernel_rfl)) (fun _ => rfl)
       ·refine need_no 13 false true rfl (by decide) (fun a w' hin => ins_on hin 13 (by kernel_rfl)) (fun _ => rfl)
       ·refine need_no 13 false true rfl (by decide) (fun a w' hin => ins_on hin 13 (by kernel_rfl)) (fun _ => rfl)
       ·refine need_no 13 false true rfl (by decide) (fun a w' hin => ins_on hin 13 (by kernel_rfl)) (fun _ => rfl)
       ·refine need_no 13 false true rfl (by decide) (fun a w' hin => ins_on hin 13 (by kernel_rfl)) (fun _ => rfl)
       ·refine need_no 13 false true rfl (by decide) (fun a w' hin => ins_on hin 13 (by kernel_rfl)) (fun _ => rfl)
       ·refine need_no 13 false true rfl (by decide) (fun a w' hin => ins_on hin 13 (by kernel_rfl)) (fun _ => rfl)
       ·refine need_no 13 false true rfl (by decide) (fun a w' hin => ins_on hin 13 (by kernel_rfl)) (fun _ => rfl)
       ·refine need_no 13 false true rfl (by decide) (fun a w' hin => ins_on hin 13 (by kernel_rfl)) (fun _ => rfl)
       ·refine need_no 13 false true rfl (by decide) (fun a w' hin => ins_on hin 13 (by kernel_rfl)) (fun _ => rfl)
       ·refine need_no 13 false true rfl (by decide) (fun a w' hin => ins_on hin 13 (by kernel_rfl)) (fun _ => rfl)
       ·refine need_no 13 false true rfl (by decide) (fun a w' hin => ins_on hin 13 (by kernel_rfl)) (fun _ => rfl)
       ·refine need_no 13 false true rfl (by decide) (fun a w' hin => ins_on hin 13 (by kernel_rfl)) (fun _ => rfl)
       ·refine need_no 13 false true rfl (by decide) (fun a w' hin => ins_on hin 13 (by kernel_rfl)) (fun _ => rfl)
       ·refine need_no 13 false true rfl (by decide) (fun a w' hin => ins_on hin 13 (by kernel_rfl)) (fun _ => rfl)
       ·refine need_plain rfl (fun a w' hg hin => ?_)
        have ec : a.eval (.tmp 40) = _ := ins_on hin 13 (by kernel_rfl)
        exact upon_pick rfl ec rfl
      ·intro vs w' hg ht
       obtain ⟨q27, q28, q29, q30, q31, q32, q33, q34, q35, q36, q37, q38, q39, q40, q41, q42, q43, q44, q45, q46, q47, q48, q49, q50, q51, q52, q53, q54, q55, q56, -⟩ := ht
       have r27 : vs 0 = .pointer (some ⟨w.heap.size, 1, none⟩) := q27
       have r28 : vs 1 = .slice (some ⟨b1, o1, none⟩) s.late.length cl := q28
       have r29 : vs 2 = .int .i64 k := q29
       have r30 : vs 3 = .pointer (some ⟨b1, o1 + k * 2, none⟩) := q30
       have r31 : vs 4 = .pointer (some ⟨b1, o1 + k * 2, none⟩) := q31
       have r32 : vs 5 = .int .i64 p := q32
       have r33 : vs 6 = .pointer (some ⟨w.heap.size + 1, 1, none⟩) := q33
       have r34 : vs 7 = .slice (some ⟨b2, o2, none⟩) t.late.length cl' := q34
       have r35 : vs 8 = .int .i64 k := q35
       have r36 : vs 9 = .pointer (some ⟨b2, o2 + k * 2, none⟩) := q36
       have r37 : vs 10 = .pointer (some ⟨b2, o2 + k * 2, none⟩) := q37
       have r38 : vs 11 = .int .i64 q := q38
       have r39 : vs 12 = .bool true := q39
       have r40 : vs 13 = .bool true := q40
       have r41 : vs 14 = undef := q41
       have r42 : vs 15 = undef := q42
       have r43 : vs 16 = undef := q43
       have r44 : vs 17 = undef := q44
       have r45 : vs 18 = undef := q45
       have r46 : vs 19 = undef := q46
       have r47 : vs 20 = undef := q47
       have r48 : vs 21 = undef := q48
       have r49 : vs 22 = undef := q49
       have r50 : vs 23 = undef := q50
       have r51 : vs 24 = undef := q51
       have r52 : vs 25 = undef := q52
       have r53 : vs 26 = undef := q53
       have r54 : vs 27 = undef := q54
       have r55 : vs 28 = undef := q55
       have r56 : vs 29 = .bool true := q56
       clear q27 q28 q29 q30 q31 q32 q33 q34 q35 q36 q37 q38 q39 q40 q41 q42 q43 q44 q45 q46 q47 q48 q49 q50 q51 q52 q53 q54 q55 q56
       simp only [putAll, Act.put, List.setIfInBounds_toArray, List.set_cons_zero, List.set_cons_succ, r27, r28, r29, r30, r31, r32, r33, r34, r35, r36, r37, r38, r39, r40, r41, r42, r43, r44, r45, r46, r47, r48, r49, r50, r51, r52, r53, r54, r55, r56]
       clear r27 r28 r29 r30 r31 r32 r33 r34 r35 r36 r37 r38 r39 r40 r41 r42 r43 r44 r45 r46 r47 r48 r49 r50 r51 r52 r53 r54 r55 r56
       have g2 := gr.trans hg
       go_wp2_with fail
       go_ret
       exact ⟨ret_bool HN.out.symm, gw1.trans g2⟩
    ·have HN : Hid (s.same t = true) := by
      have h := HT.out
      rw [List.take_of_length_le (by omega), List.take_of_length_le (by have := HL.out; omega)] at h
      exact HS.out.trans (beq_true' h)
     go_wp2_with fail
     go_ret
     exact ⟨ret_bool HN.out.symm, gw1.trans gr⟩
  ·have d1 : ((s.late.length : Int) != (t.late.length : Int)) = true := by simp; omega
   have HN : Hid (s.same t = false) := HS.out.trans (beq_false' (fun e => hlen (by rw [e])))
   clear hlen
   go_wp2_with fail
   go_ret
   exact ⟨ret_bool HN.out.symm, gw1⟩
end Go.Proofs.YtlickojpmffmiacGreat
