/-
  sclaw2.BlockTurns answers true for every record, bytes, place and other place.
  Condition: the record's data and the bytes lie in memory.
-/
import Derived.Test.YtnngkckiehhdfaaBAlive
namespace Go.Proofs.Ytnngkckiehhdfaa
open Go.RowKit
open Go.Proofs.Ytnngkckiehhdfaa.Plain Go.Proofs.Ytnngkckiehhdfaa.Reg

theorem grow_bytes {w w' : World} {v : Value} {l : List UInt8} (hg : Grow w w') (h : Bytes w v l) : Bytes w' v l := bytes_grow h hg

set_option maxHeartbeats 1000000 in
theorem blockturns_out (k y n at_ other : Int) (l lb : List UInt8) (ao aob : Option Addr) (cp cpb : Nat) (w : World) (hv : Bytes w (.slice ao l.length cp) l) (h : at_ < 0 ∨ 255 < at_) :
    Calls Try.prog 6 #[.agg #[.int .i64 k, .int .i64 y, .int .i64 n, .slice ao l.length cp], .slice aob lb.length cpb, .int .i64 at_, .int .i64 other] w fun e w' => e = .returned (.bool true) ∧ Grow w w' := by
  go_enter Try.func6, Try.ntmps6
  go_wp2_with fail
  refine (balive_any _).mono ?_
  rintro e w1 ⟨rfl, g1⟩
  have gw1 : Grow w w1 := (grow_alloc _ _).trans g1
  have hb1 : w1.heap[w.heap.size]? = some (.cells #[.int .i64 k, .int .i64 y, .int .i64 n, .slice ao l.length cp] 32 (0, 0)) := (g1.block _ (by simp)).trans (heap_new _ _ _)
  have hv1 := bytes_grow hv gw1
  clear g1 hv
  have y0 := box_cell hb1 0 _ rfl
  have y1 := box_cell hb1 1 _ rfl
  have y2 := box_cell hb1 2 _ rfl
  have y3 := box_cell hb1 3 _ rfl
  rcases h with h | h
  · go_wp2_with fail
    go_ret
    exact ⟨rfl, gw1⟩
  · have h' : ¬ at_ < 0 := by omega
    go_wp2_with fail
    go_ret
    exact ⟨rfl, gw1⟩

set_option maxHeartbeats 2000000 in
theorem blockturns_wrong (k y n at_ other : Int) (l lb : List UInt8) (ao aob : Option Addr) (cp cpb : Nat) (w : World) (hv : Bytes w (.slice ao l.length cp) l) (hu : Bytes w (.slice aob lb.length cpb) lb) (h0 : 0 ≤ at_) (h1 : at_ ≤ 255) (hw : wrong ⟨k, y, n, l⟩ ≠ 0) :
    Calls Try.prog 6 #[.agg #[.int .i64 k, .int .i64 y, .int .i64 n, .slice ao l.length cp], .slice aob lb.length cpb, .int .i64 at_, .int .i64 other] w fun e w' => e = .returned (.bool true) ∧ Grow w w' := by
  have d0 : (wrong ⟨k, y, n, l⟩ == 0) = false := by simpa using hw
  clear hw
  go_enter Try.func6, Try.ntmps6
  go_wp2_with fail
  refine (balive_any _).mono ?_
  rintro e w1 ⟨rfl, g1⟩
  have gw1 : Grow w w1 := (grow_alloc _ _).trans g1
  have hb1 : w1.heap[w.heap.size]? = some (.cells #[.int .i64 k, .int .i64 y, .int .i64 n, .slice ao l.length cp] 32 (0, 0)) := (g1.block _ (by simp)).trans (heap_new _ _ _)
  have hv1 := bytes_grow hv gw1
  clear g1 hv
  have y0 := box_cell hb1 0 _ rfl
  have y1 := box_cell hb1 1 _ rfl
  have y2 := box_cell hb1 2 _ rfl
  have y3 := box_cell hb1 3 _ rfl
  go_wp2_with fail
  refine (wrong_any k y n l _ _ hv1).mono ?_
  rintro e w2 ⟨rfl, g2⟩
  have gt := gw1.trans g2
  clear y0 y1 y2 y3 hb1 hv1 gw1 g2
  go_wp2_with fail
  refine (read_any lb at_ _ _ (by exact bytes_grow hu gt)).mono ?_
  rintro e w8 ⟨d8, rfl, ho8, g8⟩
  have gw8 := gt.trans g8
  obtain ⟨ao8, cp8, rfl⟩ := own_slice ho8
  have hD8 := bytes_own ho8
  clear ho8 g8
  have hx8 := heap_new w8 #[.int .i64 (readR lb at_).kind, .int .i64 (readR lb at_).key, .int .i64 (readR lb at_).ver, .slice ao8 (readR lb at_).data.length cp8] 32
  have gW : Grow w (w8.alloc (.cells #[.int .i64 (readR lb at_).kind, .int .i64 (readR lb at_).key, .int .i64 (readR lb at_).ver, .slice ao8 (readR lb at_).data.length cp8] 32)) := gw8.trans (grow_alloc _ _)
  have hDW := bytes_grow hD8 (grow_alloc w8 (.cells #[.int .i64 (readR lb at_).kind, .int .i64 (readR lb at_).key, .int .i64 (readR lb at_).ver, .slice ao8 (readR lb at_).data.length cp8] 32))
  by_cases he : readE lb at_ = 0
  · obtain ⟨hrw, hrb⟩ := blk_read lb at_ he
    have HRW : Hid (wrong (readR lb at_) = 0) := hrw
    have HRB : Hid (blk (readR lb at_) at_ = lb) := hrb
    rw [he]
    clear he hrw hrb hD8 gw8
    generalize readR lb at_ = rr at *
    go_wp2_with fail
    generalize World.alloc w8 _ = W at hx8 gW hDW ⊢
    generalize w8.heap.size = g8 at hx8 ⊢
    clear gt
    have y0 := box_cell hx8 0 _ rfl
    have y1 := box_cell hx8 1 _ rfl
    have y2 := box_cell hx8 2 _ rfl
    have y3 := box_cell hx8 3 _ rfl
    refine wp_region_told [ex (.int .i64 0), ex (.bool false), ex (.bool false), ex (.agg #[.int .i64 rr.kind, .int .i64 rr.key, .int .i64 rr.ver, .slice ao8 rr.data.length cp8]), ex (.int .i64 0), ex (.bool true), ex (.bool true), ex (.agg #[.int .i64 rr.kind, .int .i64 rr.key, .int .i64 rr.ver, .slice ao8 rr.data.length cp8]), ex (.int .i64 at_), (fun v w => Bytes w v lb), ex (str lb), ex (.slice aob lb.length cpb), ex (str lb), ex (.bool true), ex (.bool true), ex (.bool true), ex (.bool true)] (by kernel_rfl) (by kernel_rfl) ⟨st_ex _, st_ex _, st_ex _, st_ex _, st_ex _, st_ex _, st_ex _, st_ex _, st_ex _, st_bytes _, st_ex _, st_ex _, st_ex _, st_ex _, st_ex _, st_ex _, st_ex _, trivial⟩ ?_ ?_
    · refine ⟨?_, ?_, ?_, ?_, ?_, ?_, ?_, ?_, ?_, ?_, ?_, ?_, ?_, ?_, ?_, ?_, ?_, trivial⟩
      · refine need_plain rfl (fun a w' hg hin => ?_)
        have e : a.eval (.tmp 14) = .int .i64 0 := ins_ext hin 14 (by kernel_rfl)
        exact upon_move rfl e
      · refine need_plain rfl (fun a w' hg hin => ?_)
        have e63 : a.eval (.tmp 63) = .int .i64 0 := ins_on hin 0 (by kernel_rfl)
        refine upon_val ?_ rfl
        clear hin hg
        have ek : ∀ x, a.eval (.const x) = x := fun _ => rfl
        have ef : ∀ f, a.eval (.func f) = .func (.func f) #[] #[] := fun _ => rfl
        generalize a.eval = ev at *
        go_simp
        all_goals first | done | omega | (intro _; omega) | go_arith
      · refine need_plain rfl (fun a w' hg hin => ?_)
        have e : a.eval (.tmp 64) = .bool false := ins_on hin 1 (by kernel_rfl)
        exact upon_move rfl e
      · refine need_yes 2 false rfl (fun a w' hin => ins_on hin 2 (by kernel_rfl)) (fun a w' hg hin => ?_)
        have e13 : a.eval (.tmp 13) = .pointer (some ⟨g8, 0, none⟩) := ins_ext hin 13 (by kernel_rfl)
        have z0 := (Below.cell hg (cell_lt y0)).trans y0
        have z1 := (Below.cell hg (cell_lt y1)).trans y1
        have z2 := (Below.cell hg (cell_lt y2)).trans y2
        have z3 := (Below.cell hg (cell_lt y3)).trans y3
        refine upon_val ?_ rfl
        clear hin hg
        have ek : ∀ x, a.eval (.const x) = x := fun _ => rfl
        have ef : ∀ f, a.eval (.func f) = .func (.func f) #[] #[] := fun _ => rfl
        generalize a.eval = ev at *
        go_simp
        all_goals first | done | omega | (intro _; omega) | go_arith
      · refine need_yes 2 false rfl (fun a w' hin => ins_on hin 2 (by kernel_rfl)) (fun a w' hg hin => ?_)
        have e66 : a.eval (.tmp 66) = .agg #[.int .i64 rr.kind, .int .i64 rr.key, .int .i64 rr.ver, .slice ao8 rr.data.length cp8] := ins_on hin 3 (by kernel_rfl)
        refine upon_call (f := 20) (args := #[.agg #[.int .i64 rr.kind, .int .i64 rr.key, .int .i64 rr.ver, .slice ao8 rr.data.length cp8]]) ?_ ((wrong_any _ _ _ rr.data _ w' (bytes_grow hDW hg)).mono ?_)
        · clear hin hg
          have ek : ∀ x, a.eval (.const x) = x := fun _ => rfl
          have ef : ∀ f, a.eval (.func f) = .func (.func f) #[] #[] := fun _ => rfl
          generalize a.eval = ev at *
          go_simp
          all_goals first | done | omega | (intro _; omega) | go_arith
        · rintro e w2 ⟨rfl, g2⟩
          exact ⟨_, rfl, g2, val_int HRW.out⟩
      · refine need_yes 2 false rfl (fun a w' hin => ins_on hin 2 (by kernel_rfl)) (fun a w' hg hin => ?_)
        have e67 : a.eval (.tmp 67) = .int .i64 0 := ins_on hin 4 (by kernel_rfl)
        refine upon_val ?_ rfl
        clear hin hg
        have ek : ∀ x, a.eval (.const x) = x := fun _ => rfl
        have ef : ∀ f, a.eval (.func f) = .func (.func f) #[] #[] := fun _ => rfl
        generalize a.eval = ev at *
        go_simp
        all_goals first | done | omega | (intro _; omega) | go_arith
      · refine need_yes 2 false rfl (fun a w' hin => ins_on hin 2 (by kernel_rfl)) (fun a w' hg hin => ?_)
        have e : a.eval (.tmp 68) = .bool true := ins_on hin 5 (by kernel_rfl)
        exact upon_move rfl e
      · refine need_yes 6 true rfl (fun a w' hin => ins_on hin 6 (by kernel_rfl)) (fun a w' hg hin => ?_)
        have e13 : a.eval (.tmp 13) = .pointer (some ⟨g8, 0, none⟩) := ins_ext hin 13 (by kernel_rfl)
        have z0 := (Below.cell hg (cell_lt y0)).trans y0
        have z1 := (Below.cell hg (cell_lt y1)).trans y1
        have z2 := (Below.cell hg (cell_lt y2)).trans y2
        have z3 := (Below.cell hg (cell_lt y3)).trans y3
        refine upon_val ?_ rfl
        clear hin hg
        have ek : ∀ x, a.eval (.const x) = x := fun _ => rfl
        have ef : ∀ f, a.eval (.func f) = .func (.func f) #[] #[] := fun _ => rfl
        generalize a.eval = ev at *
        go_simp
        all_goals first | done | omega | (intro _; omega) | go_arith
      · refine need_yes 6 true rfl (fun a w' hin => ins_on hin 6 (by kernel_rfl)) (fun a w' hg hin => ?_)
        have e : a.eval (.tmp 2) = .int .i64 at_ := ins_ext hin 2 (by kernel_rfl)
        exact upon_move rfl e
      · refine need_yes 6 true rfl (fun a w' hin => ins_on hin 6 (by kernel_rfl)) (fun a w' hg hin => ?_)
        have e70 : a.eval (.tmp 70) = .agg #[.int .i64 rr.kind, .int .i64 rr.key, .int .i64 rr.ver, .slice ao8 rr.data.length cp8] := ins_on hin 7 (by kernel_rfl)
        have e71 : a.eval (.tmp 71) = .int .i64 at_ := ins_on hin 8 (by kernel_rfl)
        refine upon_call (f := 23) (args := #[.agg #[.int .i64 rr.kind, .int .i64 rr.key, .int .i64 rr.ver, .slice ao8 rr.data.length cp8], .int .i64 at_]) ?_ ((bbytes_ok _ _ _ at_ rr.data _ w' (bytes_grow hDW hg) HRW.out h0 h1).mono ?_)
        · clear hin hg
          have ek : ∀ x, a.eval (.const x) = x := fun _ => rfl
          have ef : ∀ f, a.eval (.func f) = .func (.func f) #[] #[] := fun _ => rfl
          generalize a.eval = ev at *
          go_simp
          all_goals first | done | omega | (intro _; omega) | go_arith
        · rintro e w2 ⟨v2, rfl, ho2, g2⟩
          exact ⟨_, rfl, g2, by have hz := bytes_own ho2; rw [HRB.out] at hz; exact hz⟩
      · refine need_yes 6 true rfl (fun a w' hin => ins_on hin 6 (by kernel_rfl)) (fun a w' hg hin => ?_)
        have e72 : (fun v w => Bytes w v lb) (a.eval (.tmp 72)) w' := ins_on hin 9 (by kernel_rfl)
        refine upon_val ?_ rfl
        have hrun := run_str w' _ _ e72
        clear hin hg e72
        have ek : ∀ x, a.eval (.const x) = x := fun _ => rfl
        have ef : ∀ f, a.eval (.func f) = .func (.func f) #[] #[] := fun _ => rfl
        generalize a.eval = ev at *
        go_simp
        all_goals first | done | omega | (intro _; omega) | go_arith
      · refine need_yes 6 true rfl (fun a w' hin => ins_on hin 6 (by kernel_rfl)) (fun a w' hg hin => ?_)
        have e : a.eval (.tmp 1) = .slice aob lb.length cpb := ins_ext hin 1 (by kernel_rfl)
        exact upon_move rfl e
      · refine need_yes 6 true rfl (fun a w' hin => ins_on hin 6 (by kernel_rfl)) (fun a w' hg hin => ?_)
        have e74 : a.eval (.tmp 74) = .slice aob lb.length cpb := ins_on hin 11 (by kernel_rfl)
        refine upon_val ?_ rfl
        have hrun := run_str w' _ _ (bytes_grow hu (gW.trans hg))
        clear hin hg
        have ek : ∀ x, a.eval (.const x) = x := fun _ => rfl
        have ef : ∀ f, a.eval (.func f) = .func (.func f) #[] #[] := fun _ => rfl
        generalize a.eval = ev at *
        go_simp
        all_goals first | done | omega | (intro _; omega) | go_arith
      · refine need_yes 6 true rfl (fun a w' hin => ins_on hin 6 (by kernel_rfl)) (fun a w' hg hin => ?_)
        have e73 : a.eval (.tmp 73) = str lb := ins_on hin 10 (by kernel_rfl)
        have e75 : a.eval (.tmp 75) = str lb := ins_on hin 12 (by kernel_rfl)
        refine upon_val ?_ rfl
        unfold str at e73 e75
        clear hin hg
        have ek : ∀ x, a.eval (.const x) = x := fun _ => rfl
        have ef : ∀ f, a.eval (.func f) = .func (.func f) #[] #[] := fun _ => rfl
        generalize a.eval = ev at *
        go_simp
        all_goals first | done | omega | (intro _; omega) | go_arith
      · refine need_yes 2 false rfl (fun a w' hin => ins_on hin 2 (by kernel_rfl)) (fun a w' hg hin => ?_)
        have ec : a.eval (.tmp 69) = .bool true := ins_on hin 6 (by kernel_rfl)
        have e : a.eval (.tmp 76) = .bool true := ins_on hin 13 (by kernel_rfl)
        exact upon_pick rfl ec e
      · refine need_plain rfl (fun a w' hg hin => ?_)
        have ec : a.eval (.tmp 65) = .bool false := ins_on hin 2 (by kernel_rfl)
        have e : a.eval (.tmp 77) = .bool true := ins_on hin 14 (by kernel_rfl)
        exact upon_pick rfl ec e
      · refine need_plain rfl (fun a w' hg hin => ?_)
        have e : a.eval (.tmp 78) = .bool true := ins_on hin 15 (by kernel_rfl)
        exact upon_assign rfl e
    · intro vs w' hg ht
      obtain ⟨q63, q64, q65, q66, q67, q68, q69, q70, q71, q72, q73, q74, q75, q76, q77, q78, q8, -⟩ := ht
      have r63 : vs 0 = .int .i64 0 := q63
      have r64 : vs 1 = .bool false := q64
      have r65 : vs 2 = .bool false := q65
      have r66 : vs 3 = .agg #[.int .i64 rr.kind, .int .i64 rr.key, .int .i64 rr.ver, .slice ao8 rr.data.length cp8] := q66
      have r67 : vs 4 = .int .i64 0 := q67
      have r68 : vs 5 = .bool true := q68
      have r69 : vs 6 = .bool true := q69
      have r70 : vs 7 = .agg #[.int .i64 rr.kind, .int .i64 rr.key, .int .i64 rr.ver, .slice ao8 rr.data.length cp8] := q70
      have r71 : vs 8 = .int .i64 at_ := q71
      have r73 : vs 10 = str lb := q73
      have r74 : vs 11 = .slice aob lb.length cpb := q74
      have r75 : vs 12 = str lb := q75
      have r76 : vs 13 = .bool true := q76
      have r77 : vs 14 = .bool true := q77
      have r78 : vs 15 = .bool true := q78
      have r8 : vs 16 = .bool true := q8
      clear q63 q64 q65 q66 q67 q68 q69 q70 q71 q73 q74 q75 q76 q77 q78 q8
      simp only [putAll, Act.put, List.setIfInBounds_toArray, List.set_cons_zero, List.set_cons_succ, r63, r64, r65, r66, r67, r68, r69, r70, r71, r73, r74, r75, r76, r77, r78, r8]
      clear r63 r64 r65 r66 r67 r68 r69 r70 r71 r73 r74 r75 r76 r77 r78 r8
      go_wp2
      go_ret
      exact ⟨rfl, gW.trans hg⟩
  · have d8 : (readE lb at_ != 0) = true := by simpa using he
    clear he hD8 gw8 hDW hx8
    generalize readE lb at_ = ee at *
    go_wp2_with fail
    generalize World.alloc w8 _ = W at gW ⊢
    generalize w8.heap.size = g8
    clear gt
    refine wp_region_told [ex (.int .i64 ee), ex (.bool true), ex (.bool true), ex (undef), ex (undef), ex (undef), ex (undef), ex (undef), ex (undef), ex (undef), ex (undef), ex (undef), ex (undef), ex (undef), ex (undef), ex (.bool true), ex (.bool true)] (by kernel_rfl) (by kernel_rfl) ⟨st_ex _, st_ex _, st_ex _, st_ex _, st_ex _, st_ex _, st_ex _, st_ex _, st_ex _, st_ex _, st_ex _, st_ex _, st_ex _, st_ex _, st_ex _, st_ex _, st_ex _, trivial⟩ ?_ ?_
    · refine ⟨?_, ?_, ?_, ?_, ?_, ?_, ?_, ?_, ?_, ?_, ?_, ?_, ?_, ?_, ?_, ?_, ?_, trivial⟩
      · refine need_plain rfl (fun a w' hg hin => ?_)
        have e : a.eval (.tmp 14) = .int .i64 ee := ins_ext hin 14 (by kernel_rfl)
        exact upon_move rfl e
      · refine need_plain rfl (fun a w' hg hin => ?_)
        have e63 : a.eval (.tmp 63) = .int .i64 ee := ins_on hin 0 (by kernel_rfl)
        refine upon_val ?_ rfl
        clear hin hg
        have ek : ∀ x, a.eval (.const x) = x := fun _ => rfl
        have ef : ∀ f, a.eval (.func f) = .func (.func f) #[] #[] := fun _ => rfl
        generalize a.eval = ev at *
        go_simp
        all_goals first | done | omega | (intro _; omega) | go_arith
      · refine need_plain rfl (fun a w' hg hin => ?_)
        have e : a.eval (.tmp 64) = .bool true := ins_on hin 1 (by kernel_rfl)
        exact upon_move rfl e
      · refine need_no 2 false true rfl (by decide) (fun a w' hin => ins_on hin 2 (by kernel_rfl)) (fun _ => rfl)
      · refine need_no 2 false true rfl (by decide) (fun a w' hin => ins_on hin 2 (by kernel_rfl)) (fun _ => rfl)
      · refine need_no 2 false true rfl (by decide) (fun a w' hin => ins_on hin 2 (by kernel_rfl)) (fun _ => rfl)
      · refine need_no 2 false true rfl (by decide) (fun a w' hin => ins_on hin 2 (by kernel_rfl)) (fun _ => rfl)
      · refine need_undef 6 true rfl (fun a w' hin => ins_on hin 6 (by kernel_rfl)) (fun _ => rfl)
      · refine need_undef 6 true rfl (fun a w' hin => ins_on hin 6 (by kernel_rfl)) (fun _ => rfl)
      · refine need_undef 6 true rfl (fun a w' hin => ins_on hin 6 (by kernel_rfl)) (fun _ => rfl)
      · refine need_undef 6 true rfl (fun a w' hin => ins_on hin 6 (by kernel_rfl)) (fun _ => rfl)
      · refine need_undef 6 true rfl (fun a w' hin => ins_on hin 6 (by kernel_rfl)) (fun _ => rfl)
      · refine need_undef 6 true rfl (fun a w' hin => ins_on hin 6 (by kernel_rfl)) (fun _ => rfl)
      · refine need_undef 6 true rfl (fun a w' hin => ins_on hin 6 (by kernel_rfl)) (fun _ => rfl)
      · refine need_no 2 false true rfl (by decide) (fun a w' hin => ins_on hin 2 (by kernel_rfl)) (fun _ => rfl)
      · refine need_plain rfl (fun a w' hg hin => ?_)
        have ec : a.eval (.tmp 65) = .bool true := ins_on hin 2 (by kernel_rfl)
        exact upon_pick rfl ec rfl
      · refine need_plain rfl (fun a w' hg hin => ?_)
        have e : a.eval (.tmp 78) = .bool true := ins_on hin 15 (by kernel_rfl)
        exact upon_assign rfl e
    · intro vs w' hg ht
      obtain ⟨q63, q64, q65, q66, q67, q68, q69, q70, q71, q72, q73, q74, q75, q76, q77, q78, q8, -⟩ := ht
      have r63 : vs 0 = .int .i64 ee := q63
      have r64 : vs 1 = .bool true := q64
      have r65 : vs 2 = .bool true := q65
      have r66 : vs 3 = undef := q66
      have r67 : vs 4 = undef := q67
      have r68 : vs 5 = undef := q68
      have r69 : vs 6 = undef := q69
      have r70 : vs 7 = undef := q70
      have r71 : vs 8 = undef := q71
      have r72 : vs 9 = undef := q72
      have r73 : vs 10 = undef := q73
      have r74 : vs 11 = undef := q74
      have r75 : vs 12 = undef := q75
      have r76 : vs 13 = undef := q76
      have r77 : vs 14 = undef := q77
      have r78 : vs 15 = .bool true := q78
      have r8 : vs 16 = .bool true := q8
      clear q63 q64 q65 q66 q67 q68 q69 q70 q71 q72 q73 q74 q75 q76 q77 q78 q8
      simp only [putAll, Act.put, List.setIfInBounds_toArray, List.set_cons_zero, List.set_cons_succ, r63, r64, r65, r66, r67, r68, r69, r70, r71, r72, r73, r74, r75, r76, r77, r78, r8]
      clear r63 r64 r65 r66 r67 r68 r69 r70 r71 r72 r73 r74 r75 r76 r77 r78 r8
      go_wp2
      go_ret
      exact ⟨rfl, gW.trans hg⟩

set_option maxHeartbeats 2000000 in
theorem blockturns_same (k y n at_ : Int) (l lb : List UInt8) (ao aob : Option Addr) (cp cpb : Nat) (w : World) (hv : Bytes w (.slice ao l.length cp) l) (hu : Bytes w (.slice aob lb.length cpb) lb) (h0 : 0 ≤ at_) (h1 : at_ ≤ 255) (hw : wrong ⟨k, y, n, l⟩ = 0) (other : Int) (ho : other = at_) :
    Calls Try.prog 6 #[.agg #[.int .i64 k, .int .i64 y, .int .i64 n, .slice ao l.length cp], .slice aob lb.length cpb, .int .i64 at_, .int .i64 other] w fun e w' => e = .returned (.bool true) ∧ Grow w w' := by
  have d0 : (other != at_) = false := by simp [ho]
  clear ho
  have HR : Hid (wrong ⟨k, y, n, l⟩ = 0) := hw
  have HE : Hid (readE (blk ⟨k, y, n, l⟩ at_) at_ = 0) := (read_blk _ at_ hw h0 h1).1
  have HQ : Hid (readR (blk ⟨k, y, n, l⟩ at_) at_ = ⟨k, y, n, l⟩) := (read_blk _ at_ hw h0 h1).2
  clear hw
  go_enter Try.func6, Try.ntmps6
  go_wp2_with fail
  refine (balive_any _).mono ?_
  rintro e w1 ⟨rfl, g1⟩
  have gw1 : Grow w w1 := (grow_alloc _ _).trans g1
  have hb1 : w1.heap[w.heap.size]? = some (.cells #[.int .i64 k, .int .i64 y, .int .i64 n, .slice ao l.length cp] 32 (0, 0)) := (g1.block _ (by simp)).trans (heap_new _ _ _)
  have hv1 := bytes_grow hv gw1
  clear g1 hv
  have y0 := box_cell hb1 0 _ rfl
  have y1 := box_cell hb1 1 _ rfl
  have y2 := box_cell hb1 2 _ rfl
  have y3 := box_cell hb1 3 _ rfl
  go_wp2_with fail
  refine (wrong_any k y n l _ _ hv1).mono ?_
  rw [HR.out]
  rintro e w2 ⟨rfl, g2⟩
  have hv2 := bytes_grow hv1 g2
  have hb2 := (g2.block _ (heap_lt hb1)).trans hb1
  have gw2 := gw1.trans g2
  clear y0 y1 y2 y3 hb1 hv1 g2 gw1
  have y0 := box_cell hb2 0 _ rfl
  have y1 := box_cell hb2 1 _ rfl
  have y2 := box_cell hb2 2 _ rfl
  have y3 := box_cell hb2 3 _ rfl
  go_wp2_with fail
  refine (bbytes_ok k y n at_ l _ _ hv2 HR.out h0 h1).mono ?_
  rintro e w3 ⟨v3, rfl, ho3, g3⟩
  have hv3 := bytes_grow hv2 g3
  have hb3 := (g3.block _ (heap_lt hb2)).trans hb2
  have gw3 := gw2.trans g3
  have hB3 := bytes_own ho3
  obtain ⟨ao3, cp3, rfl⟩ := own_slice ho3
  clear y0 y1 y2 y3 hb2 hv2 g3 gw2 ho3
  go_wp2_with fail
  refine (read_any _ at_ _ _ hB3).mono ?_
  rw [HE.out, HQ.out]
  rintro e w4 ⟨d4, rfl, ho4, g4⟩
  have hv4 := bytes_grow hv3 g4
  have hb4 := (g4.block _ (heap_lt hb3)).trans hb3
  have gw4 := gw3.trans g4
  have hD4 := bytes_own ho4
  obtain ⟨ao4, cp4, rfl⟩ := own_slice ho4
  clear hb3 hv3 g4 gw3 ho4 hB3
  have y0 := box_cell hb4 0 _ rfl
  have y1 := box_cell hb4 1 _ rfl
  have y2 := box_cell hb4 2 _ rfl
  have y3 := box_cell hb4 3 _ rfl
  have hz4 := heap_lt hb4
  go_wp2_with fail
  refine (same_any _ _ _ _ _ _ l l _ _ _ (by exact bytes_grow hD4 (grow_alloc _ _)) (by exact bytes_grow hv4 (grow_alloc _ _))).mono ?_
  rw [sameB_refl]
  rintro e w5 ⟨rfl, g5⟩
  have g45 : Grow w4 w5 := (grow_alloc _ _).trans g5
  have hv5 := bytes_grow hv4 g45
  have hb5 := (g45.block _ (heap_lt hb4)).trans hb4
  have gw5 := gw4.trans g45
  clear y0 y1 y2 y3 hb4 hv4 g5 g45 gw4 hD4 hz4
  have y0 := box_cell hb5 0 _ rfl
  have y1 := box_cell hb5 1 _ rfl
  have y2 := box_cell hb5 2 _ rfl
  have y3 := box_cell hb5 3 _ rfl
  go_wp2_with fail
  refine (bbytes_ok k y n at_ l _ _ hv5 HR.out h0 h1).mono ?_
  rintro e w6 ⟨v6, rfl, ho6, g6⟩
  have gw6 := gw5.trans g6
  have hB6 := bytes_own ho6
  obtain ⟨ao6, cp6, rfl⟩ := own_slice ho6
  clear y0 y1 y2 y3 hb5 hv5 g6 gw5 ho6
  go_wp2_with fail
  refine (read_any _ other _ _ hB6).mono ?_
  rintro e w7 ⟨d7, rfl, ho7, g7⟩
  obtain ⟨ao7, cp7, rfl⟩ := own_slice ho7
  have gt : Grow w (w7.alloc (.cells #[.int .i64 (readR (blk ⟨k, y, n, l⟩ at_) other).kind, .int .i64 (readR (blk ⟨k, y, n, l⟩ at_) other).key, .int .i64 (readR (blk ⟨k, y, n, l⟩ at_) other).ver, .slice ao7 (readR (blk ⟨k, y, n, l⟩ at_) other).data.length cp7] 32)) := (gw6.trans g7).trans (grow_alloc _ _)
  clear ho7 g7 gw6 hB6
  generalize readR (blk ⟨k, y, n, l⟩ at_) other = r7 at *
  generalize readE (blk ⟨k, y, n, l⟩ at_) other = e7 at *
  go_wp2_with fail
  refine (read_any lb at_ _ _ (by exact bytes_grow hu gt)).mono ?_
  rintro e w8 ⟨d8, rfl, ho8, g8⟩
  have gw8 := gt.trans g8
  obtain ⟨ao8, cp8, rfl⟩ := own_slice ho8
  have hD8 := bytes_own ho8
  clear ho8 g8
  have hx8 := heap_new w8 #[.int .i64 (readR lb at_).kind, .int .i64 (readR lb at_).key, .int .i64 (readR lb at_).ver, .slice ao8 (readR lb at_).data.length cp8] 32
  have gW : Grow w (w8.alloc (.cells #[.int .i64 (readR lb at_).kind, .int .i64 (readR lb at_).key, .int .i64 (readR lb at_).ver, .slice ao8 (readR lb at_).data.length cp8] 32)) := gw8.trans (grow_alloc _ _)
  have hDW := bytes_grow hD8 (grow_alloc w8 (.cells #[.int .i64 (readR lb at_).kind, .int .i64 (readR lb at_).key, .int .i64 (readR lb at_).ver, .slice ao8 (readR lb at_).data.length cp8] 32))
  by_cases he : readE lb at_ = 0
  · obtain ⟨hrw, hrb⟩ := blk_read lb at_ he
    have HRW : Hid (wrong (readR lb at_) = 0) := hrw
    have HRB : Hid (blk (readR lb at_) at_ = lb) := hrb
    rw [he]
    clear he hrw hrb hD8 gw8
    generalize readR lb at_ = rr at *
    go_wp2_with fail
    generalize World.alloc w8 _ = W at hx8 gW hDW ⊢
    generalize w8.heap.size = g8 at hx8 ⊢
    clear gt
    have y0 := box_cell hx8 0 _ rfl
    have y1 := box_cell hx8 1 _ rfl
    have y2 := box_cell hx8 2 _ rfl
    have y3 := box_cell hx8 3 _ rfl
    refine wp_region_told [ex (.int .i64 0), ex (.bool false), ex (.bool false), ex (.agg #[.int .i64 rr.kind, .int .i64 rr.key, .int .i64 rr.ver, .slice ao8 rr.data.length cp8]), ex (.int .i64 0), ex (.bool true), ex (.bool true), ex (.agg #[.int .i64 rr.kind, .int .i64 rr.key, .int .i64 rr.ver, .slice ao8 rr.data.length cp8]), ex (.int .i64 at_), (fun v w => Bytes w v lb), ex (str lb), ex (.slice aob lb.length cpb), ex (str lb), ex (.bool true), ex (.bool true), ex (.bool true), ex (.bool true)] (by kernel_rfl) (by kernel_rfl) ⟨st_ex _, st_ex _, st_ex _, st_ex _, st_ex _, st_ex _, st_ex _, st_ex _, st_ex _, st_bytes _, st_ex _, st_ex _, st_ex _, st_ex _, st_ex _, st_ex _, st_ex _, trivial⟩ ?_ ?_
    · refine ⟨?_, ?_, ?_, ?_, ?_, ?_, ?_, ?_, ?_, ?_, ?_, ?_, ?_, ?_, ?_, ?_, ?_, trivial⟩
      · refine need_plain rfl (fun a w' hg hin => ?_)
        have e : a.eval (.tmp 14) = .int .i64 0 := ins_ext hin 14 (by kernel_rfl)
        exact upon_move rfl e
      · refine need_plain rfl (fun a w' hg hin => ?_)
        have e63 : a.eval (.tmp 63) = .int .i64 0 := ins_on hin 0 (by kernel_rfl)
        refine upon_val ?_ rfl
        clear hin hg
        have ek : ∀ x, a.eval (.const x) = x := fun _ => rfl
        have ef : ∀ f, a.eval (.func f) = .func (.func f) #[] #[] := fun _ => rfl
        generalize a.eval = ev at *
        go_simp
        all_goals first | done | omega | (intro _; omega) | go_arith
      · refine need_plain rfl (fun a w' hg hin => ?_)
        have e : a.eval (.tmp 64) = .bool false := ins_on hin 1 (by kernel_rfl)
        exact upon_move rfl e
      · refine need_yes 2 false rfl (fun a w' hin => ins_on hin 2 (by kernel_rfl)) (fun a w' hg hin => ?_)
        have e13 : a.eval (.tmp 13) = .pointer (some ⟨g8, 0, none⟩) := ins_ext hin 13 (by kernel_rfl)
        have z0 := (Below.cell hg (cell_lt y0)).trans y0
        have z1 := (Below.cell hg (cell_lt y1)).trans y1
        have z2 := (Below.cell hg (cell_lt y2)).trans y2
        have z3 := (Below.cell hg (cell_lt y3)).trans y3
        refine upon_val ?_ rfl
        clear hin hg
        have ek : ∀ x, a.eval (.const x) = x := fun _ => rfl
        have ef : ∀ f, a.eval (.func f) = .func (.func f) #[] #[] := fun _ => rfl
        generalize a.eval = ev at *
        go_simp
        all_goals first | done | omega | (intro _; omega) | go_arith
      · refine need_yes 2 false rfl (fun a w' hin => ins_on hin 2 (by kernel_rfl)) (fun a w' hg hin => ?_)
        have e66 : a.eval (.tmp 66) = .agg #[.int .i64 rr.kind, .int .i64 rr.key, .int .i64 rr.ver, .slice ao8 rr.data.length cp8] := ins_on hin 3 (by kernel_rfl)
        refine upon_call (f := 20) (args := #[.agg #[.int .i64 rr.kind, .int .i64 rr.key, .int .i64 rr.ver, .slice ao8 rr.data.length cp8]]) ?_ ((wrong_any _ _ _ rr.data _ w' (bytes_grow hDW hg)).mono ?_)
        · clear hin hg
          have ek : ∀ x, a.eval (.const x) = x := fun _ => rfl
          have ef : ∀ f, a.eval (.func f) = .func (.func f) #[] #[] := fun _ => rfl
          generalize a.eval = ev at *
          go_simp
          all_goals first | done | omega | (intro _; omega) | go_arith
        · rintro e w2 ⟨rfl, g2⟩
          exact ⟨_, rfl, g2, val_int HRW.out⟩
      · refine need_yes 2 false rfl (fun a w' hin => ins_on hin 2 (by kernel_rfl)) (fun a w' hg hin => ?_)
        have e67 : a.eval (.tmp 67) = .int .i64 0 := ins_on hin 4 (by kernel_rfl)
        refine upon_val ?_ rfl
        clear hin hg
        have ek : ∀ x, a.eval (.const x) = x := fun _ => rfl
        have ef : ∀ f, a.eval (.func f) = .func (.func f) #[] #[] := fun _ => rfl
        generalize a.eval = ev at *
        go_simp
        all_goals first | done | omega | (intro _; omega) | go_arith
      · refine need_yes 2 false rfl (fun a w' hin => ins_on hin 2 (by kernel_rfl)) (fun a w' hg hin => ?_)
        have e : a.eval (.tmp 68) = .bool true := ins_on hin 5 (by kernel_rfl)
        exact upon_move rfl e
      · refine need_yes 6 true rfl (fun a w' hin => ins_on hin 6 (by kernel_rfl)) (fun a w' hg hin => ?_)
        have e13 : a.eval (.tmp 13) = .pointer (some ⟨g8, 0, none⟩) := ins_ext hin 13 (by kernel_rfl)
        have z0 := (Below.cell hg (cell_lt y0)).trans y0
        have z1 := (Below.cell hg (cell_lt y1)).trans y1
        have z2 := (Below.cell hg (cell_lt y2)).trans y2
        have z3 := (Below.cell hg (cell_lt y3)).trans y3
        refine upon_val ?_ rfl
        clear hin hg
        have ek : ∀ x, a.eval (.const x) = x := fun _ => rfl
        have ef : ∀ f, a.eval (.func f) = .func (.func f) #[] #[] := fun _ => rfl
        generalize a.eval = ev at *
        go_simp
        all_goals first | done | omega | (intro _; omega) | go_arith
      · refine need_yes 6 true rfl (fun a w' hin => ins_on hin 6 (by kernel_rfl)) (fun a w' hg hin => ?_)
        have e : a.eval (.tmp 2) = .int .i64 at_ := ins_ext hin 2 (by kernel_rfl)
        exact upon_move rfl e
      · refine need_yes 6 true rfl (fun a w' hin => ins_on hin 6 (by kernel_rfl)) (fun a w' hg hin => ?_)
        have e70 : a.eval (.tmp 70) = .agg #[.int .i64 rr.kind, .int .i64 rr.key, .int .i64 rr.ver, .slice ao8 rr.data.length cp8] := ins_on hin 7 (by kernel_rfl)
        have e71 : a.eval (.tmp 71) = .int .i64 at_ := ins_on hin 8 (by kernel_rfl)
        refine upon_call (f := 23) (args := #[.agg #[.int .i64 rr.kind, .int .i64 rr.key, .int .i64 rr.ver, .slice ao8 rr.data.length cp8], .int .i64 at_]) ?_ ((bbytes_ok _ _ _ at_ rr.data _ w' (bytes_grow hDW hg) HRW.out h0 h1).mono ?_)
        · clear hin hg
          have ek : ∀ x, a.eval (.const x) = x := fun _ => rfl
          have ef : ∀ f, a.eval (.func f) = .func (.func f) #[] #[] := fun _ => rfl
          generalize a.eval = ev at *
          go_simp
          all_goals first | done | omega | (intro _; omega) | go_arith
        · rintro e w2 ⟨v2, rfl, ho2, g2⟩
          exact ⟨_, rfl, g2, by have hz := bytes_own ho2; rw [HRB.out] at hz; exact hz⟩
      · refine need_yes 6 true rfl (fun a w' hin => ins_on hin 6 (by kernel_rfl)) (fun a w' hg hin => ?_)
        have e72 : (fun v w => Bytes w v lb) (a.eval (.tmp 72)) w' := ins_on hin 9 (by kernel_rfl)
        refine upon_val ?_ rfl
        have hrun := run_str w' _ _ e72
        clear hin hg e72
        have ek : ∀ x, a.eval (.const x) = x := fun _ => rfl
        have ef : ∀ f, a.eval (.func f) = .func (.func f) #[] #[] := fun _ => rfl
        generalize a.eval = ev at *
        go_simp
        all_goals first | done | omega | (intro _; omega) | go_arith
      · refine need_yes 6 true rfl (fun a w' hin => ins_on hin 6 (by kernel_rfl)) (fun a w' hg hin => ?_)
        have e : a.eval (.tmp 1) = .slice aob lb.length cpb := ins_ext hin 1 (by kernel_rfl)
        exact upon_move rfl e
      · refine need_yes 6 true rfl (fun a w' hin => ins_on hin 6 (by kernel_rfl)) (fun a w' hg hin => ?_)
        have e74 : a.eval (.tmp 74) = .slice aob lb.length cpb := ins_on hin 11 (by kernel_rfl)
        refine upon_val ?_ rfl
        have hrun := run_str w' _ _ (bytes_grow hu (gW.trans hg))
        clear hin hg
        have ek : ∀ x, a.eval (.const x) = x := fun _ => rfl
        have ef : ∀ f, a.eval (.func f) = .func (.func f) #[] #[] := fun _ => rfl
        generalize a.eval = ev at *
        go_simp
        all_goals first | done | omega | (intro _; omega) | go_arith
      · refine need_yes 6 true rfl (fun a w' hin => ins_on hin 6 (by kernel_rfl)) (fun a w' hg hin => ?_)
        have e73 : a.eval (.tmp 73) = str lb := ins_on hin 10 (by kernel_rfl)
        have e75 : a.eval (.tmp 75) = str lb := ins_on hin 12 (by kernel_rfl)
        refine upon_val ?_ rfl
        unfold str at e73 e75
        clear hin hg
        have ek : ∀ x, a.eval (.const x) = x := fun _ => rfl
        have ef : ∀ f, a.eval (.func f) = .func (.func f) #[] #[] := fun _ => rfl
        generalize a.eval = ev at *
        go_simp
        all_goals first | done | omega | (intro _; omega) | go_arith
      · refine need_yes 2 false rfl (fun a w' hin => ins_on hin 2 (by kernel_rfl)) (fun a w' hg hin => ?_)
        have ec : a.eval (.tmp 69) = .bool true := ins_on hin 6 (by kernel_rfl)
        have e : a.eval (.tmp 76) = .bool true := ins_on hin 13 (by kernel_rfl)
        exact upon_pick rfl ec e
      · refine need_plain rfl (fun a w' hg hin => ?_)
        have ec : a.eval (.tmp 65) = .bool false := ins_on hin 2 (by kernel_rfl)
        have e : a.eval (.tmp 77) = .bool true := ins_on hin 14 (by kernel_rfl)
        exact upon_pick rfl ec e
      · refine need_plain rfl (fun a w' hg hin => ?_)
        have e : a.eval (.tmp 78) = .bool true := ins_on hin 15 (by kernel_rfl)
        exact upon_assign rfl e
    · intro vs w' hg ht
      obtain ⟨q63, q64, q65, q66, q67, q68, q69, q70, q71, q72, q73, q74, q75, q76, q77, q78, q8, -⟩ := ht
      have r63 : vs 0 = .int .i64 0 := q63
      have r64 : vs 1 = .bool false := q64
      have r65 : vs 2 = .bool false := q65
      have r66 : vs 3 = .agg #[.int .i64 rr.kind, .int .i64 rr.key, .int .i64 rr.ver, .slice ao8 rr.data.length cp8] := q66
      have r67 : vs 4 = .int .i64 0 := q67
      have r68 : vs 5 = .bool true := q68
      have r69 : vs 6 = .bool true := q69
      have r70 : vs 7 = .agg #[.int .i64 rr.kind, .int .i64 rr.key, .int .i64 rr.ver, .slice ao8 rr.data.length cp8] := q70
      have r71 : vs 8 = .int .i64 at_ := q71
      have r73 : vs 10 = str lb := q73
      have r74 : vs 11 = .slice aob lb.length cpb := q74
      have r75 : vs 12 = str lb := q75
      have r76 : vs 13 = .bool true := q76
      have r77 : vs 14 = .bool true := q77
      have r78 : vs 15 = .bool true := q78
      have r8 : vs 16 = .bool true := q8
      clear q63 q64 q65 q66 q67 q68 q69 q70 q71 q73 q74 q75 q76 q77 q78 q8
      simp only [putAll, Act.put, List.setIfInBounds_toArray, List.set_cons_zero, List.set_cons_succ, r63, r64, r65, r66, r67, r68, r69, r70, r71, r73, r74, r75, r76, r77, r78, r8]
      clear r63 r64 r65 r66 r67 r68 r69 r70 r71 r73 r74 r75 r76 r77 r78 r8
      go_wp2
      go_ret
      exact ⟨rfl, gW.trans hg⟩
  · have d8 : (readE lb at_ != 0) = true := by simpa using he
    clear he hD8 gw8 hDW hx8
    generalize readE lb at_ = ee at *
    go_wp2_with fail
    generalize World.alloc w8 _ = W at gW ⊢
    generalize w8.heap.size = g8
    clear gt
    refine wp_region_told [ex (.int .i64 ee), ex (.bool true), ex (.bool true), ex (undef), ex (undef), ex (undef), ex (undef), ex (undef), ex (undef), ex (undef), ex (undef), ex (undef), ex (undef), ex (undef), ex (undef), ex (.bool true), ex (.bool true)] (by kernel_rfl) (by kernel_rfl) ⟨st_ex _, st_ex _, st_ex _, st_ex _, st_ex _, st_ex _, st_ex _, st_ex _, st_ex _, st_ex _, st_ex _, st_ex _, st_ex _, st_ex _, st_ex _, st_ex _, st_ex _, trivial⟩ ?_ ?_
    · refine ⟨?_, ?_, ?_, ?_, ?_, ?_, ?_, ?_, ?_, ?_, ?_, ?_, ?_, ?_, ?_, ?_, ?_, trivial⟩
      · refine need_plain rfl (fun a w' hg hin => ?_)
        have e : a.eval (.tmp 14) = .int .i64 ee := ins_ext hin 14 (by kernel_rfl)
        exact upon_move rfl e
      · refine need_plain rfl (fun a w' hg hin => ?_)
        have e63 : a.eval (.tmp 63) = .int .i64 ee := ins_on hin 0 (by kernel_rfl)
        refine upon_val ?_ rfl
        clear hin hg
        have ek : ∀ x, a.eval (.const x) = x := fun _ => rfl
        have ef : ∀ f, a.eval (.func f) = .func (.func f) #[] #[] := fun _ => rfl
        generalize a.eval = ev at *
        go_simp
        all_goals first | done | omega | (intro _; omega) | go_arith
      · refine need_plain rfl (fun a w' hg hin => ?_)
        have e : a.eval (.tmp 64) = .bool true := ins_on hin 1 (by kernel_rfl)
        exact upon_move rfl e
      · refine need_no 2 false true rfl (by decide) (fun a w' hin => ins_on hin 2 (by kernel_rfl)) (fun _ => rfl)
      · refine need_no 2 false true rfl (by decide) (fun a w' hin => ins_on hin 2 (by kernel_rfl)) (fun _ => rfl)
      · refine need_no 2 false true rfl (by decide) (fun a w' hin => ins_on hin 2 (by kernel_rfl)) (fun _ => rfl)
      · refine need_no 2 false true rfl (by decide) (fun a w' hin => ins_on hin 2 (by kernel_rfl)) (fun _ => rfl)
      · refine need_undef 6 true rfl (fun a w' hin => ins_on hin 6 (by kernel_rfl)) (fun _ => rfl)
      · refine need_undef 6 true rfl (fun a w' hin => ins_on hin 6 (by kernel_rfl)) (fun _ => rfl)
      · refine need_undef 6 true rfl (fun a w' hin => ins_on hin 6 (by kernel_rfl)) (fun _ => rfl)
      · refine need_undef 6 true rfl (fun a w' hin => ins_on hin 6 (by kernel_rfl)) (fun _ => rfl)
      · refine need_undef 6 true rfl (fun a w' hin => ins_on hin 6 (by kernel_rfl)) (fun _ => rfl)
      · refine need_undef 6 true rfl (fun a w' hin => ins_on hin 6 (by kernel_rfl)) (fun _ => rfl)
      · refine need_undef 6 true rfl (fun a w' hin => ins_on hin 6 (by kernel_rfl)) (fun _ => rfl)
      · refine need_no 2 false true rfl (by decide) (fun a w' hin => ins_on hin 2 (by kernel_rfl)) (fun _ => rfl)
      · refine need_plain rfl (fun a w' hg hin => ?_)
        have ec : a.eval (.tmp 65) = .bool true := ins_on hin 2 (by kernel_rfl)
        exact upon_pick rfl ec rfl
      · refine need_plain rfl (fun a w' hg hin => ?_)
        have e : a.eval (.tmp 78) = .bool true := ins_on hin 15 (by kernel_rfl)
        exact upon_assign rfl e
    · intro vs w' hg ht
      obtain ⟨q63, q64, q65, q66, q67, q68, q69, q70, q71, q72, q73, q74, q75, q76, q77, q78, q8, -⟩ := ht
      have r63 : vs 0 = .int .i64 ee := q63
      have r64 : vs 1 = .bool true := q64
      have r65 : vs 2 = .bool true := q65
      have r66 : vs 3 = undef := q66
      have r67 : vs 4 = undef := q67
      have r68 : vs 5 = undef := q68
      have r69 : vs 6 = undef := q69
      have r70 : vs 7 = undef := q70
      have r71 : vs 8 = undef := q71
      have r72 : vs 9 = undef := q72
      have r73 : vs 10 = undef := q73
      have r74 : vs 11 = undef := q74
      have r75 : vs 12 = undef := q75
      have r76 : vs 13 = undef := q76
      have r77 : vs 14 = undef := q77
      have r78 : vs 15 = .bool true := q78
      have r8 : vs 16 = .bool true := q8
      clear q63 q64 q65 q66 q67 q68 q69 q70 q71 q72 q73 q74 q75 q76 q77 q78 q8
      simp only [putAll, Act.put, List.setIfInBounds_toArray, List.set_cons_zero, List.set_cons_succ, r63, r64, r65, r66, r67, r68, r69, r70, r71, r72, r73, r74, r75, r76, r77, r78, r8]
      clear r63 r64 r65 r66 r67 r68 r69 r70 r71 r72 r73 r74 r75 r76 r77 r78 r8
      go_wp2
      go_ret
      exact ⟨rfl, gW.trans hg⟩

set_option maxHeartbeats 2000000 in
theorem blockturns_other (k y n at_ : Int) (l lb : List UInt8) (ao aob : Option Addr) (cp cpb : Nat) (w : World) (hv : Bytes w (.slice ao l.length cp) l) (hu : Bytes w (.slice aob lb.length cpb) lb) (h0 : 0 ≤ at_) (h1 : at_ ≤ 255) (hw : wrong ⟨k, y, n, l⟩ = 0) (other : Int) (ho : other ≠ at_) :
    Calls Try.prog 6 #[.agg #[.int .i64 k, .int .i64 y, .int .i64 n, .slice ao l.length cp], .slice aob lb.length cpb, .int .i64 at_, .int .i64 other] w fun e w' => e = .returned (.bool true) ∧ Grow w w' := by
  have HO : Hid (readE (blk ⟨k, y, n, l⟩ at_) other = 8) := read_other _ at_ other hw h0 h1 ho
  have d0 : (other != at_) = true := by simp [ho]
  clear ho
  have HR : Hid (wrong ⟨k, y, n, l⟩ = 0) := hw
  have HE : Hid (readE (blk ⟨k, y, n, l⟩ at_) at_ = 0) := (read_blk _ at_ hw h0 h1).1
  have HQ : Hid (readR (blk ⟨k, y, n, l⟩ at_) at_ = ⟨k, y, n, l⟩) := (read_blk _ at_ hw h0 h1).2
  clear hw
  go_enter Try.func6, Try.ntmps6
  go_wp2_with fail
  refine (balive_any _).mono ?_
  rintro e w1 ⟨rfl, g1⟩
  have gw1 : Grow w w1 := (grow_alloc _ _).trans g1
  have hb1 : w1.heap[w.heap.size]? = some (.cells #[.int .i64 k, .int .i64 y, .int .i64 n, .slice ao l.length cp] 32 (0, 0)) := (g1.block _ (by simp)).trans (heap_new _ _ _)
  have hv1 := bytes_grow hv gw1
  clear g1 hv
  have y0 := box_cell hb1 0 _ rfl
  have y1 := box_cell hb1 1 _ rfl
  have y2 := box_cell hb1 2 _ rfl
  have y3 := box_cell hb1 3 _ rfl
  go_wp2_with fail
  refine (wrong_any k y n l _ _ hv1).mono ?_
  rw [HR.out]
  rintro e w2 ⟨rfl, g2⟩
  have hv2 := bytes_grow hv1 g2
  have hb2 := (g2.block _ (heap_lt hb1)).trans hb1
  have gw2 := gw1.trans g2
  clear y0 y1 y2 y3 hb1 hv1 g2 gw1
  have y0 := box_cell hb2 0 _ rfl
  have y1 := box_cell hb2 1 _ rfl
  have y2 := box_cell hb2 2 _ rfl
  have y3 := box_cell hb2 3 _ rfl
  go_wp2_with fail
  refine (bbytes_ok k y n at_ l _ _ hv2 HR.out h0 h1).mono ?_
  rintro e w3 ⟨v3, rfl, ho3, g3⟩
  have hv3 := bytes_grow hv2 g3
  have hb3 := (g3.block _ (heap_lt hb2)).trans hb2
  have gw3 := gw2.trans g3
  have hB3 := bytes_own ho3
  obtain ⟨ao3, cp3, rfl⟩ := own_slice ho3
  clear y0 y1 y2 y3 hb2 hv2 g3 gw2 ho3
  go_wp2_with fail
  refine (read_any _ at_ _ _ hB3).mono ?_
  rw [HE.out, HQ.out]
  rintro e w4 ⟨d4, rfl, ho4, g4⟩
  have hv4 := bytes_grow hv3 g4
  have hb4 := (g4.block _ (heap_lt hb3)).trans hb3
  have gw4 := gw3.trans g4
  have hD4 := bytes_own ho4
  obtain ⟨ao4, cp4, rfl⟩ := own_slice ho4
  clear hb3 hv3 g4 gw3 ho4 hB3
  have y0 := box_cell hb4 0 _ rfl
  have y1 := box_cell hb4 1 _ rfl
  have y2 := box_cell hb4 2 _ rfl
  have y3 := box_cell hb4 3 _ rfl
  have hz4 := heap_lt hb4
  go_wp2_with fail
  refine (same_any _ _ _ _ _ _ l l _ _ _ (by exact bytes_grow hD4 (grow_alloc _ _)) (by exact bytes_grow hv4 (grow_alloc _ _))).mono ?_
  rw [sameB_refl]
  rintro e w5 ⟨rfl, g5⟩
  have g45 : Grow w4 w5 := (grow_alloc _ _).trans g5
  have hv5 := bytes_grow hv4 g45
  have hb5 := (g45.block _ (heap_lt hb4)).trans hb4
  have gw5 := gw4.trans g45
  clear y0 y1 y2 y3 hb4 hv4 g5 g45 gw4 hD4 hz4
  have y0 := box_cell hb5 0 _ rfl
  have y1 := box_cell hb5 1 _ rfl
  have y2 := box_cell hb5 2 _ rfl
  have y3 := box_cell hb5 3 _ rfl
  go_wp2_with fail
  refine (bbytes_ok k y n at_ l _ _ hv5 HR.out h0 h1).mono ?_
  rintro e w6 ⟨v6, rfl, ho6, g6⟩
  have gw6 := gw5.trans g6
  have hB6 := bytes_own ho6
  obtain ⟨ao6, cp6, rfl⟩ := own_slice ho6
  clear y0 y1 y2 y3 hb5 hv5 g6 gw5 ho6
  go_wp2_with fail
  refine (read_any _ other _ _ hB6).mono ?_
  rw [HO.out]
  rintro e w7 ⟨d7, rfl, ho7, g7⟩
  obtain ⟨ao7, cp7, rfl⟩ := own_slice ho7
  have gt : Grow w (w7.alloc (.cells #[.int .i64 (readR (blk ⟨k, y, n, l⟩ at_) other).kind, .int .i64 (readR (blk ⟨k, y, n, l⟩ at_) other).key, .int .i64 (readR (blk ⟨k, y, n, l⟩ at_) other).ver, .slice ao7 (readR (blk ⟨k, y, n, l⟩ at_) other).data.length cp7] 32)) := (gw6.trans g7).trans (grow_alloc _ _)
  clear ho7 g7 gw6 hB6
  generalize readR (blk ⟨k, y, n, l⟩ at_) other = r7 at *
  go_wp2_with fail
  refine (read_any lb at_ _ _ (by exact bytes_grow hu gt)).mono ?_
  rintro e w8 ⟨d8, rfl, ho8, g8⟩
  have gw8 := gt.trans g8
  obtain ⟨ao8, cp8, rfl⟩ := own_slice ho8
  have hD8 := bytes_own ho8
  clear ho8 g8
  have hx8 := heap_new w8 #[.int .i64 (readR lb at_).kind, .int .i64 (readR lb at_).key, .int .i64 (readR lb at_).ver, .slice ao8 (readR lb at_).data.length cp8] 32
  have gW : Grow w (w8.alloc (.cells #[.int .i64 (readR lb at_).kind, .int .i64 (readR lb at_).key, .int .i64 (readR lb at_).ver, .slice ao8 (readR lb at_).data.length cp8] 32)) := gw8.trans (grow_alloc _ _)
  have hDW := bytes_grow hD8 (grow_alloc w8 (.cells #[.int .i64 (readR lb at_).kind, .int .i64 (readR lb at_).key, .int .i64 (readR lb at_).ver, .slice ao8 (readR lb at_).data.length cp8] 32))
  by_cases he : readE lb at_ = 0
  · obtain ⟨hrw, hrb⟩ := blk_read lb at_ he
    have HRW : Hid (wrong (readR lb at_) = 0) := hrw
    have HRB : Hid (blk (readR lb at_) at_ = lb) := hrb
    rw [he]
    clear he hrw hrb hD8 gw8
    generalize readR lb at_ = rr at *
    go_wp2_with fail
    generalize World.alloc w8 _ = W at hx8 gW hDW ⊢
    generalize w8.heap.size = g8 at hx8 ⊢
    clear gt
    have y0 := box_cell hx8 0 _ rfl
    have y1 := box_cell hx8 1 _ rfl
    have y2 := box_cell hx8 2 _ rfl
    have y3 := box_cell hx8 3 _ rfl
    refine wp_region_told [ex (.int .i64 0), ex (.bool false), ex (.bool false), ex (.agg #[.int .i64 rr.kind, .int .i64 rr.key, .int .i64 rr.ver, .slice ao8 rr.data.length cp8]), ex (.int .i64 0), ex (.bool true), ex (.bool true), ex (.agg #[.int .i64 rr.kind, .int .i64 rr.key, .int .i64 rr.ver, .slice ao8 rr.data.length cp8]), ex (.int .i64 at_), (fun v w => Bytes w v lb), ex (str lb), ex (.slice aob lb.length cpb), ex (str lb), ex (.bool true), ex (.bool true), ex (.bool true), ex (.bool true)] (by kernel_rfl) (by kernel_rfl) ⟨st_ex _, st_ex _, st_ex _, st_ex _, st_ex _, st_ex _, st_ex _, st_ex _, st_ex _, st_bytes _, st_ex _, st_ex _, st_ex _, st_ex _, st_ex _, st_ex _, st_ex _, trivial⟩ ?_ ?_
    · refine ⟨?_, ?_, ?_, ?_, ?_, ?_, ?_, ?_, ?_, ?_, ?_, ?_, ?_, ?_, ?_, ?_, ?_, trivial⟩
      · refine need_plain rfl (fun a w' hg hin => ?_)
        have e : a.eval (.tmp 14) = .int .i64 0 := ins_ext hin 14 (by kernel_rfl)
        exact upon_move rfl e
      · refine need_plain rfl (fun a w' hg hin => ?_)
        have e63 : a.eval (.tmp 63) = .int .i64 0 := ins_on hin 0 (by kernel_rfl)
        refine upon_val ?_ rfl
        clear hin hg
        have ek : ∀ x, a.eval (.const x) = x := fun _ => rfl
        have ef : ∀ f, a.eval (.func f) = .func (.func f) #[] #[] := fun _ => rfl
        generalize a.eval = ev at *
        go_simp
        all_goals first | done | omega | (intro _; omega) | go_arith
      · refine need_plain rfl (fun a w' hg hin => ?_)
        have e : a.eval (.tmp 64) = .bool false := ins_on hin 1 (by kernel_rfl)
        exact upon_move rfl e
      · refine need_yes 2 false rfl (fun a w' hin => ins_on hin 2 (by kernel_rfl)) (fun a w' hg hin => ?_)
        have e13 : a.eval (.tmp 13) = .pointer (some ⟨g8, 0, none⟩) := ins_ext hin 13 (by kernel_rfl)
        have z0 := (Below.cell hg (cell_lt y0)).trans y0
        have z1 := (Below.cell hg (cell_lt y1)).trans y1
        have z2 := (Below.cell hg (cell_lt y2)).trans y2
        have z3 := (Below.cell hg (cell_lt y3)).trans y3
        refine upon_val ?_ rfl
        clear hin hg
        have ek : ∀ x, a.eval (.const x) = x := fun _ => rfl
        have ef : ∀ f, a.eval (.func f) = .func (.func f) #[] #[] := fun _ => rfl
        generalize a.eval = ev at *
        go_simp
        all_goals first | done | omega | (intro _; omega) | go_arith
      · refine need_yes 2 false rfl (fun a w' hin => ins_on hin 2 (by kernel_rfl)) (fun a w' hg hin => ?_)
        have e66 : a.eval (.tmp 66) = .agg #[.int .i64 rr.kind, .int .i64 rr.key, .int .i64 rr.ver, .slice ao8 rr.data.length cp8] := ins_on hin 3 (by kernel_rfl)
        refine upon_call (f := 20) (args := #[.agg #[.int .i64 rr.kind, .int .i64 rr.key, .int .i64 rr.ver, .slice ao8 rr.data.length cp8]]) ?_ ((wrong_any _ _ _ rr.data _ w' (bytes_grow hDW hg)).mono ?_)
        · clear hin hg
          have ek : ∀ x, a.eval (.const x) = x := fun _ => rfl
          have ef : ∀ f, a.eval (.func f) = .func (.func f) #[] #[] := fun _ => rfl
          generalize a.eval = ev at *
          go_simp
          all_goals first | done | omega | (intro _; omega) | go_arith
        · rintro e w2 ⟨rfl, g2⟩
          exact ⟨_, rfl, g2, val_int HRW.out⟩
      · refine need_yes 2 false rfl (fun a w' hin => ins_on hin 2 (by kernel_rfl)) (fun a w' hg hin => ?_)
        have e67 : a.eval (.tmp 67) = .int .i64 0 := ins_on hin 4 (by kernel_rfl)
        refine upon_val ?_ rfl
        clear hin hg
        have ek : ∀ x, a.eval (.const x) = x := fun _ => rfl
        have ef : ∀ f, a.eval (.func f) = .func (.func f) #[] #[] := fun _ => rfl
        generalize a.eval = ev at *
        go_simp
        all_goals first | done | omega | (intro _; omega) | go_arith
      · refine need_yes 2 false rfl (fun a w' hin => ins_on hin 2 (by kernel_rfl)) (fun a w' hg hin => ?_)
        have e : a.eval (.tmp 68) = .bool true := ins_on hin 5 (by kernel_rfl)
        exact upon_move rfl e
      · refine need_yes 6 true rfl (fun a w' hin => ins_on hin 6 (by kernel_rfl)) (fun a w' hg hin => ?_)
        have e13 : a.eval (.tmp 13) = .pointer (some ⟨g8, 0, none⟩) := ins_ext hin 13 (by kernel_rfl)
        have z0 := (Below.cell hg (cell_lt y0)).trans y0
        have z1 := (Below.cell hg (cell_lt y1)).trans y1
        have z2 := (Below.cell hg (cell_lt y2)).trans y2
        have z3 := (Below.cell hg (cell_lt y3)).trans y3
        refine upon_val ?_ rfl
        clear hin hg
        have ek : ∀ x, a.eval (.const x) = x := fun _ => rfl
        have ef : ∀ f, a.eval (.func f) = .func (.func f) #[] #[] := fun _ => rfl
        generalize a.eval = ev at *
        go_simp
        all_goals first | done | omega | (intro _; omega) | go_arith
      · refine need_yes 6 true rfl (fun a w' hin => ins_on hin 6 (by kernel_rfl)) (fun a w' hg hin => ?_)
        have e : a.eval (.tmp 2) = .int .i64 at_ := ins_ext hin 2 (by kernel_rfl)
        exact upon_move rfl e
      · refine need_yes 6 true rfl (fun a w' hin => ins_on hin 6 (by kernel_rfl)) (fun a w' hg hin => ?_)
        have e70 : a.eval (.tmp 70) = .agg #[.int .i64 rr.kind, .int .i64 rr.key, .int .i64 rr.ver, .slice ao8 rr.data.length cp8] := ins_on hin 7 (by kernel_rfl)
        have e71 : a.eval (.tmp 71) = .int .i64 at_ := ins_on hin 8 (by kernel_rfl)
        refine upon_call (f := 23) (args := #[.agg #[.int .i64 rr.kind, .int .i64 rr.key, .int .i64 rr.ver, .slice ao8 rr.data.length cp8], .int .i64 at_]) ?_ ((bbytes_ok _ _ _ at_ rr.data _ w' (bytes_grow hDW hg) HRW.out h0 h1).mono ?_)
        · clear hin hg
          have ek : ∀ x, a.eval (.const x) = x := fun _ => rfl
          have ef : ∀ f, a.eval (.func f) = .func (.func f) #[] #[] := fun _ => rfl
          generalize a.eval = ev at *
          go_simp
          all_goals first | done | omega | (intro _; omega) | go_arith
        · rintro e w2 ⟨v2, rfl, ho2, g2⟩
          exact ⟨_, rfl, g2, by have hz := bytes_own ho2; rw [HRB.out] at hz; exact hz⟩
      · refine need_yes 6 true rfl (fun a w' hin => ins_on hin 6 (by kernel_rfl)) (fun a w' hg hin => ?_)
        have e72 : (fun v w => Bytes w v lb) (a.eval (.tmp 72)) w' := ins_on hin 9 (by kernel_rfl)
        refine upon_val ?_ rfl
        have hrun := run_str w' _ _ e72
        clear hin hg e72
        have ek : ∀ x, a.eval (.const x) = x := fun _ => rfl
        have ef : ∀ f, a.eval (.func f) = .func (.func f) #[] #[] := fun _ => rfl
        generalize a.eval = ev at *
        go_simp
        all_goals first | done | omega | (intro _; omega) | go_arith
      · refine need_yes 6 true rfl (fun a w' hin => ins_on hin 6 (by kernel_rfl)) (fun a w' hg hin => ?_)
        have e : a.eval (.tmp 1) = .slice aob lb.length cpb := ins_ext hin 1 (by kernel_rfl)
        exact upon_move rfl e
      · refine need_yes 6 true rfl (fun a w' hin => ins_on hin 6 (by kernel_rfl)) (fun a w' hg hin => ?_)
        have e74 : a.eval (.tmp 74) = .slice aob lb.length cpb := ins_on hin 11 (by kernel_rfl)
        refine upon_val ?_ rfl
        have hrun := run_str w' _ _ (bytes_grow hu (gW.trans hg))
        clear hin hg
        have ek : ∀ x, a.eval (.const x) = x := fun _ => rfl
        have ef : ∀ f, a.eval (.func f) = .func (.func f) #[] #[] := fun _ => rfl
        generalize a.eval = ev at *
        go_simp
        all_goals first | done | omega | (intro _; omega) | go_arith
      · refine need_yes 6 true rfl (fun a w' hin => ins_on hin 6 (by kernel_rfl)) (fun a w' hg hin => ?_)
        have e73 : a.eval (.tmp 73) = str lb := ins_on hin 10 (by kernel_rfl)
        have e75 : a.eval (.tmp 75) = str lb := ins_on hin 12 (by kernel_rfl)
        refine upon_val ?_ rfl
        unfold str at e73 e75
        clear hin hg
        have ek : ∀ x, a.eval (.const x) = x := fun _ => rfl
        have ef : ∀ f, a.eval (.func f) = .func (.func f) #[] #[] := fun _ => rfl
        generalize a.eval = ev at *
        go_simp
        all_goals first | done | omega | (intro _; omega) | go_arith
      · refine need_yes 2 false rfl (fun a w' hin => ins_on hin 2 (by kernel_rfl)) (fun a w' hg hin => ?_)
        have ec : a.eval (.tmp 69) = .bool true := ins_on hin 6 (by kernel_rfl)
        have e : a.eval (.tmp 76) = .bool true := ins_on hin 13 (by kernel_rfl)
        exact upon_pick rfl ec e
      · refine need_plain rfl (fun a w' hg hin => ?_)
        have ec : a.eval (.tmp 65) = .bool false := ins_on hin 2 (by kernel_rfl)
        have e : a.eval (.tmp 77) = .bool true := ins_on hin 14 (by kernel_rfl)
        exact upon_pick rfl ec e
      · refine need_plain rfl (fun a w' hg hin => ?_)
        have e : a.eval (.tmp 78) = .bool true := ins_on hin 15 (by kernel_rfl)
        exact upon_assign rfl e
    · intro vs w' hg ht
      obtain ⟨q63, q64, q65, q66, q67, q68, q69, q70, q71, q72, q73, q74, q75, q76, q77, q78, q8, -⟩ := ht
      have r63 : vs 0 = .int .i64 0 := q63
      have r64 : vs 1 = .bool false := q64
      have r65 : vs 2 = .bool false := q65
      have r66 : vs 3 = .agg #[.int .i64 rr.kind, .int .i64 rr.key, .int .i64 rr.ver, .slice ao8 rr.data.length cp8] := q66
      have r67 : vs 4 = .int .i64 0 := q67
      have r68 : vs 5 = .bool true := q68
      have r69 : vs 6 = .bool true := q69
      have r70 : vs 7 = .agg #[.int .i64 rr.kind, .int .i64 rr.key, .int .i64 rr.ver, .slice ao8 rr.data.length cp8] := q70
      have r71 : vs 8 = .int .i64 at_ := q71
      have r73 : vs 10 = str lb := q73
      have r74 : vs 11 = .slice aob lb.length cpb := q74
      have r75 : vs 12 = str lb := q75
      have r76 : vs 13 = .bool true := q76
      have r77 : vs 14 = .bool true := q77
      have r78 : vs 15 = .bool true := q78
      have r8 : vs 16 = .bool true := q8
      clear q63 q64 q65 q66 q67 q68 q69 q70 q71 q73 q74 q75 q76 q77 q78 q8
      simp only [putAll, Act.put, List.setIfInBounds_toArray, List.set_cons_zero, List.set_cons_succ, r63, r64, r65, r66, r67, r68, r69, r70, r71, r73, r74, r75, r76, r77, r78, r8]
      clear r63 r64 r65 r66 r67 r68 r69 r70 r71 r73 r74 r75 r76 r77 r78 r8
      go_wp2
      go_ret
      exact ⟨rfl, gW.trans hg⟩
  · have d8 : (readE lb at_ != 0) = true := by simpa using he
    clear he hD8 gw8 hDW hx8
    generalize readE lb at_ = ee at *
    go_wp2_with fail
    generalize World.alloc w8 _ = W at gW ⊢
    generalize w8.heap.size = g8
    clear gt
    refine wp_region_told [ex (.int .i64 ee), ex (.bool true), ex (.bool true), ex (undef), ex (undef), ex (undef), ex (undef), ex (undef), ex (undef), ex (undef), ex (undef), ex (undef), ex (undef), ex (undef), ex (undef), ex (.bool true), ex (.bool true)] (by kernel_rfl) (by kernel_rfl) ⟨st_ex _, st_ex _, st_ex _, st_ex _, st_ex _, st_ex _, st_ex _, st_ex _, st_ex _, st_ex _, st_ex _, st_ex _, st_ex _, st_ex _, st_ex _, st_ex _, st_ex _, trivial⟩ ?_ ?_
    · refine ⟨?_, ?_, ?_, ?_, ?_, ?_, ?_, ?_, ?_, ?_, ?_, ?_, ?_, ?_, ?_, ?_, ?_, trivial⟩
      · refine need_plain rfl (fun a w' hg hin => ?_)
        have e : a.eval (.tmp 14) = .int .i64 ee := ins_ext hin 14 (by kernel_rfl)
        exact upon_move rfl e
      · refine need_plain rfl (fun a w' hg hin => ?_)
        have e63 : a.eval (.tmp 63) = .int .i64 ee := ins_on hin 0 (by kernel_rfl)
        refine upon_val ?_ rfl
        clear hin hg
        have ek : ∀ x, a.eval (.const x) = x := fun _ => rfl
        have ef : ∀ f, a.eval (.func f) = .func (.func f) #[] #[] := fun _ => rfl
        generalize a.eval = ev at *
        go_simp
        all_goals first | done | omega | (intro _; omega) | go_arith
      · refine need_plain rfl (fun a w' hg hin => ?_)
        have e : a.eval (.tmp 64) = .bool true := ins_on hin 1 (by kernel_rfl)
        exact upon_move rfl e
      · refine need_no 2 false true rfl (by decide) (fun a w' hin => ins_on hin 2 (by kernel_rfl)) (fun _ => rfl)
      · refine need_no 2 false true rfl (by decide) (fun a w' hin => ins_on hin 2 (by kernel_rfl)) (fun _ => rfl)
      · refine need_no 2 false true rfl (by decide) (fun a w' hin => ins_on hin 2 (by kernel_rfl)) (fun _ => rfl)
      · refine need_no 2 false true rfl (by decide) (fun a w' hin => ins_on hin 2 (by kernel_rfl)) (fun _ => rfl)
      · refine need_undef 6 true rfl (fun a w' hin => ins_on hin 6 (by kernel_rfl)) (fun _ => rfl)
      · refine need_undef 6 true rfl (fun a w' hin => ins_on hin 6 (by kernel_rfl)) (fun _ => rfl)
      · refine need_undef 6 true rfl (fun a w' hin => ins_on hin 6 (by kernel_rfl)) (fun _ => rfl)
      · refine need_undef 6 true rfl (fun a w' hin => ins_on hin 6 (by kernel_rfl)) (fun _ => rfl)
      · refine need_undef 6 true rfl (fun a w' hin => ins_on hin 6 (by kernel_rfl)) (fun _ => rfl)
      · refine need_undef 6 true rfl (fun a w' hin => ins_on hin 6 (by kernel_rfl)) (fun _ => rfl)
      · refine need_undef 6 true rfl (fun a w' hin => ins_on hin 6 (by kernel_rfl)) (fun _ => rfl)
      · refine need_no 2 false true rfl (by decide) (fun a w' hin => ins_on hin 2 (by kernel_rfl)) (fun _ => rfl)
      · refine need_plain rfl (fun a w' hg hin => ?_)
        have ec : a.eval (.tmp 65) = .bool true := ins_on hin 2 (by kernel_rfl)
        exact upon_pick rfl ec rfl
      · refine need_plain rfl (fun a w' hg hin => ?_)
        have e : a.eval (.tmp 78) = .bool true := ins_on hin 15 (by kernel_rfl)
        exact upon_assign rfl e
    · intro vs w' hg ht
      obtain ⟨q63, q64, q65, q66, q67, q68, q69, q70, q71, q72, q73, q74, q75, q76, q77, q78, q8, -⟩ := ht
      have r63 : vs 0 = .int .i64 ee := q63
      have r64 : vs 1 = .bool true := q64
      have r65 : vs 2 = .bool true := q65
      have r66 : vs 3 = undef := q66
      have r67 : vs 4 = undef := q67
      have r68 : vs 5 = undef := q68
      have r69 : vs 6 = undef := q69
      have r70 : vs 7 = undef := q70
      have r71 : vs 8 = undef := q71
      have r72 : vs 9 = undef := q72
      have r73 : vs 10 = undef := q73
      have r74 : vs 11 = undef := q74
      have r75 : vs 12 = undef := q75
      have r76 : vs 13 = undef := q76
      have r77 : vs 14 = undef := q77
      have r78 : vs 15 = .bool true := q78
      have r8 : vs 16 = .bool true := q8
      clear q63 q64 q65 q66 q67 q68 q69 q70 q71 q72 q73 q74 q75 q76 q77 q78 q8
      simp only [putAll, Act.put, List.setIfInBounds_toArray, List.set_cons_zero, List.set_cons_succ, r63, r64, r65, r66, r67, r68, r69, r70, r71, r72, r73, r74, r75, r76, r77, r78, r8]
      clear r63 r64 r65 r66 r67 r68 r69 r70 r71 r72 r73 r74 r75 r76 r77 r78 r8
      go_wp2
      go_ret
      exact ⟨rfl, gW.trans hg⟩

theorem blockturns_any (k y n at_ other : Int) (l lb : List UInt8) (v u : Value) (w : World) (hv : Bytes w v l) (hu : Bytes w u lb) :
    Calls Try.prog 6 #[.agg #[.int .i64 k, .int .i64 y, .int .i64 n, v], u, .int .i64 at_, .int .i64 other] w fun e w' => e = .returned (.bool true) ∧ Grow w w' := by
  obtain ⟨ao, cp, rfl, -, -⟩ := bytes_src hv
  obtain ⟨aob, cpb, rfl, -, -⟩ := bytes_src hu
  by_cases h : at_ < 0 ∨ 255 < at_
  · exact blockturns_out k y n at_ other l lb ao aob cp cpb w hv h
  · by_cases hw : wrong ⟨k, y, n, l⟩ = 0
    · by_cases ho : other = at_
      · exact blockturns_same k y n at_ l lb ao aob cp cpb w hv hu (by omega) (by omega) hw other ho
      · exact blockturns_other k y n at_ l lb ao aob cp cpb w hv hu (by omega) (by omega) hw other ho
    · exact blockturns_wrong k y n at_ other l lb ao aob cp cpb w hv hu (by omega) (by omega) hw
end Go.Proofs.Ytnngkckiehhdfaa
