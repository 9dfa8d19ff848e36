/-
  sclaw2.BlockTells answers true for every two records, bytes and place.
  Condition: the records' data and the bytes lie in memory, and the data are fewer than 2^47 bytes.
-/
import Derived.Test.YtnngkckiehhdfaaBlk
import Derived.Test.YtnngkckiehhdfaaRRead
namespace Go.Proofs.Ytnngkckiehhdfaa
open Go.RowKit
open Go.Proofs.Ytnngkckiehhdfaa.Plain Go.Proofs.Ytnngkckiehhdfaa.Reg

set_option maxHeartbeats 2000000 in
theorem blocktells_wrong (k y n k' y' n' at_ ew : Int) (l l' lb : List UInt8) (ao ao' aob : Option Addr) (cp cp' cpb : Nat) (w : World) (hv : Bytes w (.slice ao l.length cp) l) (hq : Bytes w (.slice ao' l'.length cp') l') (hb : Bytes w (.slice aob lb.length cpb) lb)
    (hm : l.length ≤ 140737488355328) (HW : Hid (wrong ⟨k, y, n, l⟩ = ew)) (d0 : (ew == 0) = false) :
    Calls Try.prog 5 #[.agg #[.int .i64 k, .int .i64 y, .int .i64 n, .slice ao l.length cp], .agg #[.int .i64 k', .int .i64 y', .int .i64 n', .slice ao' l'.length cp'], .slice aob lb.length cpb, .int .i64 at_] w fun e w' => e = .returned (.bool true) ∧ Grow w w' := by
  go_enter Try.func5, Try.ntmps5
  go_wp2_with fail
  have hbr : ((w.alloc (.cells #[.int .i64 k, .int .i64 y, .int .i64 n, .slice ao l.length cp] 32)).alloc (.cells #[.int .i64 k', .int .i64 y', .int .i64 n', .slice ao' l'.length cp'] 32)).heap[w.heap.size]? = some (.cells #[.int .i64 k, .int .i64 y, .int .i64 n, .slice ao l.length cp] 32 (0, 0)) :=
    ((grow_alloc (w.alloc (.cells #[.int .i64 k, .int .i64 y, .int .i64 n, .slice ao l.length cp] 32)) _).block _ (by simp)).trans (heap_new _ _ _)
  have hbq : ((w.alloc (.cells #[.int .i64 k, .int .i64 y, .int .i64 n, .slice ao l.length cp] 32)).alloc (.cells #[.int .i64 k', .int .i64 y', .int .i64 n', .slice ao' l'.length cp'] 32)).heap[w.heap.size + 1]? = some (.cells #[.int .i64 k', .int .i64 y', .int .i64 n', .slice ao' l'.length cp'] 32 (0, 0)) := by
    have h := heap_new (w.alloc (.cells #[.int .i64 k, .int .i64 y, .int .i64 n, .slice ao l.length cp] 32)) #[.int .i64 k', .int .i64 y', .int .i64 n', .slice ao' l'.length cp'] 32
    rw [World.size_alloc] at h
    exact h
  have gW := grow_alloc2 w (.cells #[.int .i64 k, .int .i64 y, .int .i64 n, .slice ao l.length cp] 32) (.cells #[.int .i64 k', .int .i64 y', .int .i64 n', .slice ao' l'.length cp'] 32)
  generalize World.alloc (World.alloc w _) _ = W at hbr hbq gW ⊢
  have hvW := bytes_grow hv gW
  have hqW := bytes_grow hq gW
  have y0 := box_cell hbr 0 _ rfl
  have y1 := box_cell hbr 1 _ rfl
  have y2 := box_cell hbr 2 _ rfl
  have y3 := box_cell hbr 3 _ rfl
  have q0 := box_cell hbq 0 _ rfl
  have q1 := box_cell hbq 1 _ rfl
  have q2 := box_cell hbq 2 _ rfl
  have q3 := box_cell hbq 3 _ rfl
  refine wp_region_told [ex (.agg #[.int .i64 k, .int .i64 y, .int .i64 n, .slice ao l.length cp]), ex (.agg #[.int .i64 k', .int .i64 y', .int .i64 n', .slice ao' l'.length cp']), ex (.bool (sameB ⟨k, y, n, l⟩ ⟨k', y', n', l'⟩)), ex (.agg #[.int .i64 k, .int .i64 y, .int .i64 n, .slice ao l.length cp]), ex (.agg #[.int .i64 k', .int .i64 y', .int .i64 n', .slice ao' l'.length cp']), ex (.bool (sameB ⟨k, y, n, l⟩ ⟨k', y', n', l'⟩)), ex (.bool false), ex (.bool false), ex (.agg #[.int .i64 k, .int .i64 y, .int .i64 n, .slice ao l.length cp]), ex (.int .i64 (wrong ⟨k, y, n, l⟩)), ex (.agg #[.int .i64 k, .int .i64 y, .int .i64 n, .slice ao l.length cp]), ex (.int .i64 (wrong ⟨k, y, n, l⟩)), ex (.bool false), ex (.bool false), ex (.bool false), ex (.agg #[.int .i64 k, .int .i64 y, .int .i64 n, .slice ao l.length cp]), (RecP 0 ⟨k, y, n, l⟩), ex (.agg #[.int .i64 k, .int .i64 y, .int .i64 n, .slice ao l.length cp]), ex (.bool true), ex (.bool false), ex (.bool false)] (by kernel_rfl) (by kernel_rfl) ⟨st_ex _, st_ex _, st_ex _, st_ex _, st_ex _, st_ex _, st_ex _, st_ex _, st_ex _, st_ex _, st_ex _, st_ex _, st_ex _, st_ex _, st_ex _, st_ex _, st_rec _ _, st_ex _, st_ex _, st_ex _, st_ex _, trivial⟩ ?_ ?_
  · refine ⟨?_, ?_, ?_, ?_, ?_, ?_, ?_, ?_, ?_, ?_, ?_, ?_, ?_, ?_, ?_, ?_, ?_, ?_, ?_, ?_, ?_, trivial⟩
    · refine need_plain rfl (fun a w' hg hin => ?_)
      have e4 : a.eval (.tmp 4) = .pointer (some ⟨w.heap.size, 0, none⟩) := ins_ext hin 4 (by kernel_rfl)
      have z0 := (Below.cell hg (cell_lt y0)).trans y0
      have z1 := (Below.cell hg (cell_lt y1)).trans y1
      have z2 := (Below.cell hg (cell_lt y2)).trans y2
      have z3 := (Below.cell hg (cell_lt y3)).trans y3
      refine upon_val ?_ rfl
      clear hin hg
      have ek : ∀ x, a.eval (.const x) = x := fun _ => rfl
      have ef : ∀ f, a.eval (.func f) = .func (.func f) #[] #[] := fun _ => rfl
      generalize a.eval = ev at *
      go_simp
      all_goals first | done | omega | (intro _; omega) | go_arith
    · refine need_plain rfl (fun a w' hg hin => ?_)
      have e5 : a.eval (.tmp 5) = .pointer (some ⟨w.heap.size + 1, 0, none⟩) := ins_ext hin 5 (by kernel_rfl)
      have z0 := (Below.cell hg (cell_lt q0)).trans q0
      have z1 := (Below.cell hg (cell_lt q1)).trans q1
      have z2 := (Below.cell hg (cell_lt q2)).trans q2
      have z3 := (Below.cell hg (cell_lt q3)).trans q3
      refine upon_val ?_ rfl
      clear hin hg
      have ek : ∀ x, a.eval (.const x) = x := fun _ => rfl
      have ef : ∀ f, a.eval (.func f) = .func (.func f) #[] #[] := fun _ => rfl
      generalize a.eval = ev at *
      go_simp
      all_goals first | done | omega | (intro _; omega) | go_arith
    · refine need_plain rfl (fun a w' hg hin => ?_)
      have e13 : a.eval (.tmp 13) = .agg #[.int .i64 k, .int .i64 y, .int .i64 n, .slice ao l.length cp] := ins_on hin 0 (by kernel_rfl)
      have e14 : a.eval (.tmp 14) = .agg #[.int .i64 k', .int .i64 y', .int .i64 n', .slice ao' l'.length cp'] := ins_on hin 1 (by kernel_rfl)
      refine upon_call (f := 18) (args := #[.agg #[.int .i64 k, .int .i64 y, .int .i64 n, .slice ao l.length cp], .agg #[.int .i64 k', .int .i64 y', .int .i64 n', .slice ao' l'.length cp']]) ?_ ((same_any k y n k' y' n' l l' _ _ w' (bytes_grow hvW hg) (bytes_grow hqW hg)).mono ?_)
      · clear hin hg
        have ek : ∀ x, a.eval (.const x) = x := fun _ => rfl
        have ef : ∀ f, a.eval (.func f) = .func (.func f) #[] #[] := fun _ => rfl
        generalize a.eval = ev at *
        go_simp
        all_goals first | done | omega | (intro _; omega) | go_arith
      · rintro e w2 ⟨rfl, g2⟩
        exact ⟨_, rfl, g2, rfl⟩
    · refine need_plain rfl (fun a w' hg hin => ?_)
      have e4 : a.eval (.tmp 4) = .pointer (some ⟨w.heap.size, 0, none⟩) := ins_ext hin 4 (by kernel_rfl)
      have z0 := (Below.cell hg (cell_lt y0)).trans y0
      have z1 := (Below.cell hg (cell_lt y1)).trans y1
      have z2 := (Below.cell hg (cell_lt y2)).trans y2
      have z3 := (Below.cell hg (cell_lt y3)).trans y3
      refine upon_val ?_ rfl
      clear hin hg
      have ek : ∀ x, a.eval (.const x) = x := fun _ => rfl
      have ef : ∀ f, a.eval (.func f) = .func (.func f) #[] #[] := fun _ => rfl
      generalize a.eval = ev at *
      go_simp
      all_goals first | done | omega | (intro _; omega) | go_arith
    · refine need_plain rfl (fun a w' hg hin => ?_)
      have e5 : a.eval (.tmp 5) = .pointer (some ⟨w.heap.size + 1, 0, none⟩) := ins_ext hin 5 (by kernel_rfl)
      have z0 := (Below.cell hg (cell_lt q0)).trans q0
      have z1 := (Below.cell hg (cell_lt q1)).trans q1
      have z2 := (Below.cell hg (cell_lt q2)).trans q2
      have z3 := (Below.cell hg (cell_lt q3)).trans q3
      refine upon_val ?_ rfl
      clear hin hg
      have ek : ∀ x, a.eval (.const x) = x := fun _ => rfl
      have ef : ∀ f, a.eval (.func f) = .func (.func f) #[] #[] := fun _ => rfl
      generalize a.eval = ev at *
      go_simp
      all_goals first | done | omega | (intro _; omega) | go_arith
    · refine need_plain rfl (fun a w' hg hin => ?_)
      have e16 : a.eval (.tmp 16) = .agg #[.int .i64 k, .int .i64 y, .int .i64 n, .slice ao l.length cp] := ins_on hin 3 (by kernel_rfl)
      have e17 : a.eval (.tmp 17) = .agg #[.int .i64 k', .int .i64 y', .int .i64 n', .slice ao' l'.length cp'] := ins_on hin 4 (by kernel_rfl)
      refine upon_call (f := 19) (args := #[.agg #[.int .i64 k, .int .i64 y, .int .i64 n, .slice ao l.length cp], .agg #[.int .i64 k', .int .i64 y', .int .i64 n', .slice ao' l'.length cp']]) ?_ ((rsame_any k y n k' y' n' l l' _ _ w' (bytes_grow hvW hg) (bytes_grow hqW hg)).mono ?_)
      · clear hin hg
        have ek : ∀ x, a.eval (.const x) = x := fun _ => rfl
        have ef : ∀ f, a.eval (.func f) = .func (.func f) #[] #[] := fun _ => rfl
        generalize a.eval = ev at *
        go_simp
        all_goals first | done | omega | (intro _; omega) | go_arith
      · rintro e w2 ⟨rfl, g2⟩
        exact ⟨_, rfl, g2, rfl⟩
    · refine need_plain rfl (fun a w' hg hin => ?_)
      have e15 : a.eval (.tmp 15) = .bool (sameB ⟨k, y, n, l⟩ ⟨k', y', n', l'⟩) := ins_on hin 2 (by kernel_rfl)
      have e18 : a.eval (.tmp 18) = .bool (sameB ⟨k, y, n, l⟩ ⟨k', y', n', l'⟩) := ins_on hin 5 (by kernel_rfl)
      refine upon_val ?_ rfl
      clear hin hg
      generalize sameB _ _ = sb at *
      have ek : ∀ x, a.eval (.const x) = x := fun _ => rfl
      have ef : ∀ f, a.eval (.func f) = .func (.func f) #[] #[] := fun _ => rfl
      generalize a.eval = ev at *
      go_simp
      all_goals first | done | omega | (intro _; omega) | go_arith
    · refine need_plain rfl (fun a w' hg hin => ?_)
      have e : a.eval (.tmp 19) = .bool false := ins_on hin 6 (by kernel_rfl)
      exact upon_move rfl e
    · refine need_yes 7 false rfl (fun a w' hin => ins_on hin 7 (by kernel_rfl)) (fun a w' hg hin => ?_)
      have e4 : a.eval (.tmp 4) = .pointer (some ⟨w.heap.size, 0, none⟩) := ins_ext hin 4 (by kernel_rfl)
      have z0 := (Below.cell hg (cell_lt y0)).trans y0
      have z1 := (Below.cell hg (cell_lt y1)).trans y1
      have z2 := (Below.cell hg (cell_lt y2)).trans y2
      have z3 := (Below.cell hg (cell_lt y3)).trans y3
      refine upon_val ?_ rfl
      clear hin hg
      have ek : ∀ x, a.eval (.const x) = x := fun _ => rfl
      have ef : ∀ f, a.eval (.func f) = .func (.func f) #[] #[] := fun _ => rfl
      generalize a.eval = ev at *
      go_simp
      all_goals first | done | omega | (intro _; omega) | go_arith
    · refine need_yes 7 false rfl (fun a w' hin => ins_on hin 7 (by kernel_rfl)) (fun a w' hg hin => ?_)
      have e21 : a.eval (.tmp 21) = .agg #[.int .i64 k, .int .i64 y, .int .i64 n, .slice ao l.length cp] := ins_on hin 8 (by kernel_rfl)
      refine upon_call (f := 20) (args := #[.agg #[.int .i64 k, .int .i64 y, .int .i64 n, .slice ao l.length cp]]) ?_ ((wrong_any k y n l _ w' (bytes_grow hvW hg)).mono ?_)
      · clear hin hg
        have ek : ∀ x, a.eval (.const x) = x := fun _ => rfl
        have ef : ∀ f, a.eval (.func f) = .func (.func f) #[] #[] := fun _ => rfl
        generalize a.eval = ev at *
        go_simp
        all_goals first | done | omega | (intro _; omega) | go_arith
      · rintro e w2 ⟨rfl, g2⟩
        exact ⟨_, rfl, g2, rfl⟩
    · refine need_yes 7 false rfl (fun a w' hin => ins_on hin 7 (by kernel_rfl)) (fun a w' hg hin => ?_)
      have e4 : a.eval (.tmp 4) = .pointer (some ⟨w.heap.size, 0, none⟩) := ins_ext hin 4 (by kernel_rfl)
      have z0 := (Below.cell hg (cell_lt y0)).trans y0
      have z1 := (Below.cell hg (cell_lt y1)).trans y1
      have z2 := (Below.cell hg (cell_lt y2)).trans y2
      have z3 := (Below.cell hg (cell_lt y3)).trans y3
      refine upon_val ?_ rfl
      clear hin hg
      have ek : ∀ x, a.eval (.const x) = x := fun _ => rfl
      have ef : ∀ f, a.eval (.func f) = .func (.func f) #[] #[] := fun _ => rfl
      generalize a.eval = ev at *
      go_simp
      all_goals first | done | omega | (intro _; omega) | go_arith
    · refine need_yes 7 false rfl (fun a w' hin => ins_on hin 7 (by kernel_rfl)) (fun a w' hg hin => ?_)
      have e23 : a.eval (.tmp 23) = .agg #[.int .i64 k, .int .i64 y, .int .i64 n, .slice ao l.length cp] := ins_on hin 10 (by kernel_rfl)
      refine upon_call (f := 21) (args := #[.agg #[.int .i64 k, .int .i64 y, .int .i64 n, .slice ao l.length cp]]) ?_ ((rwrong_any k y n l _ w' (bytes_grow hvW hg)).mono ?_)
      · clear hin hg
        have ek : ∀ x, a.eval (.const x) = x := fun _ => rfl
        have ef : ∀ f, a.eval (.func f) = .func (.func f) #[] #[] := fun _ => rfl
        generalize a.eval = ev at *
        go_simp
        all_goals first | done | omega | (intro _; omega) | go_arith
      · rintro e w2 ⟨rfl, g2⟩
        exact ⟨_, rfl, g2, rfl⟩
    · refine need_yes 7 false rfl (fun a w' hin => ins_on hin 7 (by kernel_rfl)) (fun a w' hg hin => ?_)
      have e22 : a.eval (.tmp 22) = .int .i64 (wrong ⟨k, y, n, l⟩) := ins_on hin 9 (by kernel_rfl)
      have e24 : a.eval (.tmp 24) = .int .i64 (wrong ⟨k, y, n, l⟩) := ins_on hin 11 (by kernel_rfl)
      refine upon_val ?_ rfl
      clear hin hg
      generalize wrong _ = wz at *
      have ek : ∀ x, a.eval (.const x) = x := fun _ => rfl
      have ef : ∀ f, a.eval (.func f) = .func (.func f) #[] #[] := fun _ => rfl
      generalize a.eval = ev at *
      go_simp
      all_goals first | done | omega | (intro _; omega) | go_arith
    · refine need_plain rfl (fun a w' hg hin => ?_)
      have ec : a.eval (.tmp 20) = .bool false := ins_on hin 7 (by kernel_rfl)
      have e : a.eval (.tmp 25) = .bool false := ins_on hin 12 (by kernel_rfl)
      exact upon_pick rfl ec e
    · refine need_plain rfl (fun a w' hg hin => ?_)
      have e : a.eval (.tmp 26) = .bool false := ins_on hin 13 (by kernel_rfl)
      exact upon_move rfl e
    · refine need_yes 14 false rfl (fun a w' hin => ins_on hin 14 (by kernel_rfl)) (fun a w' hg hin => ?_)
      have e4 : a.eval (.tmp 4) = .pointer (some ⟨w.heap.size, 0, none⟩) := ins_ext hin 4 (by kernel_rfl)
      have z0 := (Below.cell hg (cell_lt y0)).trans y0
      have z1 := (Below.cell hg (cell_lt y1)).trans y1
      have z2 := (Below.cell hg (cell_lt y2)).trans y2
      have z3 := (Below.cell hg (cell_lt y3)).trans y3
      refine upon_val ?_ rfl
      clear hin hg
      have ek : ∀ x, a.eval (.const x) = x := fun _ => rfl
      have ef : ∀ f, a.eval (.func f) = .func (.func f) #[] #[] := fun _ => rfl
      generalize a.eval = ev at *
      go_simp
      all_goals first | done | omega | (intro _; omega) | go_arith
    · refine need_yes 14 false rfl (fun a w' hin => ins_on hin 14 (by kernel_rfl)) (fun a w' hg hin => ?_)
      have e28 : a.eval (.tmp 28) = .agg #[.int .i64 k, .int .i64 y, .int .i64 n, .slice ao l.length cp] := ins_on hin 15 (by kernel_rfl)
      refine upon_call (f := 22) (args := #[.agg #[.int .i64 k, .int .i64 y, .int .i64 n, .slice ao l.length cp]]) ?_ ((own_any k y n l _ w' hm (bytes_grow hvW hg)).mono ?_)
      · clear hin hg
        have ek : ∀ x, a.eval (.const x) = x := fun _ => rfl
        have ef : ∀ f, a.eval (.func f) = .func (.func f) #[] #[] := fun _ => rfl
        generalize a.eval = ev at *
        go_simp
        all_goals first | done | omega | (intro _; omega) | go_arith
      · rintro e w2 ⟨d2, rfl, ho2, g2⟩
        exact ⟨_, rfl, g2, d2, rfl, own_mono ho2 (by omega)⟩
    · refine need_yes 14 false rfl (fun a w' hin => ins_on hin 14 (by kernel_rfl)) (fun a w' hg hin => ?_)
      have e4 : a.eval (.tmp 4) = .pointer (some ⟨w.heap.size, 0, none⟩) := ins_ext hin 4 (by kernel_rfl)
      have z0 := (Below.cell hg (cell_lt y0)).trans y0
      have z1 := (Below.cell hg (cell_lt y1)).trans y1
      have z2 := (Below.cell hg (cell_lt y2)).trans y2
      have z3 := (Below.cell hg (cell_lt y3)).trans y3
      refine upon_val ?_ rfl
      clear hin hg
      have ek : ∀ x, a.eval (.const x) = x := fun _ => rfl
      have ef : ∀ f, a.eval (.func f) = .func (.func f) #[] #[] := fun _ => rfl
      generalize a.eval = ev at *
      go_simp
      all_goals first | done | omega | (intro _; omega) | go_arith
    · refine need_yes 14 false rfl (fun a w' hin => ins_on hin 14 (by kernel_rfl)) (fun a w' hg hin => ?_)
      have e29 : (RecP 0 ⟨k, y, n, l⟩) (a.eval (.tmp 29)) w' := ins_on hin 16 (by kernel_rfl)
      have e30 : a.eval (.tmp 30) = .agg #[.int .i64 k, .int .i64 y, .int .i64 n, .slice ao l.length cp] := ins_on hin 17 (by kernel_rfl)
      obtain ⟨d2, hd1, hd2⟩ := e29
      refine upon_call (f := 19) (args := #[.agg #[.int .i64 k, .int .i64 y, .int .i64 n, d2], .agg #[.int .i64 k, .int .i64 y, .int .i64 n, .slice ao l.length cp]]) ?_ ((rsame_any k y n k y n l l _ _ w' (bytes_own hd2) (bytes_grow hvW hg)).mono ?_)
      · clear hin hg hd2
        have ek : ∀ x, a.eval (.const x) = x := fun _ => rfl
        have ef : ∀ f, a.eval (.func f) = .func (.func f) #[] #[] := fun _ => rfl
        generalize a.eval = ev at *
        go_simp
        all_goals first | done | omega | (intro _; omega) | go_arith
      · rw [sameB_refl]
        rintro e w2 ⟨rfl, g2⟩
        exact ⟨_, rfl, g2, rfl⟩
    · refine need_yes 14 false rfl (fun a w' hin => ins_on hin 14 (by kernel_rfl)) (fun a w' hg hin => ?_)
      have e31 : a.eval (.tmp 31) = .bool true := ins_on hin 18 (by kernel_rfl)
      refine upon_val ?_ rfl
      clear hin hg
      have ek : ∀ x, a.eval (.const x) = x := fun _ => rfl
      have ef : ∀ f, a.eval (.func f) = .func (.func f) #[] #[] := fun _ => rfl
      generalize a.eval = ev at *
      go_simp
      all_goals first | done | omega | (intro _; omega) | go_arith
    · refine need_plain rfl (fun a w' hg hin => ?_)
      have ec : a.eval (.tmp 27) = .bool false := ins_on hin 14 (by kernel_rfl)
      have e : a.eval (.tmp 32) = .bool false := ins_on hin 19 (by kernel_rfl)
      exact upon_pick rfl ec e
  · intro vs w' hg ht
    obtain ⟨q13, q14, q15, q16, q17, q18, q19, q20, q21, q22, q23, q24, q25, q26, q27, q28, q29, q30, q31, q32, q33, -⟩ := ht
    have r13 : vs 0 = .agg #[.int .i64 k, .int .i64 y, .int .i64 n, .slice ao l.length cp] := q13
    have r14 : vs 1 = .agg #[.int .i64 k', .int .i64 y', .int .i64 n', .slice ao' l'.length cp'] := q14
    have r15 : vs 2 = .bool (sameB ⟨k, y, n, l⟩ ⟨k', y', n', l'⟩) := q15
    have r16 : vs 3 = .agg #[.int .i64 k, .int .i64 y, .int .i64 n, .slice ao l.length cp] := q16
    have r17 : vs 4 = .agg #[.int .i64 k', .int .i64 y', .int .i64 n', .slice ao' l'.length cp'] := q17
    have r18 : vs 5 = .bool (sameB ⟨k, y, n, l⟩ ⟨k', y', n', l'⟩) := q18
    have r19 : vs 6 = .bool false := q19
    have r20 : vs 7 = .bool false := q20
    have r21 : vs 8 = .agg #[.int .i64 k, .int .i64 y, .int .i64 n, .slice ao l.length cp] := q21
    have r22 : vs 9 = .int .i64 (wrong ⟨k, y, n, l⟩) := q22
    have r23 : vs 10 = .agg #[.int .i64 k, .int .i64 y, .int .i64 n, .slice ao l.length cp] := q23
    have r24 : vs 11 = .int .i64 (wrong ⟨k, y, n, l⟩) := q24
    have r25 : vs 12 = .bool false := q25
    have r26 : vs 13 = .bool false := q26
    have r27 : vs 14 = .bool false := q27
    have r28 : vs 15 = .agg #[.int .i64 k, .int .i64 y, .int .i64 n, .slice ao l.length cp] := q28
    have r30 : vs 17 = .agg #[.int .i64 k, .int .i64 y, .int .i64 n, .slice ao l.length cp] := q30
    have r31 : vs 18 = .bool true := q31
    have r32 : vs 19 = .bool false := q32
    have r33 : vs 20 = .bool false := q33
    clear q13 q14 q15 q16 q17 q18 q19 q20 q21 q22 q23 q24 q25 q26 q27 q28 q30 q31 q32 q33
    simp only [putAll, Act.put, List.setIfInBounds_toArray, List.set_cons_zero, List.set_cons_succ, r13, r14, r15, r16, r17, r18, r19, r20, r21, r22, r23, r24, r25, r26, r27, r28, r30, r31, r32, r33]
    clear r13 r14 r15 r16 r17 r18 r19 r20 r21 r22 r23 r24 r25 r26 r27 r28 r30 r31 r32 r33
    have gW2 := gW.trans hg
    have hv2 := bytes_grow hvW hg
    have hbr2 := (hg.block _ (heap_lt hbr)).trans hbr
    clear q29 hg gW hvW hqW hbr hbq y0 y1 y2 y3 q0 q1 q2 q3 hq
    generalize vs _ = u29
    have y0 := box_cell hbr2 0 _ rfl
    have y1 := box_cell hbr2 1 _ rfl
    have y2 := box_cell hbr2 2 _ rfl
    have y3 := box_cell hbr2 3 _ rfl
    go_wp2_with fail
    refine wp_region_told [ex (.agg #[.int .i64 k, .int .i64 y, .int .i64 n, .slice ao l.length cp]), ex (.int .i64 ew), ex (.bool false), ex (.bool false), ex (undef), ex (undef), ex (.bool false), ex (.bool false), ex (undef), ex (undef), ex (.bool false), ex (.bool false), ex (undef), ex (undef), ex (undef), ex (undef), ex (undef), ex (undef), ex (undef), ex (undef), ex (undef), ex (.bool false)] (by kernel_rfl) (by kernel_rfl) ⟨st_ex _, st_ex _, st_ex _, st_ex _, st_ex _, st_ex _, st_ex _, st_ex _, st_ex _, st_ex _, st_ex _, st_ex _, st_ex _, st_ex _, st_ex _, st_ex _, st_ex _, st_ex _, st_ex _, st_ex _, st_ex _, st_ex _, trivial⟩ ?_ ?_
    · refine ⟨?_, ?_, ?_, ?_, ?_, ?_, ?_, ?_, ?_, ?_, ?_, ?_, ?_, ?_, ?_, ?_, ?_, ?_, ?_, ?_, ?_, ?_, trivial⟩
      · refine need_plain rfl (fun a w' hg hin => ?_)
        have e4 : a.eval (.tmp 4) = .pointer (some ⟨w.heap.size, 0, none⟩) := ins_ext hin 4 (by kernel_rfl)
        have z0 := (Below.cell hg (cell_lt y0)).trans y0
        have z1 := (Below.cell hg (cell_lt y1)).trans y1
        have z2 := (Below.cell hg (cell_lt y2)).trans y2
        have z3 := (Below.cell hg (cell_lt y3)).trans y3
        refine upon_val ?_ rfl
        clear hin hg
        have ek : ∀ x, a.eval (.const x) = x := fun _ => rfl
        have ef : ∀ f, a.eval (.func f) = .func (.func f) #[] #[] := fun _ => rfl
        generalize a.eval = ev at *
        go_simp
        all_goals first | done | omega | (intro _; omega) | go_arith
      · refine need_plain rfl (fun a w' hg hin => ?_)
        have e34 : a.eval (.tmp 34) = .agg #[.int .i64 k, .int .i64 y, .int .i64 n, .slice ao l.length cp] := ins_on hin 0 (by kernel_rfl)
        refine upon_call (f := 21) (args := #[.agg #[.int .i64 k, .int .i64 y, .int .i64 n, .slice ao l.length cp]]) ?_ ((rwrong_any k y n l _ w' (bytes_grow hv2 hg)).mono ?_)
        · clear hin hg
          have ek : ∀ x, a.eval (.const x) = x := fun _ => rfl
          have ef : ∀ f, a.eval (.func f) = .func (.func f) #[] #[] := fun _ => rfl
          generalize a.eval = ev at *
          go_simp
          all_goals first | done | omega | (intro _; omega) | go_arith
        · rintro e w2 ⟨rfl, g2⟩
          exact ⟨_, rfl, g2, val_int HW.out⟩
      · refine need_plain rfl (fun a w' hg hin => ?_)
        have e35 : a.eval (.tmp 35) = .int .i64 ew := ins_on hin 1 (by kernel_rfl)
        refine upon_val ?_ rfl
        clear hin hg
        have ek : ∀ x, a.eval (.const x) = x := fun _ => rfl
        have ef : ∀ f, a.eval (.func f) = .func (.func f) #[] #[] := fun _ => rfl
        generalize a.eval = ev at *
        go_simp
        all_goals first | done | omega | (intro _; omega) | go_arith
      · refine need_plain rfl (fun a w' hg hin => ?_)
        have e : a.eval (.tmp 36) = .bool false := ins_on hin 2 (by kernel_rfl)
        exact upon_move rfl e
      · refine need_no 3 true false rfl (by decide) (fun a w' hin => ins_on hin 3 (by kernel_rfl)) (fun _ => rfl)
      · refine need_no 3 true false rfl (by decide) (fun a w' hin => ins_on hin 3 (by kernel_rfl)) (fun _ => rfl)
      · refine need_plain rfl (fun a w' hg hin => ?_)
        have ec : a.eval (.tmp 37) = .bool false := ins_on hin 3 (by kernel_rfl)
        exact upon_pick rfl ec rfl
      · refine need_plain rfl (fun a w' hg hin => ?_)
        have e : a.eval (.tmp 40) = .bool false := ins_on hin 6 (by kernel_rfl)
        exact upon_move rfl e
      · refine need_no 7 true false rfl (by decide) (fun a w' hin => ins_on hin 7 (by kernel_rfl)) (fun _ => rfl)
      · refine need_no 7 true false rfl (by decide) (fun a w' hin => ins_on hin 7 (by kernel_rfl)) (fun _ => rfl)
      · refine need_plain rfl (fun a w' hg hin => ?_)
        have ec : a.eval (.tmp 41) = .bool false := ins_on hin 7 (by kernel_rfl)
        exact upon_pick rfl ec rfl
      · refine need_plain rfl (fun a w' hg hin => ?_)
        have e : a.eval (.tmp 44) = .bool false := ins_on hin 10 (by kernel_rfl)
        exact upon_move rfl e
      · refine need_no 11 true false rfl (by decide) (fun a w' hin => ins_on hin 11 (by kernel_rfl)) (fun _ => rfl)
      · refine need_no 11 true false rfl (by decide) (fun a w' hin => ins_on hin 11 (by kernel_rfl)) (fun _ => rfl)
      · refine need_no 11 true false rfl (by decide) (fun a w' hin => ins_on hin 11 (by kernel_rfl)) (fun _ => rfl)
      · refine need_no 11 true false rfl (by decide) (fun a w' hin => ins_on hin 11 (by kernel_rfl)) (fun _ => rfl)
      · refine need_no 11 true false rfl (by decide) (fun a w' hin => ins_on hin 11 (by kernel_rfl)) (fun _ => rfl)
      · refine need_no 11 true false rfl (by decide) (fun a w' hin => ins_on hin 11 (by kernel_rfl)) (fun _ => rfl)
      · refine need_no 11 true false rfl (by decide) (fun a w' hin => ins_on hin 11 (by kernel_rfl)) (fun _ => rfl)
      · refine need_no 11 true false rfl (by decide) (fun a w' hin => ins_on hin 11 (by kernel_rfl)) (fun _ => rfl)
      · refine need_no 11 true false rfl (by decide) (fun a w' hin => ins_on hin 11 (by kernel_rfl)) (fun _ => rfl)
      · refine need_plain rfl (fun a w' hg hin => ?_)
        have ec : a.eval (.tmp 45) = .bool false := ins_on hin 11 (by kernel_rfl)
        exact upon_pick rfl ec rfl
    · intro vs w' hg ht
      obtain ⟨q34, q35, q36, q37, q38, q39, q40, q41, q42, q43, q44, q45, q46, q47, q48, q49, q50, q51, q52, q53, q54, q55, -⟩ := ht
      have r34 : vs 0 = .agg #[.int .i64 k, .int .i64 y, .int .i64 n, .slice ao l.length cp] := q34
      have r35 : vs 1 = .int .i64 ew := q35
      have r36 : vs 2 = .bool false := q36
      have r37 : vs 3 = .bool false := q37
      have r38 : vs 4 = undef := q38
      have r39 : vs 5 = undef := q39
      have r40 : vs 6 = .bool false := q40
      have r41 : vs 7 = .bool false := q41
      have r42 : vs 8 = undef := q42
      have r43 : vs 9 = undef := q43
      have r44 : vs 10 = .bool false := q44
      have r45 : vs 11 = .bool false := q45
      have r46 : vs 12 = undef := q46
      have r47 : vs 13 = undef := q47
      have r48 : vs 14 = undef := q48
      have r49 : vs 15 = undef := q49
      have r50 : vs 16 = undef := q50
      have r51 : vs 17 = undef := q51
      have r52 : vs 18 = undef := q52
      have r53 : vs 19 = undef := q53
      have r54 : vs 20 = undef := q54
      have r55 : vs 21 = .bool false := q55
      clear q34 q35 q36 q37 q38 q39 q40 q41 q42 q43 q44 q45 q46 q47 q48 q49 q50 q51 q52 q53 q54 q55
      simp only [putAll, Act.put, List.setIfInBounds_toArray, List.set_cons_zero, List.set_cons_succ, r34, r35, r36, r37, r38, r39, r40, r41, r42, r43, r44, r45, r46, r47, r48, r49, r50, r51, r52, r53, r54, r55]
      clear r34 r35 r36 r37 r38 r39 r40 r41 r42 r43 r44 r45 r46 r47 r48 r49 r50 r51 r52 r53 r54 r55
      have gt := gW2.trans hg
      have hb3 := bytes_grow hb gt
      clear hg gW2 hv2 hbr2 y0 y1 y2 y3
      go_wp2_with fail
      refine (read_any lb at_ _ _ hb3).mono ?_
      rintro e w4 ⟨d4, rfl, ho4, g4⟩
      have hb4 := bytes_grow hb3 g4
      have gw4 := gt.trans g4
      have hD4 := bytes_own ho4
      obtain ⟨ao4, cp4, rfl⟩ := own_slice ho4
      clear g4 ho4 hb3 gt
      generalize hrr : readR lb at_ = rr at *
      generalize hee : readE lb at_ = ee at *
      have HRR : Hid (readR lb at_ = rr) := hrr
      have HEE : Hid (readE lb at_ = ee) := hee
      clear hrr hee
      go_wp2_with fail
      refine (rread_any lb at_ _ _ (by exact bytes_grow hb4 (grow_alloc _ _))).mono ?_
      unfold ReadQ
      rw [HRR.out, HEE.out]
      rintro e w5 ⟨d5, rfl, ho5, g5⟩
      have g45 := (grow_alloc _ _).trans g5
      have hD5 := bytes_own ho5
      have hD45 := bytes_grow hD4 g45
      have gw5 := gw4.trans g45
      have hx5 : w5.heap[w4.heap.size]? = some (.cells #[.int .i64 rr.kind, .int .i64 rr.key, .int .i64 rr.ver, .slice ao4 rr.data.length cp4] 32 (0, 0)) := (g5.block _ (by simp)).trans (heap_new _ _ _)
      obtain ⟨ao5, cp5, rfl⟩ := own_slice ho5
      have x0 := box_cell hx5 0 _ rfl
      have x1 := box_cell hx5 1 _ rfl
      have x2 := box_cell hx5 2 _ rfl
      have x3 := box_cell hx5 3 _ rfl
      have hz5 := heap_lt hx5
      clear g5 ho5 hb4 gw4 hD4 g45 hx5
      go_wp2_with fail
      refine (rsame_any _ _ _ _ _ _ rr.data rr.data _ _ _ (by exact bytes_grow hD45 (grow_alloc _ _)) (by exact bytes_grow hD5 (grow_alloc _ _))).mono ?_
      rw [sameB_refl]
      rintro e w6 ⟨rfl, g6⟩
      go_wp2
      go_ret
      exact ⟨rfl, (gw5.trans (grow_alloc _ _)).trans g6⟩

set_option maxHeartbeats 2000000 in
theorem blocktells_low (k y n k' y' n' at_ : Int) (l l' lb : List UInt8) (ao ao' aob : Option Addr) (cp cp' cpb : Nat) (w : World) (hv : Bytes w (.slice ao l.length cp) l) (hq : Bytes w (.slice ao' l'.length cp') l') (hb : Bytes w (.slice aob lb.length cpb) lb)
    (hm : l.length ≤ 140737488355328) (HW : Hid (wrong ⟨k, y, n, l⟩ = 0)) (h0 : at_ < 0) :
    Calls Try.prog 5 #[.agg #[.int .i64 k, .int .i64 y, .int .i64 n, .slice ao l.length cp], .agg #[.int .i64 k', .int .i64 y', .int .i64 n', .slice ao' l'.length cp'], .slice aob lb.length cpb, .int .i64 at_] w fun e w' => e = .returned (.bool true) ∧ Grow w w' := by
  have d0 : decide (0 ≤ at_) = false := by simp; omega
  go_enter Try.func5, Try.ntmps5
  go_wp2_with fail
  have hbr : ((w.alloc (.cells #[.int .i64 k, .int .i64 y, .int .i64 n, .slice ao l.length cp] 32)).alloc (.cells #[.int .i64 k', .int .i64 y', .int .i64 n', .slice ao' l'.length cp'] 32)).heap[w.heap.size]? = some (.cells #[.int .i64 k, .int .i64 y, .int .i64 n, .slice ao l.length cp] 32 (0, 0)) :=
    ((grow_alloc (w.alloc (.cells #[.int .i64 k, .int .i64 y, .int .i64 n, .slice ao l.length cp] 32)) _).block _ (by simp)).trans (heap_new _ _ _)
  have hbq : ((w.alloc (.cells #[.int .i64 k, .int .i64 y, .int .i64 n, .slice ao l.length cp] 32)).alloc (.cells #[.int .i64 k', .int .i64 y', .int .i64 n', .slice ao' l'.length cp'] 32)).heap[w.heap.size + 1]? = some (.cells #[.int .i64 k', .int .i64 y', .int .i64 n', .slice ao' l'.length cp'] 32 (0, 0)) := by
    have h := heap_new (w.alloc (.cells #[.int .i64 k, .int .i64 y, .int .i64 n, .slice ao l.length cp] 32)) #[.int .i64 k', .int .i64 y', .int .i64 n', .slice ao' l'.length cp'] 32
    rw [World.size_alloc] at h
    exact h
  have gW := grow_alloc2 w (.cells #[.int .i64 k, .int .i64 y, .int .i64 n, .slice ao l.length cp] 32) (.cells #[.int .i64 k', .int .i64 y', .int .i64 n', .slice ao' l'.length cp'] 32)
  generalize World.alloc (World.alloc w _) _ = W at hbr hbq gW ⊢
  have hvW := bytes_grow hv gW
  have hqW := bytes_grow hq gW
  have y0 := box_cell hbr 0 _ rfl
  have y1 := box_cell hbr 1 _ rfl
  have y2 := box_cell hbr 2 _ rfl
  have y3 := box_cell hbr 3 _ rfl
  have q0 := box_cell hbq 0 _ rfl
  have q1 := box_cell hbq 1 _ rfl
  have q2 := box_cell hbq 2 _ rfl
  have q3 := box_cell hbq 3 _ rfl
  refine wp_region_told [ex (.agg #[.int .i64 k, .int .i64 y, .int .i64 n, .slice ao l.length cp]), ex (.agg #[.int .i64 k', .int .i64 y', .int .i64 n', .slice ao' l'.length cp']), ex (.bool (sameB ⟨k, y, n, l⟩ ⟨k', y', n', l'⟩)), ex (.agg #[.int .i64 k, .int .i64 y, .int .i64 n, .slice ao l.length cp]), ex (.agg #[.int .i64 k', .int .i64 y', .int .i64 n', .slice ao' l'.length cp']), ex (.bool (sameB ⟨k, y, n, l⟩ ⟨k', y', n', l'⟩)), ex (.bool false), ex (.bool false), ex (.agg #[.int .i64 k, .int .i64 y, .int .i64 n, .slice ao l.length cp]), ex (.int .i64 (wrong ⟨k, y, n, l⟩)), ex (.agg #[.int .i64 k, .int .i64 y, .int .i64 n, .slice ao l.length cp]), ex (.int .i64 (wrong ⟨k, y, n, l⟩)), ex (.bool false), ex (.bool false), ex (.bool false), ex (.agg #[.int .i64 k, .int .i64 y, .int .i64 n, .slice ao l.length cp]), (RecP 0 ⟨k, y, n, l⟩), ex (.agg #[.int .i64 k, .int .i64 y, .int .i64 n, .slice ao l.length cp]), ex (.bool true), ex (.bool false), ex (.bool false)] (by kernel_rfl) (by kernel_rfl) ⟨st_ex _, st_ex _, st_ex _, st_ex _, st_ex _, st_ex _, st_ex _, st_ex _, st_ex _, st_ex _, st_ex _, st_ex _, st_ex _, st_ex _, st_ex _, st_ex _, st_rec _ _, st_ex _, st_ex _, st_ex _, st_ex _, trivial⟩ ?_ ?_
  · refine ⟨?_, ?_, ?_, ?_, ?_, ?_, ?_, ?_, ?_, ?_, ?_, ?_, ?_, ?_, ?_, ?_, ?_, ?_, ?_, ?_, ?_, trivial⟩
    · refine need_plain rfl (fun a w' hg hin => ?_)
      have e4 : a.eval (.tmp 4) = .pointer (some ⟨w.heap.size, 0, none⟩) := ins_ext hin 4 (by kernel_rfl)
      have z0 := (Below.cell hg (cell_lt y0)).trans y0
      have z1 := (Below.cell hg (cell_lt y1)).trans y1
      have z2 := (Below.cell hg (cell_lt y2)).trans y2
      have z3 := (Below.cell hg (cell_lt y3)).trans y3
      refine upon_val ?_ rfl
      clear hin hg
      have ek : ∀ x, a.eval (.const x) = x := fun _ => rfl
      have ef : ∀ f, a.eval (.func f) = .func (.func f) #[] #[] := fun _ => rfl
      generalize a.eval = ev at *
      go_simp
      all_goals first | done | omega | (intro _; omega) | go_arith
    · refine need_plain rfl (fun a w' hg hin => ?_)
      have e5 : a.eval (.tmp 5) = .pointer (some ⟨w.heap.size + 1, 0, none⟩) := ins_ext hin 5 (by kernel_rfl)
      have z0 := (Below.cell hg (cell_lt q0)).trans q0
      have z1 := (Below.cell hg (cell_lt q1)).trans q1
      have z2 := (Below.cell hg (cell_lt q2)).trans q2
      have z3 := (Below.cell hg (cell_lt q3)).trans q3
      refine upon_val ?_ rfl
      clear hin hg
      have ek : ∀ x, a.eval (.const x) = x := fun _ => rfl
      have ef : ∀ f, a.eval (.func f) = .func (.func f) #[] #[] := fun _ => rfl
      generalize a.eval = ev at *
      go_simp
      all_goals first | done | omega | (intro _; omega) | go_arith
    · refine need_plain rfl (fun a w' hg hin => ?_)
      have e13 : a.eval (.tmp 13) = .agg #[.int .i64 k, .int .i64 y, .int .i64 n, .slice ao l.length cp] := ins_on hin 0 (by kernel_rfl)
      have e14 : a.eval (.tmp 14) = .agg #[.int .i64 k', .int .i64 y', .int .i64 n', .slice ao' l'.length cp'] := ins_on hin 1 (by kernel_rfl)
      refine upon_call (f := 18) (args := #[.agg #[.int .i64 k, .int .i64 y, .int .i64 n, .slice ao l.length cp], .agg #[.int .i64 k', .int .i64 y', .int .i64 n', .slice ao' l'.length cp']]) ?_ ((same_any k y n k' y' n' l l' _ _ w' (bytes_grow hvW hg) (bytes_grow hqW hg)).mono ?_)
      · clear hin hg
        have ek : ∀ x, a.eval (.const x) = x := fun _ => rfl
        have ef : ∀ f, a.eval (.func f) = .func (.func f) #[] #[] := fun _ => rfl
        generalize a.eval = ev at *
        go_simp
        all_goals first | done | omega | (intro _; omega) | go_arith
      · rintro e w2 ⟨rfl, g2⟩
        exact ⟨_, rfl, g2, rfl⟩
    · refine need_plain rfl (fun a w' hg hin => ?_)
      have e4 : a.eval (.tmp 4) = .pointer (some ⟨w.heap.size, 0, none⟩) := ins_ext hin 4 (by kernel_rfl)
      have z0 := (Below.cell hg (cell_lt y0)).trans y0
      have z1 := (Below.cell hg (cell_lt y1)).trans y1
      have z2 := (Below.cell hg (cell_lt y2)).trans y2
      have z3 := (Below.cell hg (cell_lt y3)).trans y3
      refine upon_val ?_ rfl
      clear hin hg
      have ek : ∀ x, a.eval (.const x) = x := fun _ => rfl
      have ef : ∀ f, a.eval (.func f) = .func (.func f) #[] #[] := fun _ => rfl
      generalize a.eval = ev at *
      go_simp
      all_goals first | done | omega | (intro _; omega) | go_arith
    · refine need_plain rfl (fun a w' hg hin => ?_)
      have e5 : a.eval (.tmp 5) = .pointer (some ⟨w.heap.size + 1, 0, none⟩) := ins_ext hin 5 (by kernel_rfl)
      have z0 := (Below.cell hg (cell_lt q0)).trans q0
      have z1 := (Below.cell hg (cell_lt q1)).trans q1
      have z2 := (Below.cell hg (cell_lt q2)).trans q2
      have z3 := (Below.cell hg (cell_lt q3)).trans q3
      refine upon_val ?_ rfl
      clear hin hg
      have ek : ∀ x, a.eval (.const x) = x := fun _ => rfl
      have ef : ∀ f, a.eval (.func f) = .func (.func f) #[] #[] := fun _ => rfl
      generalize a.eval = ev at *
      go_simp
      all_goals first | done | omega | (intro _; omega) | go_arith
    · refine need_plain rfl (fun a w' hg hin => ?_)
      have e16 : a.eval (.tmp 16) = .agg #[.int .i64 k, .int .i64 y, .int .i64 n, .slice ao l.length cp] := ins_on hin 3 (by kernel_rfl)
      have e17 : a.eval (.tmp 17) = .agg #[.int .i64 k', .int .i64 y', .int .i64 n', .slice ao' l'.length cp'] := ins_on hin 4 (by kernel_rfl)
      refine upon_call (f := 19) (args := #[.agg #[.int .i64 k, .int .i64 y, .int .i64 n, .slice ao l.length cp], .agg #[.int .i64 k', .int .i64 y', .int .i64 n', .slice ao' l'.length cp']]) ?_ ((rsame_any k y n k' y' n' l l' _ _ w' (bytes_grow hvW hg) (bytes_grow hqW hg)).mono ?_)
      · clear hin hg
        have ek : ∀ x, a.eval (.const x) = x := fun _ => rfl
        have ef : ∀ f, a.eval (.func f) = .func (.func f) #[] #[] := fun _ => rfl
        generalize a.eval = ev at *
        go_simp
        all_goals first | done | omega | (intro _; omega) | go_arith
      · rintro e w2 ⟨rfl, g2⟩
        exact ⟨_, rfl, g2, rfl⟩
    · refine need_plain rfl (fun a w' hg hin => ?_)
      have e15 : a.eval (.tmp 15) = .bool (sameB ⟨k, y, n, l⟩ ⟨k', y', n', l'⟩) := ins_on hin 2 (by kernel_rfl)
      have e18 : a.eval (.tmp 18) = .bool (sameB ⟨k, y, n, l⟩ ⟨k', y', n', l'⟩) := ins_on hin 5 (by kernel_rfl)
      refine upon_val ?_ rfl
      clear hin hg
      generalize sameB _ _ = sb at *
      have ek : ∀ x, a.eval (.const x) = x := fun _ => rfl
      have ef : ∀ f, a.eval (.func f) = .func (.func f) #[] #[] := fun _ => rfl
      generalize a.eval = ev at *
      go_simp
      all_goals first | done | omega | (intro _; omega) | go_arith
    · refine need_plain rfl (fun a w' hg hin => ?_)
      have e : a.eval (.tmp 19) = .bool false := ins_on hin 6 (by kernel_rfl)
      exact upon_move rfl e
    · refine need_yes 7 false rfl (fun a w' hin => ins_on hin 7 (by kernel_rfl)) (fun a w' hg hin => ?_)
      have e4 : a.eval (.tmp 4) = .pointer (some ⟨w.heap.size, 0, none⟩) := ins_ext hin 4 (by kernel_rfl)
      have z0 := (Below.cell hg (cell_lt y0)).trans y0
      have z1 := (Below.cell hg (cell_lt y1)).trans y1
      have z2 := (Below.cell hg (cell_lt y2)).trans y2
      have z3 := (Below.cell hg (cell_lt y3)).trans y3
      refine upon_val ?_ rfl
      clear hin hg
      have ek : ∀ x, a.eval (.const x) = x := fun _ => rfl
      have ef : ∀ f, a.eval (.func f) = .func (.func f) #[] #[] := fun _ => rfl
      generalize a.eval = ev at *
      go_simp
      all_goals first | done | omega | (intro _; omega) | go_arith
    · refine need_yes 7 false rfl (fun a w' hin => ins_on hin 7 (by kernel_rfl)) (fun a w' hg hin => ?_)
      have e21 : a.eval (.tmp 21) = .agg #[.int .i64 k, .int .i64 y, .int .i64 n, .slice ao l.length cp] := ins_on hin 8 (by kernel_rfl)
      refine upon_call (f := 20) (args := #[.agg #[.int .i64 k, .int .i64 y, .int .i64 n, .slice ao l.length cp]]) ?_ ((wrong_any k y n l _ w' (bytes_grow hvW hg)).mono ?_)
      · clear hin hg
        have ek : ∀ x, a.eval (.const x) = x := fun _ => rfl
        have ef : ∀ f, a.eval (.func f) = .func (.func f) #[] #[] := fun _ => rfl
        generalize a.eval = ev at *
        go_simp
        all_goals first | done | omega | (intro _; omega) | go_arith
      · rintro e w2 ⟨rfl, g2⟩
        exact ⟨_, rfl, g2, rfl⟩
    · refine need_yes 7 false rfl (fun a w' hin => ins_on hin 7 (by kernel_rfl)) (fun a w' hg hin => ?_)
      have e4 : a.eval (.tmp 4) = .pointer (some ⟨w.heap.size, 0, none⟩) := ins_ext hin 4 (by kernel_rfl)
      have z0 := (Below.cell hg (cell_lt y0)).trans y0
      have z1 := (Below.cell hg (cell_lt y1)).trans y1
      have z2 := (Below.cell hg (cell_lt y2)).trans y2
      have z3 := (Below.cell hg (cell_lt y3)).trans y3
      refine upon_val ?_ rfl
      clear hin hg
      have ek : ∀ x, a.eval (.const x) = x := fun _ => rfl
      have ef : ∀ f, a.eval (.func f) = .func (.func f) #[] #[] := fun _ => rfl
      generalize a.eval = ev at *
      go_simp
      all_goals first | done | omega | (intro _; omega) | go_arith
    · refine need_yes 7 false rfl (fun a w' hin => ins_on hin 7 (by kernel_rfl)) (fun a w' hg hin => ?_)
      have e23 : a.eval (.tmp 23) = .agg #[.int .i64 k, .int .i64 y, .int .i64 n, .slice ao l.length cp] := ins_on hin 10 (by kernel_rfl)
      refine upon_call (f := 21) (args := #[.agg #[.int .i64 k, .int .i64 y, .int .i64 n, .slice ao l.length cp]]) ?_ ((rwrong_any k y n l _ w' (bytes_grow hvW hg)).mono ?_)
      · clear hin hg
        have ek : ∀ x, a.eval (.const x) = x := fun _ => rfl
        have ef : ∀ f, a.eval (.func f) = .func (.func f) #[] #[] := fun _ => rfl
        generalize a.eval = ev at *
        go_simp
        all_goals first | done | omega | (intro _; omega) | go_arith
      · rintro e w2 ⟨rfl, g2⟩
        exact ⟨_, rfl, g2, rfl⟩
    · refine need_yes 7 false rfl (fun a w' hin => ins_on hin 7 (by kernel_rfl)) (fun a w' hg hin => ?_)
      have e22 : a.eval (.tmp 22) = .int .i64 (wrong ⟨k, y, n, l⟩) := ins_on hin 9 (by kernel_rfl)
      have e24 : a.eval (.tmp 24) = .int .i64 (wrong ⟨k, y, n, l⟩) := ins_on hin 11 (by kernel_rfl)
      refine upon_val ?_ rfl
      clear hin hg
      generalize wrong _ = wz at *
      have ek : ∀ x, a.eval (.const x) = x := fun _ => rfl
      have ef : ∀ f, a.eval (.func f) = .func (.func f) #[] #[] := fun _ => rfl
      generalize a.eval = ev at *
      go_simp
      all_goals first | done | omega | (intro _; omega) | go_arith
    · refine need_plain rfl (fun a w' hg hin => ?_)
      have ec : a.eval (.tmp 20) = .bool false := ins_on hin 7 (by kernel_rfl)
      have e : a.eval (.tmp 25) = .bool false := ins_on hin 12 (by kernel_rfl)
      exact upon_pick rfl ec e
    · refine need_plain rfl (fun a w' hg hin => ?_)
      have e : a.eval (.tmp 26) = .bool false := ins_on hin 13 (by kernel_rfl)
      exact upon_move rfl e
    · refine need_yes 14 false rfl (fun a w' hin => ins_on hin 14 (by kernel_rfl)) (fun a w' hg hin => ?_)
      have e4 : a.eval (.tmp 4) = .pointer (some ⟨w.heap.size, 0, none⟩) := ins_ext hin 4 (by kernel_rfl)
      have z0 := (Below.cell hg (cell_lt y0)).trans y0
      have z1 := (Below.cell hg (cell_lt y1)).trans y1
      have z2 := (Below.cell hg (cell_lt y2)).trans y2
      have z3 := (Below.cell hg (cell_lt y3)).trans y3
      refine upon_val ?_ rfl
      clear hin hg
      have ek : ∀ x, a.eval (.const x) = x := fun _ => rfl
      have ef : ∀ f, a.eval (.func f) = .func (.func f) #[] #[] := fun _ => rfl
      generalize a.eval = ev at *
      go_simp
      all_goals first | done | omega | (intro _; omega) | go_arith
    · refine need_yes 14 false rfl (fun a w' hin => ins_on hin 14 (by kernel_rfl)) (fun a w' hg hin => ?_)
      have e28 : a.eval (.tmp 28) = .agg #[.int .i64 k, .int .i64 y, .int .i64 n, .slice ao l.length cp] := ins_on hin 15 (by kernel_rfl)
      refine upon_call (f := 22) (args := #[.agg #[.int .i64 k, .int .i64 y, .int .i64 n, .slice ao l.length cp]]) ?_ ((own_any k y n l _ w' hm (bytes_grow hvW hg)).mono ?_)
      · clear hin hg
        have ek : ∀ x, a.eval (.const x) = x := fun _ => rfl
        have ef : ∀ f, a.eval (.func f) = .func (.func f) #[] #[] := fun _ => rfl
        generalize a.eval = ev at *
        go_simp
        all_goals first | done | omega | (intro _; omega) | go_arith
      · rintro e w2 ⟨d2, rfl, ho2, g2⟩
        exact ⟨_, rfl, g2, d2, rfl, own_mono ho2 (by omega)⟩
    · refine need_yes 14 false rfl (fun a w' hin => ins_on hin 14 (by kernel_rfl)) (fun a w' hg hin => ?_)
      have e4 : a.eval (.tmp 4) = .pointer (some ⟨w.heap.size, 0, none⟩) := ins_ext hin 4 (by kernel_rfl)
      have z0 := (Below.cell hg (cell_lt y0)).trans y0
      have z1 := (Below.cell hg (cell_lt y1)).trans y1
      have z2 := (Below.cell hg (cell_lt y2)).trans y2
      have z3 := (Below.cell hg (cell_lt y3)).trans y3
      refine upon_val ?_ rfl
      clear hin hg
      have ek : ∀ x, a.eval (.const x) = x := fun _ => rfl
      have ef : ∀ f, a.eval (.func f) = .func (.func f) #[] #[] := fun _ => rfl
      generalize a.eval = ev at *
      go_simp
      all_goals first | done | omega | (intro _; omega) | go_arith
    · refine need_yes 14 false rfl (fun a w' hin => ins_on hin 14 (by kernel_rfl)) (fun a w' hg hin => ?_)
      have e29 : (RecP 0 ⟨k, y, n, l⟩) (a.eval (.tmp 29)) w' := ins_on hin 16 (by kernel_rfl)
      have e30 : a.eval (.tmp 30) = .agg #[.int .i64 k, .int .i64 y, .int .i64 n, .slice ao l.length cp] := ins_on hin 17 (by kernel_rfl)
      obtain ⟨d2, hd1, hd2⟩ := e29
      refine upon_call (f := 19) (args := #[.agg #[.int .i64 k, .int .i64 y, .int .i64 n, d2], .agg #[.int .i64 k, .int .i64 y, .int .i64 n, .slice ao l.length cp]]) ?_ ((rsame_any k y n k y n l l _ _ w' (bytes_own hd2) (bytes_grow hvW hg)).mono ?_)
      · clear hin hg hd2
        have ek : ∀ x, a.eval (.const x) = x := fun _ => rfl
        have ef : ∀ f, a.eval (.func f) = .func (.func f) #[] #[] := fun _ => rfl
        generalize a.eval = ev at *
        go_simp
        all_goals first | done | omega | (intro _; omega) | go_arith
      · rw [sameB_refl]
        rintro e w2 ⟨rfl, g2⟩
        exact ⟨_, rfl, g2, rfl⟩
    · refine need_yes 14 false rfl (fun a w' hin => ins_on hin 14 (by kernel_rfl)) (fun a w' hg hin => ?_)
      have e31 : a.eval (.tmp 31) = .bool true := ins_on hin 18 (by kernel_rfl)
      refine upon_val ?_ rfl
      clear hin hg
      have ek : ∀ x, a.eval (.const x) = x := fun _ => rfl
      have ef : ∀ f, a.eval (.func f) = .func (.func f) #[] #[] := fun _ => rfl
      generalize a.eval = ev at *
      go_simp
      all_goals first | done | omega | (intro _; omega) | go_arith
    · refine need_plain rfl (fun a w' hg hin => ?_)
      have ec : a.eval (.tmp 27) = .bool false := ins_on hin 14 (by kernel_rfl)
      have e : a.eval (.tmp 32) = .bool false := ins_on hin 19 (by kernel_rfl)
      exact upon_pick rfl ec e
  · intro vs w' hg ht
    obtain ⟨q13, q14, q15, q16, q17, q18, q19, q20, q21, q22, q23, q24, q25, q26, q27, q28, q29, q30, q31, q32, q33, -⟩ := ht
    have r13 : vs 0 = .agg #[.int .i64 k, .int .i64 y, .int .i64 n, .slice ao l.length cp] := q13
    have r14 : vs 1 = .agg #[.int .i64 k', .int .i64 y', .int .i64 n', .slice ao' l'.length cp'] := q14
    have r15 : vs 2 = .bool (sameB ⟨k, y, n, l⟩ ⟨k', y', n', l'⟩) := q15
    have r16 : vs 3 = .agg #[.int .i64 k, .int .i64 y, .int .i64 n, .slice ao l.length cp] := q16
    have r17 : vs 4 = .agg #[.int .i64 k', .int .i64 y', .int .i64 n', .slice ao' l'.length cp'] := q17
    have r18 : vs 5 = .bool (sameB ⟨k, y, n, l⟩ ⟨k', y', n', l'⟩) := q18
    have r19 : vs 6 = .bool false := q19
    have r20 : vs 7 = .bool false := q20
    have r21 : vs 8 = .agg #[.int .i64 k, .int .i64 y, .int .i64 n, .slice ao l.length cp] := q21
    have r22 : vs 9 = .int .i64 (wrong ⟨k, y, n, l⟩) := q22
    have r23 : vs 10 = .agg #[.int .i64 k, .int .i64 y, .int .i64 n, .slice ao l.length cp] := q23
    have r24 : vs 11 = .int .i64 (wrong ⟨k, y, n, l⟩) := q24
    have r25 : vs 12 = .bool false := q25
    have r26 : vs 13 = .bool false := q26
    have r27 : vs 14 = .bool false := q27
    have r28 : vs 15 = .agg #[.int .i64 k, .int .i64 y, .int .i64 n, .slice ao l.length cp] := q28
    have r30 : vs 17 = .agg #[.int .i64 k, .int .i64 y, .int .i64 n, .slice ao l.length cp] := q30
    have r31 : vs 18 = .bool true := q31
    have r32 : vs 19 = .bool false := q32
    have r33 : vs 20 = .bool false := q33
    clear q13 q14 q15 q16 q17 q18 q19 q20 q21 q22 q23 q24 q25 q26 q27 q28 q30 q31 q32 q33
    simp only [putAll, Act.put, List.setIfInBounds_toArray, List.set_cons_zero, List.set_cons_succ, r13, r14, r15, r16, r17, r18, r19, r20, r21, r22, r23, r24, r25, r26, r27, r28, r30, r31, r32, r33]
    clear r13 r14 r15 r16 r17 r18 r19 r20 r21 r22 r23 r24 r25 r26 r27 r28 r30 r31 r32 r33
    have gW2 := gW.trans hg
    have hv2 := bytes_grow hvW hg
    have hbr2 := (hg.block _ (heap_lt hbr)).trans hbr
    clear q29 hg gW hvW hqW hbr hbq y0 y1 y2 y3 q0 q1 q2 q3 hq
    generalize vs _ = u29
    have y0 := box_cell hbr2 0 _ rfl
    have y1 := box_cell hbr2 1 _ rfl
    have y2 := box_cell hbr2 2 _ rfl
    have y3 := box_cell hbr2 3 _ rfl
    go_wp2_with fail
    refine wp_region_told [ex (.agg #[.int .i64 k, .int .i64 y, .int .i64 n, .slice ao l.length cp]), ex (.int .i64 0), ex (.bool true), ex (.bool true), ex (.int .i64 at_), ex (.bool false), ex (.bool false), ex (.bool false), ex (undef), ex (undef), ex (.bool false), ex (.bool false), ex (undef), ex (undef), ex (undef), ex (undef), ex (undef), ex (undef), ex (undef), ex (undef), ex (undef), ex (.bool false)] (by kernel_rfl) (by kernel_rfl) ⟨st_ex _, st_ex _, st_ex _, st_ex _, st_ex _, st_ex _, st_ex _, st_ex _, st_ex _, st_ex _, st_ex _, st_ex _, st_ex _, st_ex _, st_ex _, st_ex _, st_ex _, st_ex _, st_ex _, st_ex _, st_ex _, st_ex _, trivial⟩ ?_ ?_
    · refine ⟨?_, ?_, ?_, ?_, ?_, ?_, ?_, ?_, ?_, ?_, ?_, ?_, ?_, ?_, ?_, ?_, ?_, ?_, ?_, ?_, ?_, ?_, trivial⟩
      · refine need_plain rfl (fun a w' hg hin => ?_)
        have e4 : a.eval (.tmp 4) = .pointer (some ⟨w.heap.size, 0, none⟩) := ins_ext hin 4 (by kernel_rfl)
        have z0 := (Below.cell hg (cell_lt y0)).trans y0
        have z1 := (Below.cell hg (cell_lt y1)).trans y1
        have z2 := (Below.cell hg (cell_lt y2)).trans y2
        have z3 := (Below.cell hg (cell_lt y3)).trans y3
        refine upon_val ?_ rfl
        clear hin hg
        have ek : ∀ x, a.eval (.const x) = x := fun _ => rfl
        have ef : ∀ f, a.eval (.func f) = .func (.func f) #[] #[] := fun _ => rfl
        generalize a.eval = ev at *
        go_simp
        all_goals first | done | omega | (intro _; omega) | go_arith
      · refine need_plain rfl (fun a w' hg hin => ?_)
        have e34 : a.eval (.tmp 34) = .agg #[.int .i64 k, .int .i64 y, .int .i64 n, .slice ao l.length cp] := ins_on hin 0 (by kernel_rfl)
        refine upon_call (f := 21) (args := #[.agg #[.int .i64 k, .int .i64 y, .int .i64 n, .slice ao l.length cp]]) ?_ ((rwrong_any k y n l _ w' (bytes_grow hv2 hg)).mono ?_)
        · clear hin hg
          have ek : ∀ x, a.eval (.const x) = x := fun _ => rfl
          have ef : ∀ f, a.eval (.func f) = .func (.func f) #[] #[] := fun _ => rfl
          generalize a.eval = ev at *
          go_simp
          all_goals first | done | omega | (intro _; omega) | go_arith
        · rintro e w2 ⟨rfl, g2⟩
          exact ⟨_, rfl, g2, val_int HW.out⟩
      · refine need_plain rfl (fun a w' hg hin => ?_)
        have e35 : a.eval (.tmp 35) = .int .i64 0 := ins_on hin 1 (by kernel_rfl)
        refine upon_val ?_ rfl
        clear hin hg
        have ek : ∀ x, a.eval (.const x) = x := fun _ => rfl
        have ef : ∀ f, a.eval (.func f) = .func (.func f) #[] #[] := fun _ => rfl
        generalize a.eval = ev at *
        go_simp
        all_goals first | done | omega | (intro _; omega) | go_arith
      · refine need_plain rfl (fun a w' hg hin => ?_)
        have e : a.eval (.tmp 36) = .bool true := ins_on hin 2 (by kernel_rfl)
        exact upon_move rfl e
      · refine need_yes 3 true rfl (fun a w' hin => ins_on hin 3 (by kernel_rfl)) (fun a w' hg hin => ?_)
        have e : a.eval (.tmp 3) = .int .i64 at_ := ins_ext hin 3 (by kernel_rfl)
        exact upon_move rfl e
      · refine need_yes 3 true rfl (fun a w' hin => ins_on hin 3 (by kernel_rfl)) (fun a w' hg hin => ?_)
        have e38 : a.eval (.tmp 38) = .int .i64 at_ := ins_on hin 4 (by kernel_rfl)
        refine upon_val ?_ rfl
        clear hin hg
        have ek : ∀ x, a.eval (.const x) = x := fun _ => rfl
        have ef : ∀ f, a.eval (.func f) = .func (.func f) #[] #[] := fun _ => rfl
        generalize a.eval = ev at *
        go_simp
        all_goals first | done | omega | (intro _; omega) | go_arith
      · refine need_plain rfl (fun a w' hg hin => ?_)
        have ec : a.eval (.tmp 37) = .bool true := ins_on hin 3 (by kernel_rfl)
        have e : a.eval (.tmp 39) = .bool false := ins_on hin 5 (by kernel_rfl)
        exact upon_pick rfl ec e
      · refine need_plain rfl (fun a w' hg hin => ?_)
        have e : a.eval (.tmp 40) = .bool false := ins_on hin 6 (by kernel_rfl)
        exact upon_move rfl e
      · refine need_no 7 true false rfl (by decide) (fun a w' hin => ins_on hin 7 (by kernel_rfl)) (fun _ => rfl)
      · refine need_no 7 true false rfl (by decide) (fun a w' hin => ins_on hin 7 (by kernel_rfl)) (fun _ => rfl)
      · refine need_plain rfl (fun a w' hg hin => ?_)
        have ec : a.eval (.tmp 41) = .bool false := ins_on hin 7 (by kernel_rfl)
        exact upon_pick rfl ec rfl
      · refine need_plain rfl (fun a w' hg hin => ?_)
        have e : a.eval (.tmp 44) = .bool false := ins_on hin 10 (by kernel_rfl)
        exact upon_move rfl e
      · refine need_no 11 true false rfl (by decide) (fun a w' hin => ins_on hin 11 (by kernel_rfl)) (fun _ => rfl)
      · refine need_no 11 true false rfl (by decide) (fun a w' hin => ins_on hin 11 (by kernel_rfl)) (fun _ => rfl)
      · refine need_no 11 true false rfl (by decide) (fun a w' hin => ins_on hin 11 (by kernel_rfl)) (fun _ => rfl)
      · refine need_no 11 true false rfl (by decide) (fun a w' hin => ins_on hin 11 (by kernel_rfl)) (fun _ => rfl)
      · refine need_no 11 true false rfl (by decide) (fun a w' hin => ins_on hin 11 (by kernel_rfl)) (fun _ => rfl)
      · refine need_no 11 true false rfl (by decide) (fun a w' hin => ins_on hin 11 (by kernel_rfl)) (fun _ => rfl)
      · refine need_no 11 true false rfl (by decide) (fun a w' hin => ins_on hin 11 (by kernel_rfl)) (fun _ => rfl)
      · refine need_no 11 true false rfl (by decide) (fun a w' hin => ins_on hin 11 (by kernel_rfl)) (fun _ => rfl)
      · refine need_no 11 true false rfl (by decide) (fun a w' hin => ins_on hin 11 (by kernel_rfl)) (fun _ => rfl)
      · refine need_plain rfl (fun a w' hg hin => ?_)
        have ec : a.eval (.tmp 45) = .bool false := ins_on hin 11 (by kernel_rfl)
        exact upon_pick rfl ec rfl
    · intro vs w' hg ht
      obtain ⟨q34, q35, q36, q37, q38, q39, q40, q41, q42, q43, q44, q45, q46, q47, q48, q49, q50, q51, q52, q53, q54, q55, -⟩ := ht
      have r34 : vs 0 = .agg #[.int .i64 k, .int .i64 y, .int .i64 n, .slice ao l.length cp] := q34
      have r35 : vs 1 = .int .i64 0 := q35
      have r36 : vs 2 = .bool true := q36
      have r37 : vs 3 = .bool true := q37
      have r38 : vs 4 = .int .i64 at_ := q38
      have r39 : vs 5 = .bool false := q39
      have r40 : vs 6 = .bool false := q40
      have r41 : vs 7 = .bool false := q41
      have r42 : vs 8 = undef := q42
      have r43 : vs 9 = undef := q43
      have r44 : vs 10 = .bool false := q44
      have r45 : vs 11 = .bool false := q45
      have r46 : vs 12 = undef := q46
      have r47 : vs 13 = undef := q47
      have r48 : vs 14 = undef := q48
      have r49 : vs 15 = undef := q49
      have r50 : vs 16 = undef := q50
      have r51 : vs 17 = undef := q51
      have r52 : vs 18 = undef := q52
      have r53 : vs 19 = undef := q53
      have r54 : vs 20 = undef := q54
      have r55 : vs 21 = .bool false := q55
      clear q34 q35 q36 q37 q38 q39 q40 q41 q42 q43 q44 q45 q46 q47 q48 q49 q50 q51 q52 q53 q54 q55
      simp only [putAll, Act.put, List.setIfInBounds_toArray, List.set_cons_zero, List.set_cons_succ, r34, r35, r36, r37, r38, r39, r40, r41, r42, r43, r44, r45, r46, r47, r48, r49, r50, r51, r52, r53, r54, r55]
      clear r34 r35 r36 r37 r38 r39 r40 r41 r42 r43 r44 r45 r46 r47 r48 r49 r50 r51 r52 r53 r54 r55
      have gt := gW2.trans hg
      have hb3 := bytes_grow hb gt
      clear hg gW2 hv2 hbr2 y0 y1 y2 y3
      go_wp2_with fail
      refine (read_any lb at_ _ _ hb3).mono ?_
      rintro e w4 ⟨d4, rfl, ho4, g4⟩
      have hb4 := bytes_grow hb3 g4
      have gw4 := gt.trans g4
      have hD4 := bytes_own ho4
      obtain ⟨ao4, cp4, rfl⟩ := own_slice ho4
      clear g4 ho4 hb3 gt
      generalize hrr : readR lb at_ = rr at *
      generalize hee : readE lb at_ = ee at *
      have HRR : Hid (readR lb at_ = rr) := hrr
      have HEE : Hid (readE lb at_ = ee) := hee
      clear hrr hee
      go_wp2_with fail
      refine (rread_any lb at_ _ _ (by exact bytes_grow hb4 (grow_alloc _ _))).mono ?_
      unfold ReadQ
      rw [HRR.out, HEE.out]
      rintro e w5 ⟨d5, rfl, ho5, g5⟩
      have g45 := (grow_alloc _ _).trans g5
      have hD5 := bytes_own ho5
      have hD45 := bytes_grow hD4 g45
      have gw5 := gw4.trans g45
      have hx5 : w5.heap[w4.heap.size]? = some (.cells #[.int .i64 rr.kind, .int .i64 rr.key, .int .i64 rr.ver, .slice ao4 rr.data.length cp4] 32 (0, 0)) := (g5.block _ (by simp)).trans (heap_new _ _ _)
      obtain ⟨ao5, cp5, rfl⟩ := own_slice ho5
      have x0 := box_cell hx5 0 _ rfl
      have x1 := box_cell hx5 1 _ rfl
      have x2 := box_cell hx5 2 _ rfl
      have x3 := box_cell hx5 3 _ rfl
      have hz5 := heap_lt hx5
      clear g5 ho5 hb4 gw4 hD4 g45 hx5
      go_wp2_with fail
      refine (rsame_any _ _ _ _ _ _ rr.data rr.data _ _ _ (by exact bytes_grow hD45 (grow_alloc _ _)) (by exact bytes_grow hD5 (grow_alloc _ _))).mono ?_
      rw [sameB_refl]
      rintro e w6 ⟨rfl, g6⟩
      go_wp2
      go_ret
      exact ⟨rfl, (gw5.trans (grow_alloc _ _)).trans g6⟩

set_option maxHeartbeats 2000000 in
theorem blocktells_high (k y n k' y' n' at_ : Int) (l l' lb : List UInt8) (ao ao' aob : Option Addr) (cp cp' cpb : Nat) (w : World) (hv : Bytes w (.slice ao l.length cp) l) (hq : Bytes w (.slice ao' l'.length cp') l') (hb : Bytes w (.slice aob lb.length cpb) lb)
    (hm : l.length ≤ 140737488355328) (HW : Hid (wrong ⟨k, y, n, l⟩ = 0)) (h0 : 256 ≤ at_) :
    Calls Try.prog 5 #[.agg #[.int .i64 k, .int .i64 y, .int .i64 n, .slice ao l.length cp], .agg #[.int .i64 k', .int .i64 y', .int .i64 n', .slice ao' l'.length cp'], .slice aob lb.length cpb, .int .i64 at_] w fun e w' => e = .returned (.bool true) ∧ Grow w w' := by
  have d0 : decide (0 ≤ at_) = true := by simp; omega
  have d1 : decide (at_ < 256) = false := by simp; omega
  go_enter Try.func5, Try.ntmps5
  go_wp2_with fail
  have hbr : ((w.alloc (.cells #[.int .i64 k, .int .i64 y, .int .i64 n, .slice ao l.length cp] 32)).alloc (.cells #[.int .i64 k', .int .i64 y', .int .i64 n', .slice ao' l'.length cp'] 32)).heap[w.heap.size]? = some (.cells #[.int .i64 k, .int .i64 y, .int .i64 n, .slice ao l.length cp] 32 (0, 0)) :=
    ((grow_alloc (w.alloc (.cells #[.int .i64 k, .int .i64 y, .int .i64 n, .slice ao l.length cp] 32)) _).block _ (by simp)).trans (heap_new _ _ _)
  have hbq : ((w.alloc (.cells #[.int .i64 k, .int .i64 y, .int .i64 n, .slice ao l.length cp] 32)).alloc (.cells #[.int .i64 k', .int .i64 y', .int .i64 n', .slice ao' l'.length cp'] 32)).heap[w.heap.size + 1]? = some (.cells #[.int .i64 k', .int .i64 y', .int .i64 n', .slice ao' l'.length cp'] 32 (0, 0)) := by
    have h := heap_new (w.alloc (.cells #[.int .i64 k, .int .i64 y, .int .i64 n, .slice ao l.length cp] 32)) #[.int .i64 k', .int .i64 y', .int .i64 n', .slice ao' l'.length cp'] 32
    rw [World.size_alloc] at h
    exact h
  have gW := grow_alloc2 w (.cells #[.int .i64 k, .int .i64 y, .int .i64 n, .slice ao l.length cp] 32) (.cells #[.int .i64 k', .int .i64 y', .int .i64 n', .slice ao' l'.length cp'] 32)
  generalize World.alloc (World.alloc w _) _ = W at hbr hbq gW ⊢
  have hvW := bytes_grow hv gW
  have hqW := bytes_grow hq gW
  have y0 := box_cell hbr 0 _ rfl
  have y1 := box_cell hbr 1 _ rfl
  have y2 := box_cell hbr 2 _ rfl
  have y3 := box_cell hbr 3 _ rfl
  have q0 := box_cell hbq 0 _ rfl
  have q1 := box_cell hbq 1 _ rfl
  have q2 := box_cell hbq 2 _ rfl
  have q3 := box_cell hbq 3 _ rfl
  refine wp_region_told [ex (.agg #[.int .i64 k, .int .i64 y, .int .i64 n, .slice ao l.length cp]), ex (.agg #[.int .i64 k', .int .i64 y', .int .i64 n', .slice ao' l'.length cp']), ex (.bool (sameB ⟨k, y, n, l⟩ ⟨k', y', n', l'⟩)), ex (.agg #[.int .i64 k, .int .i64 y, .int .i64 n, .slice ao l.length cp]), ex (.agg #[.int .i64 k', .int .i64 y', .int .i64 n', .slice ao' l'.length cp']), ex (.bool (sameB ⟨k, y, n, l⟩ ⟨k', y', n', l'⟩)), ex (.bool false), ex (.bool false), ex (.agg #[.int .i64 k, .int .i64 y, .int .i64 n, .slice ao l.length cp]), ex (.int .i64 (wrong ⟨k, y, n, l⟩)), ex (.agg #[.int .i64 k, .int .i64 y, .int .i64 n, .slice ao l.length cp]), ex (.int .i64 (wrong ⟨k, y, n, l⟩)), ex (.bool false), ex (.bool false), ex (.bool false), ex (.agg #[.int .i64 k, .int .i64 y, .int .i64 n, .slice ao l.length cp]), (RecP 0 ⟨k, y, n, l⟩), ex (.agg #[.int .i64 k, .int .i64 y, .int .i64 n, .slice ao l.length cp]), ex (.bool true), ex (.bool false), ex (.bool false)] (by kernel_rfl) (by kernel_rfl) ⟨st_ex _, st_ex _, st_ex _, st_ex _, st_ex _, st_ex _, st_ex _, st_ex _, st_ex _, st_ex _, st_ex _, st_ex _, st_ex _, st_ex _, st_ex _, st_ex _, st_rec _ _, st_ex _, st_ex _, st_ex _, st_ex _, trivial⟩ ?_ ?_
  · refine ⟨?_, ?_, ?_, ?_, ?_, ?_, ?_, ?_, ?_, ?_, ?_, ?_, ?_, ?_, ?_, ?_, ?_, ?_, ?_, ?_, ?_, trivial⟩
    · refine need_plain rfl (fun a w' hg hin => ?_)
      have e4 : a.eval (.tmp 4) = .pointer (some ⟨w.heap.size, 0, none⟩) := ins_ext hin 4 (by kernel_rfl)
      have z0 := (Below.cell hg (cell_lt y0)).trans y0
      have z1 := (Below.cell hg (cell_lt y1)).trans y1
      have z2 := (Below.cell hg (cell_lt y2)).trans y2
      have z3 := (Below.cell hg (cell_lt y3)).trans y3
      refine upon_val ?_ rfl
      clear hin hg
      have ek : ∀ x, a.eval (.const x) = x := fun _ => rfl
      have ef : ∀ f, a.eval (.func f) = .func (.func f) #[] #[] := fun _ => rfl
      generalize a.eval = ev at *
      go_simp
      all_goals first | done | omega | (intro _; omega) | go_arith
    · refine need_plain rfl (fun a w' hg hin => ?_)
      have e5 : a.eval (.tmp 5) = .pointer (some ⟨w.heap.size + 1, 0, none⟩) := ins_ext hin 5 (by kernel_rfl)
      have z0 := (Below.cell hg (cell_lt q0)).trans q0
      have z1 := (Below.cell hg (cell_lt q1)).trans q1
      have z2 := (Below.cell hg (cell_lt q2)).trans q2
      have z3 := (Below.cell hg (cell_lt q3)).trans q3
      refine upon_val ?_ rfl
      clear hin hg
      have ek : ∀ x, a.eval (.const x) = x := fun _ => rfl
      have ef : ∀ f, a.eval (.func f) = .func (.func f) #[] #[] := fun _ => rfl
      generalize a.eval = ev at *
      go_simp
      all_goals first | done | omega | (intro _; omega) | go_arith
    · refine need_plain rfl (fun a w' hg hin => ?_)
      have e13 : a.eval (.tmp 13) = .agg #[.int .i64 k, .int .i64 y, .int .i64 n, .slice ao l.length cp] := ins_on hin 0 (by kernel_rfl)
      have e14 : a.eval (.tmp 14) = .agg #[.int .i64 k', .int .i64 y', .int .i64 n', .slice ao' l'.length cp'] := ins_on hin 1 (by kernel_rfl)
      refine upon_call (f := 18) (args := #[.agg #[.int .i64 k, .int .i64 y, .int .i64 n, .slice ao l.length cp], .agg #[.int .i64 k', .int .i64 y', .int .i64 n', .slice ao' l'.length cp']]) ?_ ((same_any k y n k' y' n' l l' _ _ w' (bytes_grow hvW hg) (bytes_grow hqW hg)).mono ?_)
      · clear hin hg
        have ek : ∀ x, a.eval (.const x) = x := fun _ => rfl
        have ef : ∀ f, a.eval (.func f) = .func (.func f) #[] #[] := fun _ => rfl
        generalize a.eval = ev at *
        go_simp
        all_goals first | done | omega | (intro _; omega) | go_arith
      · rintro e w2 ⟨rfl, g2⟩
        exact ⟨_, rfl, g2, rfl⟩
    · refine need_plain rfl (fun a w' hg hin => ?_)
      have e4 : a.eval (.tmp 4) = .pointer (some ⟨w.heap.size, 0, none⟩) := ins_ext hin 4 (by kernel_rfl)
      have z0 := (Below.cell hg (cell_lt y0)).trans y0
      have z1 := (Below.cell hg (cell_lt y1)).trans y1
      have z2 := (Below.cell hg (cell_lt y2)).trans y2
      have z3 := (Below.cell hg (cell_lt y3)).trans y3
      refine upon_val ?_ rfl
      clear hin hg
      have ek : ∀ x, a.eval (.const x) = x := fun _ => rfl
      have ef : ∀ f, a.eval (.func f) = .func (.func f) #[] #[] := fun _ => rfl
      generalize a.eval = ev at *
      go_simp
      all_goals first | done | omega | (intro _; omega) | go_arith
    · refine need_plain rfl (fun a w' hg hin => ?_)
      have e5 : a.eval (.tmp 5) = .pointer (some ⟨w.heap.size + 1, 0, none⟩) := ins_ext hin 5 (by kernel_rfl)
      have z0 := (Below.cell hg (cell_lt q0)).trans q0
      have z1 := (Below.cell hg (cell_lt q1)).trans q1
      have z2 := (Below.cell hg (cell_lt q2)).trans q2
      have z3 := (Below.cell hg (cell_lt q3)).trans q3
      refine upon_val ?_ rfl
      clear hin hg
      have ek : ∀ x, a.eval (.const x) = x := fun _ => rfl
      have ef : ∀ f, a.eval (.func f) = .func (.func f) #[] #[] := fun _ => rfl
      generalize a.eval = ev at *
      go_simp
      all_goals first | done | omega | (intro _; omega) | go_arith
    · refine need_plain rfl (fun a w' hg hin => ?_)
      have e16 : a.eval (.tmp 16) = .agg #[.int .i64 k, .int .i64 y, .int .i64 n, .slice ao l.length cp] := ins_on hin 3 (by kernel_rfl)
      have e17 : a.eval (.tmp 17) = .agg #[.int .i64 k', .int .i64 y', .int .i64 n', .slice ao' l'.length cp'] := ins_on hin 4 (by kernel_rfl)
      refine upon_call (f := 19) (args := #[.agg #[.int .i64 k, .int .i64 y, .int .i64 n, .slice ao l.length cp], .agg #[.int .i64 k', .int .i64 y', .int .i64 n', .slice ao' l'.length cp']]) ?_ ((rsame_any k y n k' y' n' l l' _ _ w' (bytes_grow hvW hg) (bytes_grow hqW hg)).mono ?_)
      · clear hin hg
        have ek : ∀ x, a.eval (.const x) = x := fun _ => rfl
        have ef : ∀ f, a.eval (.func f) = .func (.func f) #[] #[] := fun _ => rfl
        generalize a.eval = ev at *
        go_simp
        all_goals first | done | omega | (intro _; omega) | go_arith
      · rintro e w2 ⟨rfl, g2⟩
        exact ⟨_, rfl, g2, rfl⟩
    · refine need_plain rfl (fun a w' hg hin => ?_)
      have e15 : a.eval (.tmp 15) = .bool (sameB ⟨k, y, n, l⟩ ⟨k', y', n', l'⟩) := ins_on hin 2 (by kernel_rfl)
      have e18 : a.eval (.tmp 18) = .bool (sameB ⟨k, y, n, l⟩ ⟨k', y', n', l'⟩) := ins_on hin 5 (by kernel_rfl)
      refine upon_val ?_ rfl
      clear hin hg
      generalize sameB _ _ = sb at *
      have ek : ∀ x, a.eval (.const x) = x := fun _ => rfl
      have ef : ∀ f, a.eval (.func f) = .func (.func f) #[] #[] := fun _ => rfl
      generalize a.eval = ev at *
      go_simp
      all_goals first | done | omega | (intro _; omega) | go_arith
    · refine need_plain rfl (fun a w' hg hin => ?_)
      have e : a.eval (.tmp 19) = .bool false := ins_on hin 6 (by kernel_rfl)
      exact upon_move rfl e
    · refine need_yes 7 false rfl (fun a w' hin => ins_on hin 7 (by kernel_rfl)) (fun a w' hg hin => ?_)
      have e4 : a.eval (.tmp 4) = .pointer (some ⟨w.heap.size, 0, none⟩) := ins_ext hin 4 (by kernel_rfl)
      have z0 := (Below.cell hg (cell_lt y0)).trans y0
      have z1 := (Below.cell hg (cell_lt y1)).trans y1
      have z2 := (Below.cell hg (cell_lt y2)).trans y2
      have z3 := (Below.cell hg (cell_lt y3)).trans y3
      refine upon_val ?_ rfl
      clear hin hg
      have ek : ∀ x, a.eval (.const x) = x := fun _ => rfl
      have ef : ∀ f, a.eval (.func f) = .func (.func f) #[] #[] := fun _ => rfl
      generalize a.eval = ev at *
      go_simp
      all_goals first | done | omega | (intro _; omega) | go_arith
    · refine need_yes 7 false rfl (fun a w' hin => ins_on hin 7 (by kernel_rfl)) (fun a w' hg hin => ?_)
      have e21 : a.eval (.tmp 21) = .agg #[.int .i64 k, .int .i64 y, .int .i64 n, .slice ao l.length cp] := ins_on hin 8 (by kernel_rfl)
      refine upon_call (f := 20) (args := #[.agg #[.int .i64 k, .int .i64 y, .int .i64 n, .slice ao l.length cp]]) ?_ ((wrong_any k y n l _ w' (bytes_grow hvW hg)).mono ?_)
      · clear hin hg
        have ek : ∀ x, a.eval (.const x) = x := fun _ => rfl
        have ef : ∀ f, a.eval (.func f) = .func (.func f) #[] #[] := fun _ => rfl
        generalize a.eval = ev at *
        go_simp
        all_goals first | done | omega | (intro _; omega) | go_arith
      · rintro e w2 ⟨rfl, g2⟩
        exact ⟨_, rfl, g2, rfl⟩
    · refine need_yes 7 false rfl (fun a w' hin => ins_on hin 7 (by kernel_rfl)) (fun a w' hg hin => ?_)
      have e4 : a.eval (.tmp 4) = .pointer (some ⟨w.heap.size, 0, none⟩) := ins_ext hin 4 (by kernel_rfl)
      have z0 := (Below.cell hg (cell_lt y0)).trans y0
      have z1 := (Below.cell hg (cell_lt y1)).trans y1
      have z2 := (Below.cell hg (cell_lt y2)).trans y2
      have z3 := (Below.cell hg (cell_lt y3)).trans y3
      refine upon_val ?_ rfl
      clear hin hg
      have ek : ∀ x, a.eval (.const x) = x := fun _ => rfl
      have ef : ∀ f, a.eval (.func f) = .func (.func f) #[] #[] := fun _ => rfl
      generalize a.eval = ev at *
      go_simp
      all_goals first | done | omega | (intro _; omega) | go_arith
    · refine need_yes 7 false rfl (fun a w' hin => ins_on hin 7 (by kernel_rfl)) (fun a w' hg hin => ?_)
      have e23 : a.eval (.tmp 23) = .agg #[.int .i64 k, .int .i64 y, .int .i64 n, .slice ao l.length cp] := ins_on hin 10 (by kernel_rfl)
      refine upon_call (f := 21) (args := #[.agg #[.int .i64 k, .int .i64 y, .int .i64 n, .slice ao l.length cp]]) ?_ ((rwrong_any k y n l _ w' (bytes_grow hvW hg)).mono ?_)
      · clear hin hg
        have ek : ∀ x, a.eval (.const x) = x := fun _ => rfl
        have ef : ∀ f, a.eval (.func f) = .func (.func f) #[] #[] := fun _ => rfl
        generalize a.eval = ev at *
        go_simp
        all_goals first | done | omega | (intro _; omega) | go_arith
      · rintro e w2 ⟨rfl, g2⟩
        exact ⟨_, rfl, g2, rfl⟩
    · refine need_yes 7 false rfl (fun a w' hin => ins_on hin 7 (by kernel_rfl)) (fun a w' hg hin => ?_)
      have e22 : a.eval (.tmp 22) = .int .i64 (wrong ⟨k, y, n, l⟩) := ins_on hin 9 (by kernel_rfl)
      have e24 : a.eval (.tmp 24) = .int .i64 (wrong ⟨k, y, n, l⟩) := ins_on hin 11 (by kernel_rfl)
      refine upon_val ?_ rfl
      clear hin hg
      generalize wrong _ = wz at *
      have ek : ∀ x, a.eval (.const x) = x := fun _ => rfl
      have ef : ∀ f, a.eval (.func f) = .func (.func f) #[] #[] := fun _ => rfl
      generalize a.eval = ev at *
      go_simp
      all_goals first | done | omega | (intro _; omega) | go_arith
    · refine need_plain rfl (fun a w' hg hin => ?_)
      have ec : a.eval (.tmp 20) = .bool false := ins_on hin 7 (by kernel_rfl)
      have e : a.eval (.tmp 25) = .bool false := ins_on hin 12 (by kernel_rfl)
      exact upon_pick rfl ec e
    · refine need_plain rfl (fun a w' hg hin => ?_)
      have e : a.eval (.tmp 26) = .bool false := ins_on hin 13 (by kernel_rfl)
      exact upon_move rfl e
    · refine need_yes 14 false rfl (fun a w' hin => ins_on hin 14 (by kernel_rfl)) (fun a w' hg hin => ?_)
      have e4 : a.eval (.tmp 4) = .pointer (some ⟨w.heap.size, 0, none⟩) := ins_ext hin 4 (by kernel_rfl)
      have z0 := (Below.cell hg (cell_lt y0)).trans y0
      have z1 := (Below.cell hg (cell_lt y1)).trans y1
      have z2 := (Below.cell hg (cell_lt y2)).trans y2
      have z3 := (Below.cell hg (cell_lt y3)).trans y3
      refine upon_val ?_ rfl
      clear hin hg
      have ek : ∀ x, a.eval (.const x) = x := fun _ => rfl
      have ef : ∀ f, a.eval (.func f) = .func (.func f) #[] #[] := fun _ => rfl
      generalize a.eval = ev at *
      go_simp
      all_goals first | done | omega | (intro _; omega) | go_arith
    · refine need_yes 14 false rfl (fun a w' hin => ins_on hin 14 (by kernel_rfl)) (fun a w' hg hin => ?_)
      have e28 : a.eval (.tmp 28) = .agg #[.int .i64 k, .int .i64 y, .int .i64 n, .slice ao l.length cp] := ins_on hin 15 (by kernel_rfl)
      refine upon_call (f := 22) (args := #[.agg #[.int .i64 k, .int .i64 y, .int .i64 n, .slice ao l.length cp]]) ?_ ((own_any k y n l _ w' hm (bytes_grow hvW hg)).mono ?_)
      · clear hin hg
        have ek : ∀ x, a.eval (.const x) = x := fun _ => rfl
        have ef : ∀ f, a.eval (.func f) = .func (.func f) #[] #[] := fun _ => rfl
        generalize a.eval = ev at *
        go_simp
        all_goals first | done | omega | (intro _; omega) | go_arith
      · rintro e w2 ⟨d2, rfl, ho2, g2⟩
        exact ⟨_, rfl, g2, d2, rfl, own_mono ho2 (by omega)⟩
    · refine need_yes 14 false rfl (fun a w' hin => ins_on hin 14 (by kernel_rfl)) (fun a w' hg hin => ?_)
      have e4 : a.eval (.tmp 4) = .pointer (some ⟨w.heap.size, 0, none⟩) := ins_ext hin 4 (by kernel_rfl)
      have z0 := (Below.cell hg (cell_lt y0)).trans y0
      have z1 := (Below.cell hg (cell_lt y1)).trans y1
      have z2 := (Below.cell hg (cell_lt y2)).trans y2
      have z3 := (Below.cell hg (cell_lt y3)).trans y3
      refine upon_val ?_ rfl
      clear hin hg
      have ek : ∀ x, a.eval (.const x) = x := fun _ => rfl
      have ef : ∀ f, a.eval (.func f) = .func (.func f) #[] #[] := fun _ => rfl
      generalize a.eval = ev at *
      go_simp
      all_goals first | done | omega | (intro _; omega) | go_arith
    · refine need_yes 14 false rfl (fun a w' hin => ins_on hin 14 (by kernel_rfl)) (fun a w' hg hin => ?_)
      have e29 : (RecP 0 ⟨k, y, n, l⟩) (a.eval (.tmp 29)) w' := ins_on hin 16 (by kernel_rfl)
      have e30 : a.eval (.tmp 30) = .agg #[.int .i64 k, .int .i64 y, .int .i64 n, .slice ao l.length cp] := ins_on hin 17 (by kernel_rfl)
      obtain ⟨d2, hd1, hd2⟩ := e29
      refine upon_call (f := 19) (args := #[.agg #[.int .i64 k, .int .i64 y, .int .i64 n, d2], .agg #[.int .i64 k, .int .i64 y, .int .i64 n, .slice ao l.length cp]]) ?_ ((rsame_any k y n k y n l l _ _ w' (bytes_own hd2) (bytes_grow hvW hg)).mono ?_)
      · clear hin hg hd2
        have ek : ∀ x, a.eval (.const x) = x := fun _ => rfl
        have ef : ∀ f, a.eval (.func f) = .func (.func f) #[] #[] := fun _ => rfl
        generalize a.eval = ev at *
        go_simp
        all_goals first | done | omega | (intro _; omega) | go_arith
      · rw [sameB_refl]
        rintro e w2 ⟨rfl, g2⟩
        exact ⟨_, rfl, g2, rfl⟩
    · refine need_yes 14 false rfl (fun a w' hin => ins_on hin 14 (by kernel_rfl)) (fun a w' hg hin => ?_)
      have e31 : a.eval (.tmp 31) = .bool true := ins_on hin 18 (by kernel_rfl)
      refine upon_val ?_ rfl
      clear hin hg
      have ek : ∀ x, a.eval (.const x) = x := fun _ => rfl
      have ef : ∀ f, a.eval (.func f) = .func (.func f) #[] #[] := fun _ => rfl
      generalize a.eval = ev at *
      go_simp
      all_goals first | done | omega | (intro _; omega) | go_arith
    · refine need_plain rfl (fun a w' hg hin => ?_)
      have ec : a.eval (.tmp 27) = .bool false := ins_on hin 14 (by kernel_rfl)
      have e : a.eval (.tmp 32) = .bool false := ins_on hin 19 (by kernel_rfl)
      exact upon_pick rfl ec e
  · intro vs w' hg ht
    obtain ⟨q13, q14, q15, q16, q17, q18, q19, q20, q21, q22, q23, q24, q25, q26, q27, q28, q29, q30, q31, q32, q33, -⟩ := ht
    have r13 : vs 0 = .agg #[.int .i64 k, .int .i64 y, .int .i64 n, .slice ao l.length cp] := q13
    have r14 : vs 1 = .agg #[.int .i64 k', .int .i64 y', .int .i64 n', .slice ao' l'.length cp'] := q14
    have r15 : vs 2 = .bool (sameB ⟨k, y, n, l⟩ ⟨k', y', n', l'⟩) := q15
    have r16 : vs 3 = .agg #[.int .i64 k, .int .i64 y, .int .i64 n, .slice ao l.length cp] := q16
    have r17 : vs 4 = .agg #[.int .i64 k', .int .i64 y', .int .i64 n', .slice ao' l'.length cp'] := q17
    have r18 : vs 5 = .bool (sameB ⟨k, y, n, l⟩ ⟨k', y', n', l'⟩) := q18
    have r19 : vs 6 = .bool false := q19
    have r20 : vs 7 = .bool false := q20
    have r21 : vs 8 = .agg #[.int .i64 k, .int .i64 y, .int .i64 n, .slice ao l.length cp] := q21
    have r22 : vs 9 = .int .i64 (wrong ⟨k, y, n, l⟩) := q22
    have r23 : vs 10 = .agg #[.int .i64 k, .int .i64 y, .int .i64 n, .slice ao l.length cp] := q23
    have r24 : vs 11 = .int .i64 (wrong ⟨k, y, n, l⟩) := q24
    have r25 : vs 12 = .bool false := q25
    have r26 : vs 13 = .bool false := q26
    have r27 : vs 14 = .bool false := q27
    have r28 : vs 15 = .agg #[.int .i64 k, .int .i64 y, .int .i64 n, .slice ao l.length cp] := q28
    have r30 : vs 17 = .agg #[.int .i64 k, .int .i64 y, .int .i64 n, .slice ao l.length cp] := q30
    have r31 : vs 18 = .bool true := q31
    have r32 : vs 19 = .bool false := q32
    have r33 : vs 20 = .bool false := q33
    clear q13 q14 q15 q16 q17 q18 q19 q20 q21 q22 q23 q24 q25 q26 q27 q28 q30 q31 q32 q33
    simp only [putAll, Act.put, List.setIfInBounds_toArray, List.set_cons_zero, List.set_cons_succ, r13, r14, r15, r16, r17, r18, r19, r20, r21, r22, r23, r24, r25, r26, r27, r28, r30, r31, r32, r33]
    clear r13 r14 r15 r16 r17 r18 r19 r20 r21 r22 r23 r24 r25 r26 r27 r28 r30 r31 r32 r33
    have gW2 := gW.trans hg
    have hv2 := bytes_grow hvW hg
    have hbr2 := (hg.block _ (heap_lt hbr)).trans hbr
    clear q29 hg gW hvW hqW hbr hbq y0 y1 y2 y3 q0 q1 q2 q3 hq
    generalize vs _ = u29
    have y0 := box_cell hbr2 0 _ rfl
    have y1 := box_cell hbr2 1 _ rfl
    have y2 := box_cell hbr2 2 _ rfl
    have y3 := box_cell hbr2 3 _ rfl
    go_wp2_with fail
    refine wp_region_told [ex (.agg #[.int .i64 k, .int .i64 y, .int .i64 n, .slice ao l.length cp]), ex (.int .i64 0), ex (.bool true), ex (.bool true), ex (.int .i64 at_), ex (.bool true), ex (.bool true), ex (.bool true), ex (.int .i64 at_), ex (.bool false), ex (.bool false), ex (.bool false), ex (undef), ex (undef), ex (undef), ex (undef), ex (undef), ex (undef), ex (undef), ex (undef), ex (undef), ex (.bool false)] (by kernel_rfl) (by kernel_rfl) ⟨st_ex _, st_ex _, st_ex _, st_ex _, st_ex _, st_ex _, st_ex _, st_ex _, st_ex _, st_ex _, st_ex _, st_ex _, st_ex _, st_ex _, st_ex _, st_ex _, st_ex _, st_ex _, st_ex _, st_ex _, st_ex _, st_ex _, trivial⟩ ?_ ?_
    · refine ⟨?_, ?_, ?_, ?_, ?_, ?_, ?_, ?_, ?_, ?_, ?_, ?_, ?_, ?_, ?_, ?_, ?_, ?_, ?_, ?_, ?_, ?_, trivial⟩
      · refine need_plain rfl (fun a w' hg hin => ?_)
        have e4 : a.eval (.tmp 4) = .pointer (some ⟨w.heap.size, 0, none⟩) := ins_ext hin 4 (by kernel_rfl)
        have z0 := (Below.cell hg (cell_lt y0)).trans y0
        have z1 := (Below.cell hg (cell_lt y1)).trans y1
        have z2 := (Below.cell hg (cell_lt y2)).trans y2
        have z3 := (Below.cell hg (cell_lt y3)).trans y3
        refine upon_val ?_ rfl
        clear hin hg
        have ek : ∀ x, a.eval (.const x) = x := fun _ => rfl
        have ef : ∀ f, a.eval (.func f) = .func (.func f) #[] #[] := fun _ => rfl
        generalize a.eval = ev at *
        go_simp
        all_goals first | done | omega | (intro _; omega) | go_arith
      · refine need_plain rfl (fun a w' hg hin => ?_)
        have e34 : a.eval (.tmp 34) = .agg #[.int .i64 k, .int .i64 y, .int .i64 n, .slice ao l.length cp] := ins_on hin 0 (by kernel_rfl)
        refine upon_call (f := 21) (args := #[.agg #[.int .i64 k, .int .i64 y, .int .i64 n, .slice ao l.length cp]]) ?_ ((rwrong_any k y n l _ w' (bytes_grow hv2 hg)).mono ?_)
        · clear hin hg
          have ek : ∀ x, a.eval (.const x) = x := fun _ => rfl
          have ef : ∀ f, a.eval (.func f) = .func (.func f) #[] #[] := fun _ => rfl
          generalize a.eval = ev at *
          go_simp
          all_goals first | done | omega | (intro _; omega) | go_arith
        · rintro e w2 ⟨rfl, g2⟩
          exact ⟨_, rfl, g2, val_int HW.out⟩
      · refine need_plain rfl (fun a w' hg hin => ?_)
        have e35 : a.eval (.tmp 35) = .int .i64 0 := ins_on hin 1 (by kernel_rfl)
        refine upon_val ?_ rfl
        clear hin hg
        have ek : ∀ x, a.eval (.const x) = x := fun _ => rfl
        have ef : ∀ f, a.eval (.func f) = .func (.func f) #[] #[] := fun _ => rfl
        generalize a.eval = ev at *
        go_simp
        all_goals first | done | omega | (intro _; omega) | go_arith
      · refine need_plain rfl (fun a w' hg hin => ?_)
        have e : a.eval (.tmp 36) = .bool true := ins_on hin 2 (by kernel_rfl)
        exact upon_move rfl e
      · refine need_yes 3 true rfl (fun a w' hin => ins_on hin 3 (by kernel_rfl)) (fun a w' hg hin => ?_)
        have e : a.eval (.tmp 3) = .int .i64 at_ := ins_ext hin 3 (by kernel_rfl)
        exact upon_move rfl e
      · refine need_yes 3 true rfl (fun a w' hin => ins_on hin 3 (by kernel_rfl)) (fun a w' hg hin => ?_)
        have e38 : a.eval (.tmp 38) = .int .i64 at_ := ins_on hin 4 (by kernel_rfl)
        refine upon_val ?_ rfl
        clear hin hg
        have ek : ∀ x, a.eval (.const x) = x := fun _ => rfl
        have ef : ∀ f, a.eval (.func f) = .func (.func f) #[] #[] := fun _ => rfl
        generalize a.eval = ev at *
        go_simp
        all_goals first | done | omega | (intro _; omega) | go_arith
      · refine need_plain rfl (fun a w' hg hin => ?_)
        have ec : a.eval (.tmp 37) = .bool true := ins_on hin 3 (by kernel_rfl)
        have e : a.eval (.tmp 39) = .bool true := ins_on hin 5 (by kernel_rfl)
        exact upon_pick rfl ec e
      · refine need_plain rfl (fun a w' hg hin => ?_)
        have e : a.eval (.tmp 40) = .bool true := ins_on hin 6 (by kernel_rfl)
        exact upon_move rfl e
      · refine need_yes 7 true rfl (fun a w' hin => ins_on hin 7 (by kernel_rfl)) (fun a w' hg hin => ?_)
        have e : a.eval (.tmp 3) = .int .i64 at_ := ins_ext hin 3 (by kernel_rfl)
        exact upon_move rfl e
      · refine need_yes 7 true rfl (fun a w' hin => ins_on hin 7 (by kernel_rfl)) (fun a w' hg hin => ?_)
        have e42 : a.eval (.tmp 42) = .int .i64 at_ := ins_on hin 8 (by kernel_rfl)
        refine upon_val ?_ rfl
        clear hin hg
        have ek : ∀ x, a.eval (.const x) = x := fun _ => rfl
        have ef : ∀ f, a.eval (.func f) = .func (.func f) #[] #[] := fun _ => rfl
        generalize a.eval = ev at *
        go_simp
        all_goals first | done | omega | (intro _; omega) | go_arith
      · refine need_plain rfl (fun a w' hg hin => ?_)
        have ec : a.eval (.tmp 41) = .bool true := ins_on hin 7 (by kernel_rfl)
        have e : a.eval (.tmp 43) = .bool false := ins_on hin 9 (by kernel_rfl)
        exact upon_pick rfl ec e
      · refine need_plain rfl (fun a w' hg hin => ?_)
        have e : a.eval (.tmp 44) = .bool false := ins_on hin 10 (by kernel_rfl)
        exact upon_move rfl e
      · refine need_no 11 true false rfl (by decide) (fun a w' hin => ins_on hin 11 (by kernel_rfl)) (fun _ => rfl)
      · refine need_no 11 true false rfl (by decide) (fun a w' hin => ins_on hin 11 (by kernel_rfl)) (fun _ => rfl)
      · refine need_no 11 true false rfl (by decide) (fun a w' hin => ins_on hin 11 (by kernel_rfl)) (fun _ => rfl)
      · refine need_no 11 true false rfl (by decide) (fun a w' hin => ins_on hin 11 (by kernel_rfl)) (fun _ => rfl)
      · refine need_no 11 true false rfl (by decide) (fun a w' hin => ins_on hin 11 (by kernel_rfl)) (fun _ => rfl)
      · refine need_no 11 true false rfl (by decide) (fun a w' hin => ins_on hin 11 (by kernel_rfl)) (fun _ => rfl)
      · refine need_no 11 true false rfl (by decide) (fun a w' hin => ins_on hin 11 (by kernel_rfl)) (fun _ => rfl)
      · refine need_no 11 true false rfl (by decide) (fun a w' hin => ins_on hin 11 (by kernel_rfl)) (fun _ => rfl)
      · refine need_no 11 true false rfl (by decide) (fun a w' hin => ins_on hin 11 (by kernel_rfl)) (fun _ => rfl)
      · refine need_plain rfl (fun a w' hg hin => ?_)
        have ec : a.eval (.tmp 45) = .bool false := ins_on hin 11 (by kernel_rfl)
        exact upon_pick rfl ec rfl
    · intro vs w' hg ht
      obtain ⟨q34, q35, q36, q37, q38, q39, q40, q41, q42, q43, q44, q45, q46, q47, q48, q49, q50, q51, q52, q53, q54, q55, -⟩ := ht
      have r34 : vs 0 = .agg #[.int .i64 k, .int .i64 y, .int .i64 n, .slice ao l.length cp] := q34
      have r35 : vs 1 = .int .i64 0 := q35
      have r36 : vs 2 = .bool true := q36
      have r37 : vs 3 = .bool true := q37
      have r38 : vs 4 = .int .i64 at_ := q38
      have r39 : vs 5 = .bool true := q39
      have r40 : vs 6 = .bool true := q40
      have r41 : vs 7 = .bool true := q41
      have r42 : vs 8 = .int .i64 at_ := q42
      have r43 : vs 9 = .bool false := q43
      have r44 : vs 10 = .bool false := q44
      have r45 : vs 11 = .bool false := q45
      have r46 : vs 12 = undef := q46
      have r47 : vs 13 = undef := q47
      have r48 : vs 14 = undef := q48
      have r49 : vs 15 = undef := q49
      have r50 : vs 16 = undef := q50
      have r51 : vs 17 = undef := q51
      have r52 : vs 18 = undef := q52
      have r53 : vs 19 = undef := q53
      have r54 : vs 20 = undef := q54
      have r55 : vs 21 = .bool false := q55
      clear q34 q35 q36 q37 q38 q39 q40 q41 q42 q43 q44 q45 q46 q47 q48 q49 q50 q51 q52 q53 q54 q55
      simp only [putAll, Act.put, List.setIfInBounds_toArray, List.set_cons_zero, List.set_cons_succ, r34, r35, r36, r37, r38, r39, r40, r41, r42, r43, r44, r45, r46, r47, r48, r49, r50, r51, r52, r53, r54, r55]
      clear r34 r35 r36 r37 r38 r39 r40 r41 r42 r43 r44 r45 r46 r47 r48 r49 r50 r51 r52 r53 r54 r55
      have gt := gW2.trans hg
      have hb3 := bytes_grow hb gt
      clear hg gW2 hv2 hbr2 y0 y1 y2 y3
      go_wp2_with fail
      refine (read_any lb at_ _ _ hb3).mono ?_
      rintro e w4 ⟨d4, rfl, ho4, g4⟩
      have hb4 := bytes_grow hb3 g4
      have gw4 := gt.trans g4
      have hD4 := bytes_own ho4
      obtain ⟨ao4, cp4, rfl⟩ := own_slice ho4
      clear g4 ho4 hb3 gt
      generalize hrr : readR lb at_ = rr at *
      generalize hee : readE lb at_ = ee at *
      have HRR : Hid (readR lb at_ = rr) := hrr
      have HEE : Hid (readE lb at_ = ee) := hee
      clear hrr hee
      go_wp2_with fail
      refine (rread_any lb at_ _ _ (by exact bytes_grow hb4 (grow_alloc _ _))).mono ?_
      unfold ReadQ
      rw [HRR.out, HEE.out]
      rintro e w5 ⟨d5, rfl, ho5, g5⟩
      have g45 := (grow_alloc _ _).trans g5
      have hD5 := bytes_own ho5
      have hD45 := bytes_grow hD4 g45
      have gw5 := gw4.trans g45
      have hx5 : w5.heap[w4.heap.size]? = some (.cells #[.int .i64 rr.kind, .int .i64 rr.key, .int .i64 rr.ver, .slice ao4 rr.data.length cp4] 32 (0, 0)) := (g5.block _ (by simp)).trans (heap_new _ _ _)
      obtain ⟨ao5, cp5, rfl⟩ := own_slice ho5
      have x0 := box_cell hx5 0 _ rfl
      have x1 := box_cell hx5 1 _ rfl
      have x2 := box_cell hx5 2 _ rfl
      have x3 := box_cell hx5 3 _ rfl
      have hz5 := heap_lt hx5
      clear g5 ho5 hb4 gw4 hD4 g45 hx5
      go_wp2_with fail
      refine (rsame_any _ _ _ _ _ _ rr.data rr.data _ _ _ (by exact bytes_grow hD45 (grow_alloc _ _)) (by exact bytes_grow hD5 (grow_alloc _ _))).mono ?_
      rw [sameB_refl]
      rintro e w6 ⟨rfl, g6⟩
      go_wp2
      go_ret
      exact ⟨rfl, (gw5.trans (grow_alloc _ _)).trans g6⟩

set_option maxHeartbeats 2000000 in
theorem blocktells_in (k y n k' y' n' at_ : Int) (l l' lb : List UInt8) (ao ao' aob : Option Addr) (cp cp' cpb : Nat) (w : World) (hv : Bytes w (.slice ao l.length cp) l) (hq : Bytes w (.slice ao' l'.length cp') l') (hb : Bytes w (.slice aob lb.length cpb) lb)
    (hm : l.length ≤ 140737488355328) (HW : Hid (wrong ⟨k, y, n, l⟩ = 0)) (h0 : 0 ≤ at_) (h1 : at_ ≤ 255) :
    Calls Try.prog 5 #[.agg #[.int .i64 k, .int .i64 y, .int .i64 n, .slice ao l.length cp], .agg #[.int .i64 k', .int .i64 y', .int .i64 n', .slice ao' l'.length cp'], .slice aob lb.length cpb, .int .i64 at_] w fun e w' => e = .returned (.bool true) ∧ Grow w w' := by
  have d0 : decide (0 ≤ at_) = true := by simp; omega
  have d1 : decide (at_ < 256) = true := by simp; omega
  go_enter Try.func5, Try.ntmps5
  go_wp2_with fail
  have hbr : ((w.alloc (.cells #[.int .i64 k, .int .i64 y, .int .i64 n, .slice ao l.length cp] 32)).alloc (.cells #[.int .i64 k', .int .i64 y', .int .i64 n', .slice ao' l'.length cp'] 32)).heap[w.heap.size]? = some (.cells #[.int .i64 k, .int .i64 y, .int .i64 n, .slice ao l.length cp] 32 (0, 0)) :=
    ((grow_alloc (w.alloc (.cells #[.int .i64 k, .int .i64 y, .int .i64 n, .slice ao l.length cp] 32)) _).block _ (by simp)).trans (heap_new _ _ _)
  have hbq : ((w.alloc (.cells #[.int .i64 k, .int .i64 y, .int .i64 n, .slice ao l.length cp] 32)).alloc (.cells #[.int .i64 k', .int .i64 y', .int .i64 n', .slice ao' l'.length cp'] 32)).heap[w.heap.size + 1]? = some (.cells #[.int .i64 k', .int .i64 y', .int .i64 n', .slice ao' l'.length cp'] 32 (0, 0)) := by
    have h := heap_new (w.alloc (.cells #[.int .i64 k, .int .i64 y, .int .i64 n, .slice ao l.length cp] 32)) #[.int .i64 k', .int .i64 y', .int .i64 n', .slice ao' l'.length cp'] 32
    rw [World.size_alloc] at h
    exact h
  have gW := grow_alloc2 w (.cells #[.int .i64 k, .int .i64 y, .int .i64 n, .slice ao l.length cp] 32) (.cells #[.int .i64 k', .int .i64 y', .int .i64 n', .slice ao' l'.length cp'] 32)
  generalize World.alloc (World.alloc w _) _ = W at hbr hbq gW ⊢
  have hvW := bytes_grow hv gW
  have hqW := bytes_grow hq gW
  have y0 := box_cell hbr 0 _ rfl
  have y1 := box_cell hbr 1 _ rfl
  have y2 := box_cell hbr 2 _ rfl
  have y3 := box_cell hbr 3 _ rfl
  have q0 := box_cell hbq 0 _ rfl
  have q1 := box_cell hbq 1 _ rfl
  have q2 := box_cell hbq 2 _ rfl
  have q3 := box_cell hbq 3 _ rfl
  refine wp_region_told [ex (.agg #[.int .i64 k, .int .i64 y, .int .i64 n, .slice ao l.length cp]), ex (.agg #[.int .i64 k', .int .i64 y', .int .i64 n', .slice ao' l'.length cp']), ex (.bool (sameB ⟨k, y, n, l⟩ ⟨k', y', n', l'⟩)), ex (.agg #[.int .i64 k, .int .i64 y, .int .i64 n, .slice ao l.length cp]), ex (.agg #[.int .i64 k', .int .i64 y', .int .i64 n', .slice ao' l'.length cp']), ex (.bool (sameB ⟨k, y, n, l⟩ ⟨k', y', n', l'⟩)), ex (.bool false), ex (.bool false), ex (.agg #[.int .i64 k, .int .i64 y, .int .i64 n, .slice ao l.length cp]), ex (.int .i64 (wrong ⟨k, y, n, l⟩)), ex (.agg #[.int .i64 k, .int .i64 y, .int .i64 n, .slice ao l.length cp]), ex (.int .i64 (wrong ⟨k, y, n, l⟩)), ex (.bool false), ex (.bool false), ex (.bool false), ex (.agg #[.int .i64 k, .int .i64 y, .int .i64 n, .slice ao l.length cp]), (RecP 0 ⟨k, y, n, l⟩), ex (.agg #[.int .i64 k, .int .i64 y, .int .i64 n, .slice ao l.length cp]), ex (.bool true), ex (.bool false), ex (.bool false)] (by kernel_rfl) (by kernel_rfl) ⟨st_ex _, st_ex _, st_ex _, st_ex _, st_ex _, st_ex _, st_ex _, st_ex _, st_ex _, st_ex _, st_ex _, st_ex _, st_ex _, st_ex _, st_ex _, st_ex _, st_rec _ _, st_ex _, st_ex _, st_ex _, st_ex _, trivial⟩ ?_ ?_
  · refine ⟨?_, ?_, ?_, ?_, ?_, ?_, ?_, ?_, ?_, ?_, ?_, ?_, ?_, ?_, ?_, ?_, ?_, ?_, ?_, ?_, ?_, trivial⟩
    · refine need_plain rfl (fun a w' hg hin => ?_)
      have e4 : a.eval (.tmp 4) = .pointer (some ⟨w.heap.size, 0, none⟩) := ins_ext hin 4 (by kernel_rfl)
      have z0 := (Below.cell hg (cell_lt y0)).trans y0
      have z1 := (Below.cell hg (cell_lt y1)).trans y1
      have z2 := (Below.cell hg (cell_lt y2)).trans y2
      have z3 := (Below.cell hg (cell_lt y3)).trans y3
      refine upon_val ?_ rfl
      clear hin hg
      have ek : ∀ x, a.eval (.const x) = x := fun _ => rfl
      have ef : ∀ f, a.eval (.func f) = .func (.func f) #[] #[] := fun _ => rfl
      generalize a.eval = ev at *
      go_simp
      all_goals first | done | omega | (intro _; omega) | go_arith
    · refine need_plain rfl (fun a w' hg hin => ?_)
      have e5 : a.eval (.tmp 5) = .pointer (some ⟨w.heap.size + 1, 0, none⟩) := ins_ext hin 5 (by kernel_rfl)
      have z0 := (Below.cell hg (cell_lt q0)).trans q0
      have z1 := (Below.cell hg (cell_lt q1)).trans q1
      have z2 := (Below.cell hg (cell_lt q2)).trans q2
      have z3 := (Below.cell hg (cell_lt q3)).trans q3
      refine upon_val ?_ rfl
      clear hin hg
      have ek : ∀ x, a.eval (.const x) = x := fun _ => rfl
      have ef : ∀ f, a.eval (.func f) = .func (.func f) #[] #[] := fun _ => rfl
      generalize a.eval = ev at *
      go_simp
      all_goals first | done | omega | (intro _; omega) | go_arith
    · refine need_plain rfl (fun a w' hg hin => ?_)
      have e13 : a.eval (.tmp 13) = .agg #[.int .i64 k, .int .i64 y, .int .i64 n, .slice ao l.length cp] := ins_on hin 0 (by kernel_rfl)
      have e14 : a.eval (.tmp 14) = .agg #[.int .i64 k', .int .i64 y', .int .i64 n', .slice ao' l'.length cp'] := ins_on hin 1 (by kernel_rfl)
      refine upon_call (f := 18) (args := #[.agg #[.int .i64 k, .int .i64 y, .int .i64 n, .slice ao l.length cp], .agg #[.int .i64 k', .int .i64 y', .int .i64 n', .slice ao' l'.length cp']]) ?_ ((same_any k y n k' y' n' l l' _ _ w' (bytes_grow hvW hg) (bytes_grow hqW hg)).mono ?_)
      · clear hin hg
        have ek : ∀ x, a.eval (.const x) = x := fun _ => rfl
        have ef : ∀ f, a.eval (.func f) = .func (.func f) #[] #[] := fun _ => rfl
        generalize a.eval = ev at *
        go_simp
        all_goals first | done | omega | (intro _; omega) | go_arith
      · rintro e w2 ⟨rfl, g2⟩
        exact ⟨_, rfl, g2, rfl⟩
    · refine need_plain rfl (fun a w' hg hin => ?_)
      have e4 : a.eval (.tmp 4) = .pointer (some ⟨w.heap.size, 0, none⟩) := ins_ext hin 4 (by kernel_rfl)
      have z0 := (Below.cell hg (cell_lt y0)).trans y0
      have z1 := (Below.cell hg (cell_lt y1)).trans y1
      have z2 := (Below.cell hg (cell_lt y2)).trans y2
      have z3 := (Below.cell hg (cell_lt y3)).trans y3
      refine upon_val ?_ rfl
      clear hin hg
      have ek : ∀ x, a.eval (.const x) = x := fun _ => rfl
      have ef : ∀ f, a.eval (.func f) = .func (.func f) #[] #[] := fun _ => rfl
      generalize a.eval = ev at *
      go_simp
      all_goals first | done | omega | (intro _; omega) | go_arith
    · refine need_plain rfl (fun a w' hg hin => ?_)
      have e5 : a.eval (.tmp 5) = .pointer (some ⟨w.heap.size + 1, 0, none⟩) := ins_ext hin 5 (by kernel_rfl)
      have z0 := (Below.cell hg (cell_lt q0)).trans q0
      have z1 := (Below.cell hg (cell_lt q1)).trans q1
      have z2 := (Below.cell hg (cell_lt q2)).trans q2
      have z3 := (Below.cell hg (cell_lt q3)).trans q3
      refine upon_val ?_ rfl
      clear hin hg
      have ek : ∀ x, a.eval (.const x) = x := fun _ => rfl
      have ef : ∀ f, a.eval (.func f) = .func (.func f) #[] #[] := fun _ => rfl
      generalize a.eval = ev at *
      go_simp
      all_goals first | done | omega | (intro _; omega) | go_arith
    · refine need_plain rfl (fun a w' hg hin => ?_)
      have e16 : a.eval (.tmp 16) = .agg #[.int .i64 k, .int .i64 y, .int .i64 n, .slice ao l.length cp] := ins_on hin 3 (by kernel_rfl)
      have e17 : a.eval (.tmp 17) = .agg #[.int .i64 k', .int .i64 y', .int .i64 n', .slice ao' l'.length cp'] := ins_on hin 4 (by kernel_rfl)
      refine upon_call (f := 19) (args := #[.agg #[.int .i64 k, .int .i64 y, .int .i64 n, .slice ao l.length cp], .agg #[.int .i64 k', .int .i64 y', .int .i64 n', .slice ao' l'.length cp']]) ?_ ((rsame_any k y n k' y' n' l l' _ _ w' (bytes_grow hvW hg) (bytes_grow hqW hg)).mono ?_)
      · clear hin hg
        have ek : ∀ x, a.eval (.const x) = x := fun _ => rfl
        have ef : ∀ f, a.eval (.func f) = .func (.func f) #[] #[] := fun _ => rfl
        generalize a.eval = ev at *
        go_simp
        all_goals first | done | omega | (intro _; omega) | go_arith
      · rintro e w2 ⟨rfl, g2⟩
        exact ⟨_, rfl, g2, rfl⟩
    · refine need_plain rfl (fun a w' hg hin => ?_)
      have e15 : a.eval (.tmp 15) = .bool (sameB ⟨k, y, n, l⟩ ⟨k', y', n', l'⟩) := ins_on hin 2 (by kernel_rfl)
      have e18 : a.eval (.tmp 18) = .bool (sameB ⟨k, y, n, l⟩ ⟨k', y', n', l'⟩) := ins_on hin 5 (by kernel_rfl)
      refine upon_val ?_ rfl
      clear hin hg
      generalize sameB _ _ = sb at *
      have ek : ∀ x, a.eval (.const x) = x := fun _ => rfl
      have ef : ∀ f, a.eval (.func f) = .func (.func f) #[] #[] := fun _ => rfl
      generalize a.eval = ev at *
      go_simp
      all_goals first | done | omega | (intro _; omega) | go_arith
    · refine need_plain rfl (fun a w' hg hin => ?_)
      have e : a.eval (.tmp 19) = .bool false := ins_on hin 6 (by kernel_rfl)
      exact upon_move rfl e
    · refine need_yes 7 false rfl (fun a w' hin => ins_on hin 7 (by kernel_rfl)) (fun a w' hg hin => ?_)
      have e4 : a.eval (.tmp 4) = .pointer (some ⟨w.heap.size, 0, none⟩) := ins_ext hin 4 (by kernel_rfl)
      have z0 := (Below.cell hg (cell_lt y0)).trans y0
      have z1 := (Below.cell hg (cell_lt y1)).trans y1
      have z2 := (Below.cell hg (cell_lt y2)).trans y2
      have z3 := (Below.cell hg (cell_lt y3)).trans y3
      refine upon_val ?_ rfl
      clear hin hg
      have ek : ∀ x, a.eval (.const x) = x := fun _ => rfl
      have ef : ∀ f, a.eval (.func f) = .func (.func f) #[] #[] := fun _ => rfl
      generalize a.eval = ev at *
      go_simp
      all_goals first | done | omega | (intro _; omega) | go_arith
    · refine need_yes 7 false rfl (fun a w' hin => ins_on hin 7 (by kernel_rfl)) (fun a w' hg hin => ?_)
      have e21 : a.eval (.tmp 21) = .agg #[.int .i64 k, .int .i64 y, .int .i64 n, .slice ao l.length cp] := ins_on hin 8 (by kernel_rfl)
      refine upon_call (f := 20) (args := #[.agg #[.int .i64 k, .int .i64 y, .int .i64 n, .slice ao l.length cp]]) ?_ ((wrong_any k y n l _ w' (bytes_grow hvW hg)).mono ?_)
      · clear hin hg
        have ek : ∀ x, a.eval (.const x) = x := fun _ => rfl
        have ef : ∀ f, a.eval (.func f) = .func (.func f) #[] #[] := fun _ => rfl
        generalize a.eval = ev at *
        go_simp
        all_goals first | done | omega | (intro _; omega) | go_arith
      · rintro e w2 ⟨rfl, g2⟩
        exact ⟨_, rfl, g2, rfl⟩
    · refine need_yes 7 false rfl (fun a w' hin => ins_on hin 7 (by kernel_rfl)) (fun a w' hg hin => ?_)
      have e4 : a.eval (.tmp 4) = .pointer (some ⟨w.heap.size, 0, none⟩) := ins_ext hin 4 (by kernel_rfl)
      have z0 := (Below.cell hg (cell_lt y0)).trans y0
      have z1 := (Below.cell hg (cell_lt y1)).trans y1
      have z2 := (Below.cell hg (cell_lt y2)).trans y2
      have z3 := (Below.cell hg (cell_lt y3)).trans y3
      refine upon_val ?_ rfl
      clear hin hg
      have ek : ∀ x, a.eval (.const x) = x := fun _ => rfl
      have ef : ∀ f, a.eval (.func f) = .func (.func f) #[] #[] := fun _ => rfl
      generalize a.eval = ev at *
      go_simp
      all_goals first | done | omega | (intro _; omega) | go_arith
    · refine need_yes 7 false rfl (fun a w' hin => ins_on hin 7 (by kernel_rfl)) (fun a w' hg hin => ?_)
      have e23 : a.eval (.tmp 23) = .agg #[.int .i64 k, .int .i64 y, .int .i64 n, .slice ao l.length cp] := ins_on hin 10 (by kernel_rfl)
      refine upon_call (f := 21) (args := #[.agg #[.int .i64 k, .int .i64 y, .int .i64 n, .slice ao l.length cp]]) ?_ ((rwrong_any k y n l _ w' (bytes_grow hvW hg)).mono ?_)
      · clear hin hg
        have ek : ∀ x, a.eval (.const x) = x := fun _ => rfl
        have ef : ∀ f, a.eval (.func f) = .func (.func f) #[] #[] := fun _ => rfl
        generalize a.eval = ev at *
        go_simp
        all_goals first | done | omega | (intro _; omega) | go_arith
      · rintro e w2 ⟨rfl, g2⟩
        exact ⟨_, rfl, g2, rfl⟩
    · refine need_yes 7 false rfl (fun a w' hin => ins_on hin 7 (by kernel_rfl)) (fun a w' hg hin => ?_)
      have e22 : a.eval (.tmp 22) = .int .i64 (wrong ⟨k, y, n, l⟩) := ins_on hin 9 (by kernel_rfl)
      have e24 : a.eval (.tmp 24) = .int .i64 (wrong ⟨k, y, n, l⟩) := ins_on hin 11 (by kernel_rfl)
      refine upon_val ?_ rfl
      clear hin hg
      generalize wrong _ = wz at *
      have ek : ∀ x, a.eval (.const x) = x := fun _ => rfl
      have ef : ∀ f, a.eval (.func f) = .func (.func f) #[] #[] := fun _ => rfl
      generalize a.eval = ev at *
      go_simp
      all_goals first | done | omega | (intro _; omega) | go_arith
    · refine need_plain rfl (fun a w' hg hin => ?_)
      have ec : a.eval (.tmp 20) = .bool false := ins_on hin 7 (by kernel_rfl)
      have e : a.eval (.tmp 25) = .bool false := ins_on hin 12 (by kernel_rfl)
      exact upon_pick rfl ec e
    · refine need_plain rfl (fun a w' hg hin => ?_)
      have e : a.eval (.tmp 26) = .bool false := ins_on hin 13 (by kernel_rfl)
      exact upon_move rfl e
    · refine need_yes 14 false rfl (fun a w' hin => ins_on hin 14 (by kernel_rfl)) (fun a w' hg hin => ?_)
      have e4 : a.eval (.tmp 4) = .pointer (some ⟨w.heap.size, 0, none⟩) := ins_ext hin 4 (by kernel_rfl)
      have z0 := (Below.cell hg (cell_lt y0)).trans y0
      have z1 := (Below.cell hg (cell_lt y1)).trans y1
      have z2 := (Below.cell hg (cell_lt y2)).trans y2
      have z3 := (Below.cell hg (cell_lt y3)).trans y3
      refine upon_val ?_ rfl
      clear hin hg
      have ek : ∀ x, a.eval (.const x) = x := fun _ => rfl
      have ef : ∀ f, a.eval (.func f) = .func (.func f) #[] #[] := fun _ => rfl
      generalize a.eval = ev at *
      go_simp
      all_goals first | done | omega | (intro _; omega) | go_arith
    · refine need_yes 14 false rfl (fun a w' hin => ins_on hin 14 (by kernel_rfl)) (fun a w' hg hin => ?_)
      have e28 : a.eval (.tmp 28) = .agg #[.int .i64 k, .int .i64 y, .int .i64 n, .slice ao l.length cp] := ins_on hin 15 (by kernel_rfl)
      refine upon_call (f := 22) (args := #[.agg #[.int .i64 k, .int .i64 y, .int .i64 n, .slice ao l.length cp]]) ?_ ((own_any k y n l _ w' hm (bytes_grow hvW hg)).mono ?_)
      · clear hin hg
        have ek : ∀ x, a.eval (.const x) = x := fun _ => rfl
        have ef : ∀ f, a.eval (.func f) = .func (.func f) #[] #[] := fun _ => rfl
        generalize a.eval = ev at *
        go_simp
        all_goals first | done | omega | (intro _; omega) | go_arith
      · rintro e w2 ⟨d2, rfl, ho2, g2⟩
        exact ⟨_, rfl, g2, d2, rfl, own_mono ho2 (by omega)⟩
    · refine need_yes 14 false rfl (fun a w' hin => ins_on hin 14 (by kernel_rfl)) (fun a w' hg hin => ?_)
      have e4 : a.eval (.tmp 4) = .pointer (some ⟨w.heap.size, 0, none⟩) := ins_ext hin 4 (by kernel_rfl)
      have z0 := (Below.cell hg (cell_lt y0)).trans y0
      have z1 := (Below.cell hg (cell_lt y1)).trans y1
      have z2 := (Below.cell hg (cell_lt y2)).trans y2
      have z3 := (Below.cell hg (cell_lt y3)).trans y3
      refine upon_val ?_ rfl
      clear hin hg
      have ek : ∀ x, a.eval (.const x) = x := fun _ => rfl
      have ef : ∀ f, a.eval (.func f) = .func (.func f) #[] #[] := fun _ => rfl
      generalize a.eval = ev at *
      go_simp
      all_goals first | done | omega | (intro _; omega) | go_arith
    · refine need_yes 14 false rfl (fun a w' hin => ins_on hin 14 (by kernel_rfl)) (fun a w' hg hin => ?_)
      have e29 : (RecP 0 ⟨k, y, n, l⟩) (a.eval (.tmp 29)) w' := ins_on hin 16 (by kernel_rfl)
      have e30 : a.eval (.tmp 30) = .agg #[.int .i64 k, .int .i64 y, .int .i64 n, .slice ao l.length cp] := ins_on hin 17 (by kernel_rfl)
      obtain ⟨d2, hd1, hd2⟩ := e29
      refine upon_call (f := 19) (args := #[.agg #[.int .i64 k, .int .i64 y, .int .i64 n, d2], .agg #[.int .i64 k, .int .i64 y, .int .i64 n, .slice ao l.length cp]]) ?_ ((rsame_any k y n k y n l l _ _ w' (bytes_own hd2) (bytes_grow hvW hg)).mono ?_)
      · clear hin hg hd2
        have ek : ∀ x, a.eval (.const x) = x := fun _ => rfl
        have ef : ∀ f, a.eval (.func f) = .func (.func f) #[] #[] := fun _ => rfl
        generalize a.eval = ev at *
        go_simp
        all_goals first | done | omega | (intro _; omega) | go_arith
      · rw [sameB_refl]
        rintro e w2 ⟨rfl, g2⟩
        exact ⟨_, rfl, g2, rfl⟩
    · refine need_yes 14 false rfl (fun a w' hin => ins_on hin 14 (by kernel_rfl)) (fun a w' hg hin => ?_)
      have e31 : a.eval (.tmp 31) = .bool true := ins_on hin 18 (by kernel_rfl)
      refine upon_val ?_ rfl
      clear hin hg
      have ek : ∀ x, a.eval (.const x) = x := fun _ => rfl
      have ef : ∀ f, a.eval (.func f) = .func (.func f) #[] #[] := fun _ => rfl
      generalize a.eval = ev at *
      go_simp
      all_goals first | done | omega | (intro _; omega) | go_arith
    · refine need_plain rfl (fun a w' hg hin => ?_)
      have ec : a.eval (.tmp 27) = .bool false := ins_on hin 14 (by kernel_rfl)
      have e : a.eval (.tmp 32) = .bool false := ins_on hin 19 (by kernel_rfl)
      exact upon_pick rfl ec e
  · intro vs w' hg ht
    obtain ⟨q13, q14, q15, q16, q17, q18, q19, q20, q21, q22, q23, q24, q25, q26, q27, q28, q29, q30, q31, q32, q33, -⟩ := ht
    have r13 : vs 0 = .agg #[.int .i64 k, .int .i64 y, .int .i64 n, .slice ao l.length cp] := q13
    have r14 : vs 1 = .agg #[.int .i64 k', .int .i64 y', .int .i64 n', .slice ao' l'.length cp'] := q14
    have r15 : vs 2 = .bool (sameB ⟨k, y, n, l⟩ ⟨k', y', n', l'⟩) := q15
    have r16 : vs 3 = .agg #[.int .i64 k, .int .i64 y, .int .i64 n, .slice ao l.length cp] := q16
    have r17 : vs 4 = .agg #[.int .i64 k', .int .i64 y', .int .i64 n', .slice ao' l'.length cp'] := q17
    have r18 : vs 5 = .bool (sameB ⟨k, y, n, l⟩ ⟨k', y', n', l'⟩) := q18
    have r19 : vs 6 = .bool false := q19
    have r20 : vs 7 = .bool false := q20
    have r21 : vs 8 = .agg #[.int .i64 k, .int .i64 y, .int .i64 n, .slice ao l.length cp] := q21
    have r22 : vs 9 = .int .i64 (wrong ⟨k, y, n, l⟩) := q22
    have r23 : vs 10 = .agg #[.int .i64 k, .int .i64 y, .int .i64 n, .slice ao l.length cp] := q23
    have r24 : vs 11 = .int .i64 (wrong ⟨k, y, n, l⟩) := q24
    have r25 : vs 12 = .bool false := q25
    have r26 : vs 13 = .bool false := q26
    have r27 : vs 14 = .bool false := q27
    have r28 : vs 15 = .agg #[.int .i64 k, .int .i64 y, .int .i64 n, .slice ao l.length cp] := q28
    have r30 : vs 17 = .agg #[.int .i64 k, .int .i64 y, .int .i64 n, .slice ao l.length cp] := q30
    have r31 : vs 18 = .bool true := q31
    have r32 : vs 19 = .bool false := q32
    have r33 : vs 20 = .bool false := q33
    clear q13 q14 q15 q16 q17 q18 q19 q20 q21 q22 q23 q24 q25 q26 q27 q28 q30 q31 q32 q33
    simp only [putAll, Act.put, List.setIfInBounds_toArray, List.set_cons_zero, List.set_cons_succ, r13, r14, r15, r16, r17, r18, r19, r20, r21, r22, r23, r24, r25, r26, r27, r28, r30, r31, r32, r33]
    clear r13 r14 r15 r16 r17 r18 r19 r20 r21 r22 r23 r24 r25 r26 r27 r28 r30 r31 r32 r33
    have gW2 := gW.trans hg
    have hv2 := bytes_grow hvW hg
    have hbr2 := (hg.block _ (heap_lt hbr)).trans hbr
    clear q29 hg gW hvW hqW hbr hbq y0 y1 y2 y3 q0 q1 q2 q3 hq
    generalize vs _ = u29
    have y0 := box_cell hbr2 0 _ rfl
    have y1 := box_cell hbr2 1 _ rfl
    have y2 := box_cell hbr2 2 _ rfl
    have y3 := box_cell hbr2 3 _ rfl
    go_wp2_with fail
    refine wp_region_told [ex (.agg #[.int .i64 k, .int .i64 y, .int .i64 n, .slice ao l.length cp]), ex (.int .i64 0), ex (.bool true), ex (.bool true), ex (.int .i64 at_), ex (.bool true), ex (.bool true), ex (.bool true), ex (.int .i64 at_), ex (.bool true), ex (.bool true), ex (.bool true), ex (.agg #[.int .i64 k, .int .i64 y, .int .i64 n, .slice ao l.length cp]), ex (.int .i64 at_), (fun v w => Bytes w v (blk ⟨k, y, n, l⟩ at_)), ex (str (blk ⟨k, y, n, l⟩ at_)), ex (.agg #[.int .i64 k, .int .i64 y, .int .i64 n, .slice ao l.length cp]), ex (.int .i64 at_), (fun v w => Bytes w v (blk ⟨k, y, n, l⟩ at_)), ex (str (blk ⟨k, y, n, l⟩ at_)), ex (.bool false), ex (.bool false)] (by kernel_rfl) (by kernel_rfl) ⟨st_ex _, st_ex _, st_ex _, st_ex _, st_ex _, st_ex _, st_ex _, st_ex _, st_ex _, st_ex _, st_ex _, st_ex _, st_ex _, st_ex _, st_bytes _, st_ex _, st_ex _, st_ex _, st_bytes _, st_ex _, st_ex _, st_ex _, trivial⟩ ?_ ?_
    · refine ⟨?_, ?_, ?_, ?_, ?_, ?_, ?_, ?_, ?_, ?_, ?_, ?_, ?_, ?_, ?_, ?_, ?_, ?_, ?_, ?_, ?_, ?_, trivial⟩
      · refine need_plain rfl (fun a w' hg hin => ?_)
        have e4 : a.eval (.tmp 4) = .pointer (some ⟨w.heap.size, 0, none⟩) := ins_ext hin 4 (by kernel_rfl)
        have z0 := (Below.cell hg (cell_lt y0)).trans y0
        have z1 := (Below.cell hg (cell_lt y1)).trans y1
        have z2 := (Below.cell hg (cell_lt y2)).trans y2
        have z3 := (Below.cell hg (cell_lt y3)).trans y3
        refine upon_val ?_ rfl
        clear hin hg
        have ek : ∀ x, a.eval (.const x) = x := fun _ => rfl
        have ef : ∀ f, a.eval (.func f) = .func (.func f) #[] #[] := fun _ => rfl
        generalize a.eval = ev at *
        go_simp
        all_goals first | done | omega | (intro _; omega) | go_arith
      · refine need_plain rfl (fun a w' hg hin => ?_)
        have e34 : a.eval (.tmp 34) = .agg #[.int .i64 k, .int .i64 y, .int .i64 n, .slice ao l.length cp] := ins_on hin 0 (by kernel_rfl)
        refine upon_call (f := 21) (args := #[.agg #[.int .i64 k, .int .i64 y, .int .i64 n, .slice ao l.length cp]]) ?_ ((rwrong_any k y n l _ w' (bytes_grow hv2 hg)).mono ?_)
        · clear hin hg
          have ek : ∀ x, a.eval (.const x) = x := fun _ => rfl
          have ef : ∀ f, a.eval (.func f) = .func (.func f) #[] #[] := fun _ => rfl
          generalize a.eval = ev at *
          go_simp
          all_goals first | done | omega | (intro _; omega) | go_arith
        · rintro e w2 ⟨rfl, g2⟩
          exact ⟨_, rfl, g2, val_int HW.out⟩
      · refine need_plain rfl (fun a w' hg hin => ?_)
        have e35 : a.eval (.tmp 35) = .int .i64 0 := ins_on hin 1 (by kernel_rfl)
        refine upon_val ?_ rfl
        clear hin hg
        have ek : ∀ x, a.eval (.const x) = x := fun _ => rfl
        have ef : ∀ f, a.eval (.func f) = .func (.func f) #[] #[] := fun _ => rfl
        generalize a.eval = ev at *
        go_simp
        all_goals first | done | omega | (intro _; omega) | go_arith
      · refine need_plain rfl (fun a w' hg hin => ?_)
        have e : a.eval (.tmp 36) = .bool true := ins_on hin 2 (by kernel_rfl)
        exact upon_move rfl e
      · refine need_yes 3 true rfl (fun a w' hin => ins_on hin 3 (by kernel_rfl)) (fun a w' hg hin => ?_)
        have e : a.eval (.tmp 3) = .int .i64 at_ := ins_ext hin 3 (by kernel_rfl)
        exact upon_move rfl e
      · refine need_yes 3 true rfl (fun a w' hin => ins_on hin 3 (by kernel_rfl)) (fun a w' hg hin => ?_)
        have e38 : a.eval (.tmp 38) = .int .i64 at_ := ins_on hin 4 (by kernel_rfl)
        refine upon_val ?_ rfl
        clear hin hg
        have ek : ∀ x, a.eval (.const x) = x := fun _ => rfl
        have ef : ∀ f, a.eval (.func f) = .func (.func f) #[] #[] := fun _ => rfl
        generalize a.eval = ev at *
        go_simp
        all_goals first | done | omega | (intro _; omega) | go_arith
      · refine need_plain rfl (fun a w' hg hin => ?_)
        have ec : a.eval (.tmp 37) = .bool true := ins_on hin 3 (by kernel_rfl)
        have e : a.eval (.tmp 39) = .bool true := ins_on hin 5 (by kernel_rfl)
        exact upon_pick rfl ec e
      · refine need_plain rfl (fun a w' hg hin => ?_)
        have e : a.eval (.tmp 40) = .bool true := ins_on hin 6 (by kernel_rfl)
        exact upon_move rfl e
      · refine need_yes 7 true rfl (fun a w' hin => ins_on hin 7 (by kernel_rfl)) (fun a w' hg hin => ?_)
        have e : a.eval (.tmp 3) = .int .i64 at_ := ins_ext hin 3 (by kernel_rfl)
        exact upon_move rfl e
      · refine need_yes 7 true rfl (fun a w' hin => ins_on hin 7 (by kernel_rfl)) (fun a w' hg hin => ?_)
        have e42 : a.eval (.tmp 42) = .int .i64 at_ := ins_on hin 8 (by kernel_rfl)
        refine upon_val ?_ rfl
        clear hin hg
        have ek : ∀ x, a.eval (.const x) = x := fun _ => rfl
        have ef : ∀ f, a.eval (.func f) = .func (.func f) #[] #[] := fun _ => rfl
        generalize a.eval = ev at *
        go_simp
        all_goals first | done | omega | (intro _; omega) | go_arith
      · refine need_plain rfl (fun a w' hg hin => ?_)
        have ec : a.eval (.tmp 41) = .bool true := ins_on hin 7 (by kernel_rfl)
        have e : a.eval (.tmp 43) = .bool true := ins_on hin 9 (by kernel_rfl)
        exact upon_pick rfl ec e
      · refine need_plain rfl (fun a w' hg hin => ?_)
        have e : a.eval (.tmp 44) = .bool true := ins_on hin 10 (by kernel_rfl)
        exact upon_move rfl e
      · refine need_yes 11 true rfl (fun a w' hin => ins_on hin 11 (by kernel_rfl)) (fun a w' hg hin => ?_)
        have e4 : a.eval (.tmp 4) = .pointer (some ⟨w.heap.size, 0, none⟩) := ins_ext hin 4 (by kernel_rfl)
        have z0 := (Below.cell hg (cell_lt y0)).trans y0
        have z1 := (Below.cell hg (cell_lt y1)).trans y1
        have z2 := (Below.cell hg (cell_lt y2)).trans y2
        have z3 := (Below.cell hg (cell_lt y3)).trans y3
        refine upon_val ?_ rfl
        clear hin hg
        have ek : ∀ x, a.eval (.const x) = x := fun _ => rfl
        have ef : ∀ f, a.eval (.func f) = .func (.func f) #[] #[] := fun _ => rfl
        generalize a.eval = ev at *
        go_simp
        all_goals first | done | omega | (intro _; omega) | go_arith
      · refine need_yes 11 true rfl (fun a w' hin => ins_on hin 11 (by kernel_rfl)) (fun a w' hg hin => ?_)
        have e : a.eval (.tmp 3) = .int .i64 at_ := ins_ext hin 3 (by kernel_rfl)
        exact upon_move rfl e
      · refine need_yes 11 true rfl (fun a w' hin => ins_on hin 11 (by kernel_rfl)) (fun a w' hg hin => ?_)
        have e46 : a.eval (.tmp 46) = .agg #[.int .i64 k, .int .i64 y, .int .i64 n, .slice ao l.length cp] := ins_on hin 12 (by kernel_rfl)
        have e47 : a.eval (.tmp 47) = .int .i64 at_ := ins_on hin 13 (by kernel_rfl)
        refine upon_call (f := 23) (args := #[.agg #[.int .i64 k, .int .i64 y, .int .i64 n, .slice ao l.length cp], .int .i64 at_]) ?_ ((bbytes_ok k y n at_ l _ w' (bytes_grow hv2 hg) HW.out h0 h1).mono ?_)
        · clear hin hg
          have ek : ∀ x, a.eval (.const x) = x := fun _ => rfl
          have ef : ∀ f, a.eval (.func f) = .func (.func f) #[] #[] := fun _ => rfl
          generalize a.eval = ev at *
          go_simp
          all_goals first | done | omega | (intro _; omega) | go_arith
        · rintro e w2 ⟨v2, rfl, ho2, g2⟩
          exact ⟨_, rfl, g2, bytes_own ho2⟩
      · refine need_yes 11 true rfl (fun a w' hin => ins_on hin 11 (by kernel_rfl)) (fun a w' hg hin => ?_)
        have e48 : (fun v w => Bytes w v (blk ⟨k, y, n, l⟩ at_)) (a.eval (.tmp 48)) w' := ins_on hin 14 (by kernel_rfl)
        refine upon_val ?_ rfl
        have hrun := run_str w' _ _ e48
        clear hin hg e48
        have ek : ∀ x, a.eval (.const x) = x := fun _ => rfl
        have ef : ∀ f, a.eval (.func f) = .func (.func f) #[] #[] := fun _ => rfl
        generalize a.eval = ev at *
        go_simp
        all_goals first | done | omega | (intro _; omega) | go_arith
      · refine need_yes 11 true rfl (fun a w' hin => ins_on hin 11 (by kernel_rfl)) (fun a w' hg hin => ?_)
        have e4 : a.eval (.tmp 4) = .pointer (some ⟨w.heap.size, 0, none⟩) := ins_ext hin 4 (by kernel_rfl)
        have z0 := (Below.cell hg (cell_lt y0)).trans y0
        have z1 := (Below.cell hg (cell_lt y1)).trans y1
        have z2 := (Below.cell hg (cell_lt y2)).trans y2
        have z3 := (Below.cell hg (cell_lt y3)).trans y3
        refine upon_val ?_ rfl
        clear hin hg
        have ek : ∀ x, a.eval (.const x) = x := fun _ => rfl
        have ef : ∀ f, a.eval (.func f) = .func (.func f) #[] #[] := fun _ => rfl
        generalize a.eval = ev at *
        go_simp
        all_goals first | done | omega | (intro _; omega) | go_arith
      · refine need_yes 11 true rfl (fun a w' hin => ins_on hin 11 (by kernel_rfl)) (fun a w' hg hin => ?_)
        have e : a.eval (.tmp 3) = .int .i64 at_ := ins_ext hin 3 (by kernel_rfl)
        exact upon_move rfl e
      · refine need_yes 11 true rfl (fun a w' hin => ins_on hin 11 (by kernel_rfl)) (fun a w' hg hin => ?_)
        have e50 : a.eval (.tmp 50) = .agg #[.int .i64 k, .int .i64 y, .int .i64 n, .slice ao l.length cp] := ins_on hin 16 (by kernel_rfl)
        have e51 : a.eval (.tmp 51) = .int .i64 at_ := ins_on hin 17 (by kernel_rfl)
        refine upon_call (f := 24) (args := #[.agg #[.int .i64 k, .int .i64 y, .int .i64 n, .slice ao l.length cp], .int .i64 at_]) ?_ ((rbytes_ok k y n at_ l _ w' (bytes_grow hv2 hg) HW.out h0 h1).mono ?_)
        · clear hin hg
          have ek : ∀ x, a.eval (.const x) = x := fun _ => rfl
          have ef : ∀ f, a.eval (.func f) = .func (.func f) #[] #[] := fun _ => rfl
          generalize a.eval = ev at *
          go_simp
          all_goals first | done | omega | (intro _; omega) | go_arith
        · rintro e w2 ⟨v2, rfl, ho2, g2⟩
          exact ⟨_, rfl, g2, bytes_own ho2⟩
      · refine need_yes 11 true rfl (fun a w' hin => ins_on hin 11 (by kernel_rfl)) (fun a w' hg hin => ?_)
        have e52 : (fun v w => Bytes w v (blk ⟨k, y, n, l⟩ at_)) (a.eval (.tmp 52)) w' := ins_on hin 18 (by kernel_rfl)
        refine upon_val ?_ rfl
        have hrun := run_str w' _ _ e52
        clear hin hg e52
        have ek : ∀ x, a.eval (.const x) = x := fun _ => rfl
        have ef : ∀ f, a.eval (.func f) = .func (.func f) #[] #[] := fun _ => rfl
        generalize a.eval = ev at *
        go_simp
        all_goals first | done | omega | (intro _; omega) | go_arith
      · refine need_yes 11 true rfl (fun a w' hin => ins_on hin 11 (by kernel_rfl)) (fun a w' hg hin => ?_)
        have e49 : a.eval (.tmp 49) = str (blk ⟨k, y, n, l⟩ at_) := ins_on hin 15 (by kernel_rfl)
        have e53 : a.eval (.tmp 53) = str (blk ⟨k, y, n, l⟩ at_) := ins_on hin 19 (by kernel_rfl)
        refine upon_val ?_ rfl
        unfold str at e49 e53
        clear hin hg
        generalize blk _ _ = lz at *
        have ek : ∀ x, a.eval (.const x) = x := fun _ => rfl
        have ef : ∀ f, a.eval (.func f) = .func (.func f) #[] #[] := fun _ => rfl
        generalize a.eval = ev at *
        go_simp
        all_goals first | done | omega | (intro _; omega) | go_arith
      · refine need_plain rfl (fun a w' hg hin => ?_)
        have ec : a.eval (.tmp 45) = .bool true := ins_on hin 11 (by kernel_rfl)
        have e : a.eval (.tmp 54) = .bool false := ins_on hin 20 (by kernel_rfl)
        exact upon_pick rfl ec e
    · intro vs w' hg ht
      obtain ⟨q34, q35, q36, q37, q38, q39, q40, q41, q42, q43, q44, q45, q46, q47, q48, q49, q50, q51, q52, q53, q54, q55, -⟩ := ht
      have r34 : vs 0 = .agg #[.int .i64 k, .int .i64 y, .int .i64 n, .slice ao l.length cp] := q34
      have r35 : vs 1 = .int .i64 0 := q35
      have r36 : vs 2 = .bool true := q36
      have r37 : vs 3 = .bool true := q37
      have r38 : vs 4 = .int .i64 at_ := q38
      have r39 : vs 5 = .bool true := q39
      have r40 : vs 6 = .bool true := q40
      have r41 : vs 7 = .bool true := q41
      have r42 : vs 8 = .int .i64 at_ := q42
      have r43 : vs 9 = .bool true := q43
      have r44 : vs 10 = .bool true := q44
      have r45 : vs 11 = .bool true := q45
      have r46 : vs 12 = .agg #[.int .i64 k, .int .i64 y, .int .i64 n, .slice ao l.length cp] := q46
      have r47 : vs 13 = .int .i64 at_ := q47
      have r49 : vs 15 = str (blk ⟨k, y, n, l⟩ at_) := q49
      have r50 : vs 16 = .agg #[.int .i64 k, .int .i64 y, .int .i64 n, .slice ao l.length cp] := q50
      have r51 : vs 17 = .int .i64 at_ := q51
      have r53 : vs 19 = str (blk ⟨k, y, n, l⟩ at_) := q53
      have r54 : vs 20 = .bool false := q54
      have r55 : vs 21 = .bool false := q55
      clear q34 q35 q36 q37 q38 q39 q40 q41 q42 q43 q44 q45 q46 q47 q49 q50 q51 q53 q54 q55
      simp only [putAll, Act.put, List.setIfInBounds_toArray, List.set_cons_zero, List.set_cons_succ, r34, r35, r36, r37, r38, r39, r40, r41, r42, r43, r44, r45, r46, r47, r49, r50, r51, r53, r54, r55]
      clear r34 r35 r36 r37 r38 r39 r40 r41 r42 r43 r44 r45 r46 r47 r49 r50 r51 r53 r54 r55
      clear q48 q52
      have gt := gW2.trans hg
      have hb3 := bytes_grow hb gt
      clear hg gW2 hv2 hbr2 y0 y1 y2 y3
      go_wp2_with fail
      refine (read_any lb at_ _ _ hb3).mono ?_
      rintro e w4 ⟨d4, rfl, ho4, g4⟩
      have hb4 := bytes_grow hb3 g4
      have gw4 := gt.trans g4
      have hD4 := bytes_own ho4
      obtain ⟨ao4, cp4, rfl⟩ := own_slice ho4
      clear g4 ho4 hb3 gt
      generalize hrr : readR lb at_ = rr at *
      generalize hee : readE lb at_ = ee at *
      have HRR : Hid (readR lb at_ = rr) := hrr
      have HEE : Hid (readE lb at_ = ee) := hee
      clear hrr hee
      go_wp2_with fail
      refine (rread_any lb at_ _ _ (by exact bytes_grow hb4 (grow_alloc _ _))).mono ?_
      unfold ReadQ
      rw [HRR.out, HEE.out]
      rintro e w5 ⟨d5, rfl, ho5, g5⟩
      have g45 := (grow_alloc _ _).trans g5
      have hD5 := bytes_own ho5
      have hD45 := bytes_grow hD4 g45
      have gw5 := gw4.trans g45
      have hx5 : w5.heap[w4.heap.size]? = some (.cells #[.int .i64 rr.kind, .int .i64 rr.key, .int .i64 rr.ver, .slice ao4 rr.data.length cp4] 32 (0, 0)) := (g5.block _ (by simp)).trans (heap_new _ _ _)
      obtain ⟨ao5, cp5, rfl⟩ := own_slice ho5
      have x0 := box_cell hx5 0 _ rfl
      have x1 := box_cell hx5 1 _ rfl
      have x2 := box_cell hx5 2 _ rfl
      have x3 := box_cell hx5 3 _ rfl
      have hz5 := heap_lt hx5
      clear g5 ho5 hb4 gw4 hD4 g45 hx5
      go_wp2_with fail
      refine (rsame_any _ _ _ _ _ _ rr.data rr.data _ _ _ (by exact bytes_grow hD45 (grow_alloc _ _)) (by exact bytes_grow hD5 (grow_alloc _ _))).mono ?_
      rw [sameB_refl]
      rintro e w6 ⟨rfl, g6⟩
      go_wp2
      go_ret
      exact ⟨rfl, (gw5.trans (grow_alloc _ _)).trans g6⟩

theorem blocktells_any (k y n k' y' n' at_ : Int) (l l' lb : List UInt8) (v q u : Value) (w : World) (hv : Bytes w v l) (hq : Bytes w q l') (hb : Bytes w u lb) (hm : l.length ≤ 140737488355328) :
    Calls Try.prog 5 #[.agg #[.int .i64 k, .int .i64 y, .int .i64 n, v], .agg #[.int .i64 k', .int .i64 y', .int .i64 n', q], u, .int .i64 at_] w fun e w' => e = .returned (.bool true) ∧ Grow w w' := by
  obtain ⟨ao, cp, rfl, -, -⟩ := bytes_src hv
  obtain ⟨ao', cp', rfl, -, -⟩ := bytes_src hq
  obtain ⟨aob, cpb, rfl, -, -⟩ := bytes_src hb
  by_cases hw : wrong ⟨k, y, n, l⟩ = 0
  · by_cases h0 : at_ < 0
    · exact blocktells_low k y n k' y' n' at_ l l' lb ao ao' aob cp cp' cpb w hv hq hb hm hw h0
    · by_cases h1 : 256 ≤ at_
      · exact blocktells_high k y n k' y' n' at_ l l' lb ao ao' aob cp cp' cpb w hv hq hb hm hw h1
      · exact blocktells_in k y n k' y' n' at_ l l' lb ao ao' aob cp cp' cpb w hv hq hb hm hw (by omega) (by omega)
  · exact blocktells_wrong k y n k' y' n' at_ _ l l' lb ao ao' aob cp cp' cpb w hv hq hb hm rfl (by simpa using hw)
end Go.Proofs.Ytnngkckiehhdfaa
