/-
  sclaw3.DiskTells answers true for every disk, place, bytes and number.
  Condition: the disk and the bytes lie in memory, fewer than 2^47 blocks and writes.
-/
import Derived.Test.YtobhchebggaipaaRNew
import Derived.Test.YtobhchebggaipaaPKeep
import Derived.Test.YtobhchebggaipaaPSpoil
import Derived.Test.YtobhchebggaipaaRFlush
import Derived.Test.YtobhchebggaipaaRKeep
namespace Go.Proofs.Ytobhchebggaipaa
open Go.RowKit
open Go.Proofs.Ytobhchebggaipaa.Plain Go.Proofs.Ytobhchebggaipaa.Reg

/-- A disk, wherever it lies. -/
def DiskP (d : Dk) (v : Value) (w : World) : Prop := ∃ vb vl, v = .agg #[vb, vl] ∧ BlocksP w vb d.blocks ∧ LateP w vl d.late
theorem st_diskp (d : Dk) : Stable (DiskP d) := by
  rintro v w w' hg ⟨vb, vl, h1, h2, h3⟩; exact ⟨vb, vl, h1, h2.grow hg, h3.grow hg⟩
theorem DiskQ.p {B : Nat} {d : Dk} {v : Value} {w : World} (h : DiskQ B d v w) : DiskP d v w := by
  obtain ⟨vb, vl, h1, h2, h3⟩ := h; exact ⟨vb, vl, h1, h2.p, h3.p⟩
theorem DiskP.form {d : Dk} {v : Value} {w : World} (h : DiskP d v w) : ∃ ab cb al cl, v = .agg #[.slice ab d.blocks.length cb, .slice al d.late.length cl] ∧ BlocksP w (.slice ab d.blocks.length cb) d.blocks ∧ LateP w (.slice al d.late.length cl) d.late := by
  obtain ⟨vb, vl, h1, h2, h3⟩ := h
  obtain ⟨ab, cb, rfl⟩ := h2.form
  obtain ⟨al, cl, rfl⟩ := h3.form
  exact ⟨ab, cb, al, cl, h1, h2, h3⟩
theorem late_nil (w : World) : LateP w (.slice none 0 0) [] := .inl ⟨none, 0, rfl, rfl, fun _ => rfl⟩

theorem Dk.right_all {d : Dk} (h : d.right = true) : d.blocks.length = 12 ∧ d.late.length ≤ 40 ∧ (∀ x ∈ d.blocks, x.length ≤ 1000) ∧ (∀ x ∈ d.late, x.2.length ≤ 1000) ∧ (∀ x ∈ d.late, 0 ≤ x.1 ∧ x.1 < (d.blocks.length : Int)) := by
  refine ⟨Dk.right_len h, Dk.right_few h, fun x hx => ?_, fun x hx => ?_, fun x hx => ?_⟩
  · obtain ⟨i, hi, rfl⟩ := List.mem_iff_getElem.1 hx
    rw [Dk.right_block h i hi]; omega
  · obtain ⟨i, hi, rfl⟩ := List.mem_iff_getElem.1 hx
    rw [(Dk.right_late h i hi).2.2]; omega
  · obtain ⟨i, hi, rfl⟩ := List.mem_iff_getElem.1 hx
    exact ⟨(Dk.right_late h i hi).1, (Dk.right_late h i hi).2.1⟩
theorem Dk.putD_len (d : Dk) (a : Int) (l : List UInt8) : (d.putD a l).blocks = d.blocks ∧ (d.putD a l).late.length ≤ d.late.length + 1 := by
  unfold Dk.putD Dk.put
  split
  · exact ⟨rfl, by simp⟩
  · exact ⟨rfl, by omega⟩
theorem Dk.spoil_len (d : Dk) (a n y : Int) : (d.spoil a n y).blocks.length = d.blocks.length ∧ (d.spoil a n y).late = d.late := by
  unfold Dk.spoil
  split
  · exact ⟨by simp, rfl⟩
  · exact ⟨rfl, rfl⟩


set_option maxRecDepth 100000 in
set_option maxHeartbeats 4000000 in
theorem diskTells_any (d : Dk) (pa n : Int) (l : List UInt8) (vb vl v : Value) (w : World) (hb : BlocksP w vb d.blocks) (hl : LateP w vl d.late) (hv : Bytes w v l) :
    Calls Try.prog 8 #[.agg #[vb, vl], .int .i64 pa, v, .int .i64 n] w fun e w' => e = .returned (.bool true) ∧ Grow w w' := by
  obtain ⟨ab, cb, rfl⟩ := hb.form
  obtain ⟨al, cl, rfl⟩ := hl.form
  obtain ⟨av, cv, rfl, -, -⟩ := bytes_src hv
  have gW := grow_alloc w (.cells #[.slice ab d.blocks.length cb, .slice al d.late.length cl] 46)
  have hx := heap_new w #[.slice ab d.blocks.length cb, .slice al d.late.length cl] 46
  go_enter Try.func8, Try.ntmps8
  go_wp2_with fail
  refine (new_any _).mono ?_
  rintro e w1 ⟨v1, rfl, hQ1, g1⟩
  obtain ⟨ab1, cb1, al1, cl1, rfl, hb1, hl1⟩ := hQ1.p.form
  go_wp2_with fail
  refine (newDisk_any _).mono ?_
  rintro e w2 ⟨v2, rfl, hQ2, g2⟩
  obtain ⟨ab2, cb2, al2, cl2, rfl, hb2, hl2⟩ := hQ2.p.form
  go_wp2_with fail
  refine (sameDisk_any Dk.new Dk.new _ _ _ _ _ (hb1.grow g2) (hl1.grow g2) hb2 hl2 (by rw [new_len]; omega) (by show 0 ≤ _; omega)).mono ?_
  rw [Dk.same_refl]
  rintro e w3 ⟨rfl, g3⟩
  replace gW := gW.trans (g1.trans (g2.trans g3))
  replace hx := ((g1.trans (g2.trans g3)).block _ (heap_lt hx)).trans hx
  have y0 := box_cell hx 0 _ rfl
  have y1 := box_cell hx 1 _ rfl
  replace hb := hb.grow gW
  replace hl := hl.grow gW
  replace hv := bytes_grow hv gW
  clear g1 g2 g3 hb1 hl1 hb2 hl2 hQ1 hQ2
  generalize w.heap.size = g0 at *
  go_wp2_with fail
  refine (rightDisk_any d _ _ _ hb hl).mono ?_
  rintro e w4 ⟨rfl, g4⟩
  replace gW := gW.trans g4
  replace hx := (g4.block _ (heap_lt hx)).trans hx
  replace hb := hb.grow g4
  replace hl := hl.grow g4
  replace hv := bytes_grow hv g4
  clear y0 y1 g4
  have y0 := box_cell hx 0 _ rfl
  have y1 := box_cell hx 1 _ rfl
  by_cases hR : d.right = true
  · rw [hR]
    obtain ⟨h12, h40, hb16, hl16, hp⟩ := Dk.right_all hR
    have h12a : d.blocks.length ≤ 256 := by omega
    have h12b : 0 < d.blocks.length := by omega
    clear h12 hR
    have HP : Hid (∀ x ∈ d.late, 0 ≤ x.1 ∧ x.1 < (d.blocks.length : Int)) := hp
    clear hp
    go_wp2_with fail
    refine (put_any d pa l _ _ _ _ hb hl hv (by omega) (by omega) hb16 hl16).mono ?_
    rintro e w5 ⟨v5, rfl, hQ5, g5⟩
    obtain ⟨ab5, cb5, al5, cl5, rfl, hb5, hl5⟩ := hQ5.p.form
    clear hQ5 y0 y1
    have hx5 := heap_new w5 #[.slice ab5 (d.putD pa l).blocks.length cb5, .slice al5 (d.putD pa l).late.length cl5] 46
    have g6 := grow_alloc w5 (.cells #[.slice ab5 (d.putD pa l).blocks.length cb5, .slice al5 (d.putD pa l).late.length cl5] 46)
    replace gW := gW.trans (g5.trans g6)
    replace hx := ((g5.trans g6).block _ (heap_lt hx)).trans hx
    replace hb := hb.grow (g5.trans g6)
    replace hl := hl.grow (g5.trans g6)
    replace hv := bytes_grow hv (g5.trans g6)
    replace hb5 := hb5.grow g6
    replace hl5 := hl5.grow g6
    clear g5 g6
    have y0 := box_cell hx 0 _ rfl
    have y1 := box_cell hx 1 _ rfl
    obtain ⟨hE5, hF5⟩ := d.putD_len pa l
    have hD5 : (d.putD pa l).blocks.length ≤ 1000 := by rw [hE5]; omega
    have hD6 : (d.putD pa l).late.length ≤ 1000 := by omega
    have hpb := putBlock_any _ d pa l _ _ _ _ hb hl.s (bytes_s hv) (by omega)
    have HPB : Hid (d.blocks = (d.putD pa l).blocks) := hE5.symm
    clear hE5 hF5
    generalize hPE : d.putE pa l = pe at *
    generalize hPD : d.putD pa l = pd at *
    clear hPE hPD
    go_wp2_with fail
    refine hpb.mono ?_
    rintro e w6 ⟨vl6, rfl, hl6, g6⟩
    replace hl6 := hl6.p
    obtain ⟨al6, cl6, rfl⟩ := hl6.form
    clear hpb y0 y1
    have hx6 := heap_new w6 #[.slice ab d.blocks.length cb, .slice al6 pd.late.length cl6] 46
    have g7 := grow_alloc w6 (.cells #[.slice ab d.blocks.length cb, .slice al6 pd.late.length cl6] 46)
    replace gW := gW.trans (g6.trans g7)
    replace hx := ((g6.trans g7).block _ (heap_lt hx)).trans hx
    replace hx5 := ((g6.trans g7).block _ (heap_lt hx5)).trans hx5
    replace hb := hb.grow (g6.trans g7)
    replace hl := hl.grow (g6.trans g7)
    replace hv := bytes_grow hv (g6.trans g7)
    replace hb5 := hb5.grow (g6.trans g7)
    replace hl5 := hl5.grow (g6.trans g7)
    replace hl6 := hl6.grow g7
    clear g6 g7
    go_wp2_with fail
    generalize w5.heap.size = g5 at *
    generalize w6.heap.size = g6 at *
    generalize World.alloc w6 _ = W at *
    have y0 := box_cell hx 0 _ rfl
    have y1 := box_cell hx 1 _ rfl
    have p0 := box_cell hx5 0 _ rfl
    have p1 := box_cell hx5 1 _ rfl
    have q0 := box_cell hx6 0 _ rfl
    have q1 := box_cell hx6 1 _ rfl
    refine wp_region_told [ex (.int .i64 pe), ex (.int .i64 pe), ex (.bool false), ex (.bool false), ex (.agg #[.slice ab5 pd.blocks.length cb5, .slice al5 pd.late.length cl5]), ex (.agg #[.slice ab d.blocks.length cb, .slice al6 pd.late.length cl6]), ex (.bool true), ex (.bool false), ex (.bool false), ex (.bool false), ex (.agg #[.slice ab d.blocks.length cb, .slice al d.late.length cl]), (DiskP d), ex (.agg #[.slice ab d.blocks.length cb, .slice al d.late.length cl]), ex (.bool true), ex (.bool false), ex (.bool false)] (by kernel_rfl) (by kernel_rfl) ⟨st_ex _, st_ex _, st_ex _, st_ex _, st_ex _, st_ex _, st_ex _, st_ex _, st_ex _, st_ex _, st_ex _, st_diskp _, st_ex _, st_ex _, st_ex _, st_ex _, trivial⟩ ?_ ?_
    · refine ⟨?_, ?_, ?_, ?_, ?_, ?_, ?_, ?_, ?_, ?_, ?_, ?_, ?_, ?_, ?_, ?_, trivial⟩
      · refine need_plain rfl (fun a w' hg hin => ?_)
        have e : a.eval (.tmp 10) = .int .i64 pe := ins_ext hin 10 (by kernel_rfl)
        exact upon_move rfl e
      · refine need_plain rfl (fun a w' hg hin => ?_)
        have e : a.eval (.tmp 12) = .int .i64 pe := ins_ext hin 12 (by kernel_rfl)
        exact upon_move rfl e
      · refine need_plain rfl (fun a w' hg hin => ?_)
        have e36 : a.eval (.tmp 36) = .int .i64 pe := ins_on hin 0 (by kernel_rfl)
        have e37 : a.eval (.tmp 37) = .int .i64 pe := ins_on hin 1 (by kernel_rfl)
        refine upon_val ?_ rfl
        clear hin hg
        have ek : ∀ x, a.eval (.const x) = x := fun _ => rfl
        have ef : ∀ f, a.eval (.func f) = .func (.func f) #[] #[] := fun _ => rfl
        generalize a.eval = ev at *
        go_simp
        all_goals first | done | omega | (intro _; omega) | go_arith
      · refine need_plain rfl (fun a w' hg hin => ?_)
        have e : a.eval (.tmp 38) = .bool false := ins_on hin 2 (by kernel_rfl)
        exact upon_move rfl e
      · refine need_yes 3 false rfl (fun a w' hin => ins_on hin 3 (by kernel_rfl)) (fun a w' hg hin => ?_)
        have e9 : a.eval (.tmp 9) = .pointer (some ⟨g5, 0, none⟩) := ins_ext hin 9 (by kernel_rfl)
        have z0 := (Below.cell hg (cell_lt p0)).trans p0
        have z1 := (Below.cell hg (cell_lt p1)).trans p1
        refine upon_val ?_ rfl
        clear hin hg
        have ek : ∀ x, a.eval (.const x) = x := fun _ => rfl
        have ef : ∀ f, a.eval (.func f) = .func (.func f) #[] #[] := fun _ => rfl
        generalize a.eval = ev at *
        go_simp
        all_goals first | done | omega | (intro _; omega) | go_arith
      · refine need_yes 3 false rfl (fun a w' hin => ins_on hin 3 (by kernel_rfl)) (fun a w' hg hin => ?_)
        have e11 : a.eval (.tmp 11) = .pointer (some ⟨g6, 0, none⟩) := ins_ext hin 11 (by kernel_rfl)
        have z0 := (Below.cell hg (cell_lt q0)).trans q0
        have z1 := (Below.cell hg (cell_lt q1)).trans q1
        refine upon_val ?_ rfl
        clear hin hg
        have ek : ∀ x, a.eval (.const x) = x := fun _ => rfl
        have ef : ∀ f, a.eval (.func f) = .func (.func f) #[] #[] := fun _ => rfl
        generalize a.eval = ev at *
        go_simp
        all_goals first | done | omega | (intro _; omega) | go_arith
      · refine need_yes 3 false rfl (fun a w' hin => ins_on hin 3 (by kernel_rfl)) (fun a w' hg hin => ?_)
        have e40 : a.eval (.tmp 40) = .agg #[.slice ab5 pd.blocks.length cb5, .slice al5 pd.late.length cl5] := ins_on hin 4 (by kernel_rfl)
        have e41 : a.eval (.tmp 41) = .agg #[.slice ab d.blocks.length cb, .slice al6 pd.late.length cl6] := ins_on hin 5 (by kernel_rfl)
        refine upon_call (f := 31) (args := #[.agg #[.slice ab5 pd.blocks.length cb5, .slice al5 pd.late.length cl5], .agg #[.slice ab d.blocks.length cb, .slice al6 pd.late.length cl6]]) ?_ ((sameDisk_any pd pd _ _ _ _ w' (hb5.grow hg) (hl5.grow hg) (by rw [← HPB.out]; exact hb.grow hg) (hl6.grow hg) (by omega) (by omega)).mono ?_)
        · clear hin hg
          have ek : ∀ x, a.eval (.const x) = x := fun _ => rfl
          have ef : ∀ f, a.eval (.func f) = .func (.func f) #[] #[] := fun _ => rfl
          generalize a.eval = ev at *
          go_simp
          all_goals first | done | omega | (intro _; omega) | go_arith
        · rw [Dk.same_refl]
          rintro e w2 ⟨rfl, g2⟩
          exact ⟨_, rfl, g2, rfl⟩
      · refine need_yes 3 false rfl (fun a w' hin => ins_on hin 3 (by kernel_rfl)) (fun a w' hg hin => ?_)
        have e42 : a.eval (.tmp 42) = .bool true := ins_on hin 6 (by kernel_rfl)
        refine upon_val ?_ rfl
        clear hin hg
        have ek : ∀ x, a.eval (.const x) = x := fun _ => rfl
        have ef : ∀ f, a.eval (.func f) = .func (.func f) #[] #[] := fun _ => rfl
        generalize a.eval = ev at *
        go_simp
        all_goals first | done | omega | (intro _; omega) | go_arith
      · refine need_plain rfl (fun a w' hg hin => ?_)
        have ec : a.eval (.tmp 39) = .bool false := ins_on hin 3 (by kernel_rfl)
        have e : a.eval (.tmp 43) = .bool false := ins_on hin 7 (by kernel_rfl)
        exact upon_pick rfl ec e
      · refine need_plain rfl (fun a w' hg hin => ?_)
        have e : a.eval (.tmp 44) = .bool false := ins_on hin 8 (by kernel_rfl)
        exact upon_move rfl e
      · refine need_yes 9 false rfl (fun a w' hin => ins_on hin 9 (by kernel_rfl)) (fun a w' hg hin => ?_)
        have e4 : a.eval (.tmp 4) = .pointer (some ⟨g0, 0, none⟩) := ins_ext hin 4 (by kernel_rfl)
        have z0 := (Below.cell hg (cell_lt y0)).trans y0
        have z1 := (Below.cell hg (cell_lt y1)).trans y1
        refine upon_val ?_ rfl
        clear hin hg
        have ek : ∀ x, a.eval (.const x) = x := fun _ => rfl
        have ef : ∀ f, a.eval (.func f) = .func (.func f) #[] #[] := fun _ => rfl
        generalize a.eval = ev at *
        go_simp
        all_goals first | done | omega | (intro _; omega) | go_arith
      · refine need_yes 9 false rfl (fun a w' hin => ins_on hin 9 (by kernel_rfl)) (fun a w' hg hin => ?_)
        have e46 : a.eval (.tmp 46) = .agg #[.slice ab d.blocks.length cb, .slice al d.late.length cl] := ins_on hin 10 (by kernel_rfl)
        refine upon_call (f := 37) (args := #[.agg #[.slice ab d.blocks.length cb, .slice al d.late.length cl]]) ?_ ((ownDisk_any d _ _ w' (hb.grow hg) (hl.grow hg) (by omega) (by omega) hb16 hl16).mono ?_)
        · clear hin hg
          have ek : ∀ x, a.eval (.const x) = x := fun _ => rfl
          have ef : ∀ f, a.eval (.func f) = .func (.func f) #[] #[] := fun _ => rfl
          generalize a.eval = ev at *
          go_simp
          all_goals first | done | omega | (intro _; omega) | go_arith
        · rintro e w2 ⟨v2, rfl, hA, g2⟩
          exact ⟨_, rfl, g2, hA.q.p⟩
      · refine need_yes 9 false rfl (fun a w' hin => ins_on hin 9 (by kernel_rfl)) (fun a w' hg hin => ?_)
        have e4 : a.eval (.tmp 4) = .pointer (some ⟨g0, 0, none⟩) := ins_ext hin 4 (by kernel_rfl)
        have z0 := (Below.cell hg (cell_lt y0)).trans y0
        have z1 := (Below.cell hg (cell_lt y1)).trans y1
        refine upon_val ?_ rfl
        clear hin hg
        have ek : ∀ x, a.eval (.const x) = x := fun _ => rfl
        have ef : ∀ f, a.eval (.func f) = .func (.func f) #[] #[] := fun _ => rfl
        generalize a.eval = ev at *
        go_simp
        all_goals first | done | omega | (intro _; omega) | go_arith
      · refine need_yes 9 false rfl (fun a w' hin => ins_on hin 9 (by kernel_rfl)) (fun a w' hg hin => ?_)
        have e47 : (DiskP d) (a.eval (.tmp 47)) w' := ins_on hin 11 (by kernel_rfl)
        have e48 : a.eval (.tmp 48) = .agg #[.slice ab d.blocks.length cb, .slice al d.late.length cl] := ins_on hin 12 (by kernel_rfl)
        obtain ⟨ab1, cb1, al1, cl1, h47, hb1, hl1⟩ := DiskP.form e47
        refine upon_call (f := 31) (args := #[.agg #[.slice ab1 d.blocks.length cb1, .slice al1 d.late.length cl1], .agg #[.slice ab d.blocks.length cb, .slice al d.late.length cl]]) ?_ ((sameDisk_any d d _ _ _ _ w' hb1 hl1 (hb.grow hg) (hl.grow hg) (by omega) (by omega)).mono ?_)
        · clear hin hg hb1 hl1 e47
          have ek : ∀ x, a.eval (.const x) = x := fun _ => rfl
          have ef : ∀ f, a.eval (.func f) = .func (.func f) #[] #[] := fun _ => rfl
          generalize a.eval = ev at *
          go_simp
          all_goals first | done | omega | (intro _; omega) | go_arith
        · rw [Dk.same_refl]
          rintro e w2 ⟨rfl, g2⟩
          exact ⟨_, rfl, g2, rfl⟩
      · refine need_yes 9 false rfl (fun a w' hin => ins_on hin 9 (by kernel_rfl)) (fun a w' hg hin => ?_)
        have e49 : a.eval (.tmp 49) = .bool true := ins_on hin 13 (by kernel_rfl)
        refine upon_val ?_ rfl
        clear hin hg
        have ek : ∀ x, a.eval (.const x) = x := fun _ => rfl
        have ef : ∀ f, a.eval (.func f) = .func (.func f) #[] #[] := fun _ => rfl
        generalize a.eval = ev at *
        go_simp
        all_goals first | done | omega | (intro _; omega) | go_arith
      · refine need_plain rfl (fun a w' hg hin => ?_)
        have ec : a.eval (.tmp 45) = .bool false := ins_on hin 9 (by kernel_rfl)
        have e : a.eval (.tmp 50) = .bool false := ins_on hin 14 (by kernel_rfl)
        exact upon_pick rfl ec e
    · intro vs w' hg ht
      obtain ⟨q36, q37, q38, q39, q40, q41, q42, q43, q44, q45, q46, q47, q48, q49, q50, q51, -⟩ := ht
      have r36 : vs 0 = .int .i64 pe := q36
      have r37 : vs 1 = .int .i64 pe := q37
      have r38 : vs 2 = .bool false := q38
      have r39 : vs 3 = .bool false := q39
      have r40 : vs 4 = .agg #[.slice ab5 pd.blocks.length cb5, .slice al5 pd.late.length cl5] := q40
      have r41 : vs 5 = .agg #[.slice ab d.blocks.length cb, .slice al6 pd.late.length cl6] := q41
      have r42 : vs 6 = .bool true := q42
      have r43 : vs 7 = .bool false := q43
      have r44 : vs 8 = .bool false := q44
      have r45 : vs 9 = .bool false := q45
      have r46 : vs 10 = .agg #[.slice ab d.blocks.length cb, .slice al d.late.length cl] := q46
      have r48 : vs 12 = .agg #[.slice ab d.blocks.length cb, .slice al d.late.length cl] := q48
      have r49 : vs 13 = .bool true := q49
      have r50 : vs 14 = .bool false := q50
      have r51 : vs 15 = .bool false := q51
      clear q36 q37 q38 q39 q40 q41 q42 q43 q44 q45 q46 q48 q49 q50 q51
      simp only [putAll, Act.put, List.setIfInBounds_toArray, List.set_cons_zero, List.set_cons_succ, r36, r37, r38, r39, r40, r41, r42, r43, r44, r45, r46, r48, r49, r50, r51]
      clear r36 r37 r38 r39 r40 r41 r42 r43 r44 r45 r46 r48 r49 r50 r51
      replace gW := gW.trans hg
      replace hx := (hg.block _ (heap_lt hx)).trans hx
      replace hb := hb.grow hg
      replace hl := hl.grow hg
      replace hv := bytes_grow hv hg
      clear y0 y1 p0 p1 q0 q1 hb5 hl5 hl6 hx5 hx6 hg q47
      generalize vs 11 = u11
      have y0 := box_cell hx 0 _ rfl
      have y1 := box_cell hx 1 _ rfl
      go_wp2_with fail
      refine (get_any d pa _ _ _ hb hl (by omega) hb16 hl16).mono ?_
      rintro e w7 ⟨v7, rfl, ho7, g7⟩
      have hp7 := bytes_own ho7
      obtain ⟨a7, c7, rfl⟩ := own_slice ho7
      replace gW := gW.trans g7
      replace hx := (g7.block _ (heap_lt hx)).trans hx
      replace hb := hb.grow g7
      replace hl := hl.grow g7
      replace hv := bytes_grow hv g7
      clear y0 y1 g7 ho7
      have y0 := box_cell hx 0 _ rfl
      have y1 := box_cell hx 1 _ rfl
      have hgb := getBlock_any _ d pa _ _ _ hb.s hl.s (by omega)
      generalize (d.get pa).getD [] = L at *
      generalize d.getE pa = ge at *
      go_wp2_with fail
      refine hgb.mono ?_
      rintro e w8 ⟨v8, rfl, hq8, g8⟩
      replace hq8 := hq8.p
      obtain ⟨a8, c8, rfl, -, -⟩ := bytes_src hq8
      replace gW := gW.trans g8
      replace hx := (g8.block _ (heap_lt hx)).trans hx
      replace hb := hb.grow g8
      replace hl := hl.grow g8
      replace hv := bytes_grow hv g8
      replace hp7 := bytes_grow hp7 g8
      clear y0 y1 g8 hgb
      have y0 := box_cell hx 0 _ rfl
      have y1 := box_cell hx 1 _ rfl
      have hK1 : (d.keep n).blocks.length = d.blocks.length := d.keepTo_length _ _
      have hK2 : d.flush.blocks.length = d.blocks.length := d.keepTo_length _ _
      have hK3 := d.spoil_len pa n (l.length : Int)
      have HS3 : Hid ((d.spoil pa n (l.length : Int)).late = d.late) := hK3.2
      replace hK3 := hK3.1
      go_wp2_with fail
      refine wp_region_told [ex (.int .i64 ge), ex (.int .i64 ge), ex (.bool true), ex (.bool true), ex (.slice a7 L.length c7), ex (str L), ex (.slice a8 L.length c8), ex (str L), ex (.bool true), ex (.bool true), ex (.bool true), ex (.agg #[.slice ab d.blocks.length cb, .slice al d.late.length cl]), ex (.int .i64 n), (DiskP (d.keep n)), ex (.agg #[.slice ab d.blocks.length cb, .slice al d.late.length cl]), ex (.int .i64 n), (DiskP (d.keep n)), ex (.bool true), ex (.bool true), ex (.bool true), ex (.agg #[.slice ab d.blocks.length cb, .slice al d.late.length cl]), (DiskP d.flush), ex (.agg #[.slice ab d.blocks.length cb, .slice al d.late.length cl]), (DiskP d.flush), ex (.bool true), ex (.bool true), ex (.bool true), ex (.agg #[.slice ab d.blocks.length cb, .slice al d.late.length cl]), ex (.int .i64 pa), ex (.int .i64 n), ex (.slice av l.length cv), ex (.int .i64 (l.length : Int)), (DiskP (d.spoil pa n (l.length : Int))), ex (.agg #[.slice ab d.blocks.length cb, .slice al d.late.length cl]), ex (.int .i64 pa), ex (.int .i64 n), ex (.slice av l.length cv), ex (.int .i64 (l.length : Int)), (DiskP (d.spoil pa n (l.length : Int))), ex (.bool true), ex (.bool true), ex (.bool true)] (by kernel_rfl) (by kernel_rfl) ⟨st_ex _, st_ex _, st_ex _, st_ex _, st_ex _, st_ex _, st_ex _, st_ex _, st_ex _, st_ex _, st_ex _, st_ex _, st_ex _, st_diskp _, st_ex _, st_ex _, st_diskp _, st_ex _, st_ex _, st_ex _, st_ex _, st_diskp _, st_ex _, st_diskp _, st_ex _, st_ex _, st_ex _, st_ex _, st_ex _, st_ex _, st_ex _, st_ex _, st_diskp _, st_ex _, st_ex _, st_ex _, st_ex _, st_ex _, st_diskp _, st_ex _, st_ex _, st_ex _, trivial⟩ ?_ ?_
      · refine ⟨?_, ?_, ?_, ?_, ?_, ?_, ?_, ?_, ?_, ?_, ?_, ?_, ?_, ?_, ?_, ?_, ?_, ?_, ?_, ?_, ?_, ?_, ?_, ?_, ?_, ?_, ?_, ?_, ?_, ?_, ?_, ?_, ?_, ?_, ?_, ?_, ?_, ?_, ?_, ?_, ?_, ?_, trivial⟩
        · refine need_plain rfl (fun a w' hg hin => ?_)
          have e : a.eval (.tmp 10) = .int .i64 ge := ins_ext hin 10 (by kernel_rfl)
          exact upon_move rfl e
        · refine need_plain rfl (fun a w' hg hin => ?_)
          have e : a.eval (.tmp 12) = .int .i64 ge := ins_ext hin 12 (by kernel_rfl)
          exact upon_move rfl e
        · refine need_plain rfl (fun a w' hg hin => ?_)
          have e64 : a.eval (.tmp 64) = .int .i64 ge := ins_on hin 0 (by kernel_rfl)
          have e65 : a.eval (.tmp 65) = .int .i64 ge := ins_on hin 1 (by kernel_rfl)
          refine upon_val ?_ rfl
          clear hin hg
          have ek : ∀ x, a.eval (.const x) = x := fun _ => rfl
          have ef : ∀ f, a.eval (.func f) = .func (.func f) #[] #[] := fun _ => rfl
          generalize a.eval = ev at *
          go_simp
          all_goals first | done | omega | (intro _; omega) | go_arith
        · refine need_plain rfl (fun a w' hg hin => ?_)
          have e : a.eval (.tmp 66) = .bool true := ins_on hin 2 (by kernel_rfl)
          exact upon_move rfl e
        · refine need_yes 3 true rfl (fun a w' hin => ins_on hin 3 (by kernel_rfl)) (fun a w' hg hin => ?_)
          have e : a.eval (.tmp 13) = .slice a7 L.length c7 := ins_ext hin 13 (by kernel_rfl)
          exact upon_move rfl e
        · refine need_yes 3 true rfl (fun a w' hin => ins_on hin 3 (by kernel_rfl)) (fun a w' hg hin => ?_)
          have e68 : a.eval (.tmp 68) = .slice a7 L.length c7 := ins_on hin 4 (by kernel_rfl)
          refine upon_val ?_ rfl
          have hrun := run_str w' _ _ (bytes_grow hp7 hg)
          clear hin hg
          have ek : ∀ x, a.eval (.const x) = x := fun _ => rfl
          have ef : ∀ f, a.eval (.func f) = .func (.func f) #[] #[] := fun _ => rfl
          generalize a.eval = ev at *
          go_simp
          all_goals first | done | omega | (intro _; omega) | go_arith
        · refine need_yes 3 true rfl (fun a w' hin => ins_on hin 3 (by kernel_rfl)) (fun a w' hg hin => ?_)
          have e : a.eval (.tmp 14) = .slice a8 L.length c8 := ins_ext hin 14 (by kernel_rfl)
          exact upon_move rfl e
        · refine need_yes 3 true rfl (fun a w' hin => ins_on hin 3 (by kernel_rfl)) (fun a w' hg hin => ?_)
          have e70 : a.eval (.tmp 70) = .slice a8 L.length c8 := ins_on hin 6 (by kernel_rfl)
          refine upon_val ?_ rfl
          have hrun := run_str w' _ _ (bytes_grow hq8 hg)
          clear hin hg
          have ek : ∀ x, a.eval (.const x) = x := fun _ => rfl
          have ef : ∀ f, a.eval (.func f) = .func (.func f) #[] #[] := fun _ => rfl
          generalize a.eval = ev at *
          go_simp
          all_goals first | done | omega | (intro _; omega) | go_arith
        · refine need_yes 3 true rfl (fun a w' hin => ins_on hin 3 (by kernel_rfl)) (fun a w' hg hin => ?_)
          have e69 : a.eval (.tmp 69) = str L := ins_on hin 5 (by kernel_rfl)
          have e71 : a.eval (.tmp 71) = str L := ins_on hin 7 (by kernel_rfl)
          refine upon_val ?_ rfl
          unfold str at e69 e71
          clear hin hg
          have ek : ∀ x, a.eval (.const x) = x := fun _ => rfl
          have ef : ∀ f, a.eval (.func f) = .func (.func f) #[] #[] := fun _ => rfl
          generalize a.eval = ev at *
          go_simp
          all_goals first | done | omega | (intro _; omega) | go_arith
        · refine need_plain rfl (fun a w' hg hin => ?_)
          have ec : a.eval (.tmp 67) = .bool true := ins_on hin 3 (by kernel_rfl)
          have e : a.eval (.tmp 72) = .bool true := ins_on hin 8 (by kernel_rfl)
          exact upon_pick rfl ec e
        · refine need_plain rfl (fun a w' hg hin => ?_)
          have e : a.eval (.tmp 73) = .bool true := ins_on hin 9 (by kernel_rfl)
          exact upon_move rfl e
        · refine need_yes 10 true rfl (fun a w' hin => ins_on hin 10 (by kernel_rfl)) (fun a w' hg hin => ?_)
          have e4 : a.eval (.tmp 4) = .pointer (some ⟨g0, 0, none⟩) := ins_ext hin 4 (by kernel_rfl)
          have z0 := (Below.cell hg (cell_lt y0)).trans y0
          have z1 := (Below.cell hg (cell_lt y1)).trans y1
          refine upon_val ?_ rfl
          clear hin hg
          have ek : ∀ x, a.eval (.const x) = x := fun _ => rfl
          have ef : ∀ f, a.eval (.func f) = .func (.func f) #[] #[] := fun _ => rfl
          generalize a.eval = ev at *
          go_simp
          all_goals first | done | omega | (intro _; omega) | go_arith
        · refine need_yes 10 true rfl (fun a w' hin => ins_on hin 10 (by kernel_rfl)) (fun a w' hg hin => ?_)
          have e : a.eval (.tmp 3) = .int .i64 n := ins_ext hin 3 (by kernel_rfl)
          exact upon_move rfl e
        · refine need_yes 10 true rfl (fun a w' hin => ins_on hin 10 (by kernel_rfl)) (fun a w' hg hin => ?_)
          have e75 : a.eval (.tmp 75) = .agg #[.slice ab d.blocks.length cb, .slice al d.late.length cl] := ins_on hin 11 (by kernel_rfl)
          have e76 : a.eval (.tmp 76) = .int .i64 n := ins_on hin 12 (by kernel_rfl)
          refine upon_call (f := 40) (args := #[.agg #[.slice ab d.blocks.length cb, .slice al d.late.length cl], .int .i64 n]) ?_ ((keepP_any d n _ _ w' (hb.grow hg) (hl.grow hg) (by omega) (by omega) (by omega) hb16 hl16 HP.out).mono ?_)
          · clear hin hg
            have ek : ∀ x, a.eval (.const x) = x := fun _ => rfl
            have ef : ∀ f, a.eval (.func f) = .func (.func f) #[] #[] := fun _ => rfl
            generalize a.eval = ev at *
            go_simp
            all_goals first | done | omega | (intro _; omega) | go_arith
          · rintro e w2 ⟨v2, rfl, hA, g2⟩
            exact ⟨_, rfl, g2, hA.p⟩
        · refine need_yes 10 true rfl (fun a w' hin => ins_on hin 10 (by kernel_rfl)) (fun a w' hg hin => ?_)
          have e4 : a.eval (.tmp 4) = .pointer (some ⟨g0, 0, none⟩) := ins_ext hin 4 (by kernel_rfl)
          have z0 := (Below.cell hg (cell_lt y0)).trans y0
          have z1 := (Below.cell hg (cell_lt y1)).trans y1
          refine upon_val ?_ rfl
          clear hin hg
          have ek : ∀ x, a.eval (.const x) = x := fun _ => rfl
          have ef : ∀ f, a.eval (.func f) = .func (.func f) #[] #[] := fun _ => rfl
          generalize a.eval = ev at *
          go_simp
          all_goals first | done | omega | (intro _; omega) | go_arith
        · refine need_yes 10 true rfl (fun a w' hin => ins_on hin 10 (by kernel_rfl)) (fun a w' hg hin => ?_)
          have e : a.eval (.tmp 3) = .int .i64 n := ins_ext hin 3 (by kernel_rfl)
          exact upon_move rfl e
        · refine need_yes 10 true rfl (fun a w' hin => ins_on hin 10 (by kernel_rfl)) (fun a w' hg hin => ?_)
          have e78 : a.eval (.tmp 78) = .agg #[.slice ab d.blocks.length cb, .slice al d.late.length cl] := ins_on hin 14 (by kernel_rfl)
          have e79 : a.eval (.tmp 79) = .int .i64 n := ins_on hin 15 (by kernel_rfl)
          refine upon_call (f := 41) (args := #[.agg #[.slice ab d.blocks.length cb, .slice al d.late.length cl], .int .i64 n]) ?_ ((keep_any (fun b => b < w'.heap.size) d n _ _ w' (fun b h => h) (hb.grow hg).s (hl.grow hg).s (by omega) (by omega) (by omega) HP.out).mono ?_)
          · clear hin hg
            have ek : ∀ x, a.eval (.const x) = x := fun _ => rfl
            have ef : ∀ f, a.eval (.func f) = .func (.func f) #[] #[] := fun _ => rfl
            generalize a.eval = ev at *
            go_simp
            all_goals first | done | omega | (intro _; omega) | go_arith
          · rintro e w2 ⟨v2, rfl, hA, g2⟩
            exact ⟨_, rfl, g2, _, _, rfl, hA.p, late_nil _⟩
        · refine need_yes 10 true rfl (fun a w' hin => ins_on hin 10 (by kernel_rfl)) (fun a w' hg hin => ?_)
          have e77 : (DiskP (d.keep n)) (a.eval (.tmp 77)) w' := ins_on hin 13 (by kernel_rfl)
          have e80 : (DiskP (d.keep n)) (a.eval (.tmp 80)) w' := ins_on hin 16 (by kernel_rfl)
          obtain ⟨ab1, cb1, al1, cl1, h77, hb1, hl1⟩ := DiskP.form e77
          obtain ⟨ab2, cb2, al2, cl2, h80, hb2, hl2⟩ := DiskP.form e80
          have hKl : (d.keep n).late.length ≤ 1000 := by show 0 ≤ _; omega
          clear e77 e80
          generalize d.keep n = D1 at *
          refine upon_call (f := 31) (args := #[.agg #[.slice ab1 D1.blocks.length cb1, .slice al1 D1.late.length cl1], .agg #[.slice ab2 D1.blocks.length cb2, .slice al2 D1.late.length cl2]]) ?_ ((sameDisk_any D1 D1 _ _ _ _ w' hb1 hl1 hb2 hl2 (by omega) (by omega)).mono ?_)
          · clear hin hg hb1 hb2 hl1 hl2
            have ek : ∀ x, a.eval (.const x) = x := fun _ => rfl
            have ef : ∀ f, a.eval (.func f) = .func (.func f) #[] #[] := fun _ => rfl
            generalize a.eval = ev at *
            go_simp
            all_goals first | done | omega | (intro _; omega) | go_arith
          · rw [Dk.same_refl]
            rintro e w2 ⟨rfl, g2⟩
            exact ⟨_, rfl, g2, rfl⟩
        · refine need_plain rfl (fun a w' hg hin => ?_)
          have ec : a.eval (.tmp 74) = .bool true := ins_on hin 10 (by kernel_rfl)
          have e : a.eval (.tmp 81) = .bool true := ins_on hin 17 (by kernel_rfl)
          exact upon_pick rfl ec e
        · refine need_plain rfl (fun a w' hg hin => ?_)
          have e : a.eval (.tmp 82) = .bool true := ins_on hin 18 (by kernel_rfl)
          exact upon_move rfl e
        · refine need_yes 19 true rfl (fun a w' hin => ins_on hin 19 (by kernel_rfl)) (fun a w' hg hin => ?_)
          have e4 : a.eval (.tmp 4) = .pointer (some ⟨g0, 0, none⟩) := ins_ext hin 4 (by kernel_rfl)
          have z0 := (Below.cell hg (cell_lt y0)).trans y0
          have z1 := (Below.cell hg (cell_lt y1)).trans y1
          refine upon_val ?_ rfl
          clear hin hg
          have ek : ∀ x, a.eval (.const x) = x := fun _ => rfl
          have ef : ∀ f, a.eval (.func f) = .func (.func f) #[] #[] := fun _ => rfl
          generalize a.eval = ev at *
          go_simp
          all_goals first | done | omega | (intro _; omega) | go_arith
        · refine need_yes 19 true rfl (fun a w' hin => ins_on hin 19 (by kernel_rfl)) (fun a w' hg hin => ?_)
          have e84 : a.eval (.tmp 84) = .agg #[.slice ab d.blocks.length cb, .slice al d.late.length cl] := ins_on hin 20 (by kernel_rfl)
          refine upon_call (f := 42) (args := #[.agg #[.slice ab d.blocks.length cb, .slice al d.late.length cl]]) ?_ ((flushP_any d _ _ w' (hb.grow hg) (hl.grow hg) (by omega) (by omega) (by omega) hb16 hl16 HP.out).mono ?_)
          · clear hin hg
            have ek : ∀ x, a.eval (.const x) = x := fun _ => rfl
            have ef : ∀ f, a.eval (.func f) = .func (.func f) #[] #[] := fun _ => rfl
            generalize a.eval = ev at *
            go_simp
            all_goals first | done | omega | (intro _; omega) | go_arith
          · rintro e w2 ⟨v2, rfl, hA, g2⟩
            exact ⟨_, rfl, g2, hA.p⟩
        · refine need_yes 19 true rfl (fun a w' hin => ins_on hin 19 (by kernel_rfl)) (fun a w' hg hin => ?_)
          have e4 : a.eval (.tmp 4) = .pointer (some ⟨g0, 0, none⟩) := ins_ext hin 4 (by kernel_rfl)
          have z0 := (Below.cell hg (cell_lt y0)).trans y0
          have z1 := (Below.cell hg (cell_lt y1)).trans y1
          refine upon_val ?_ rfl
          clear hin hg
          have ek : ∀ x, a.eval (.const x) = x := fun _ => rfl
          have ef : ∀ f, a.eval (.func f) = .func (.func f) #[] #[] := fun _ => rfl
          generalize a.eval = ev at *
          go_simp
          all_goals first | done | omega | (intro _; omega) | go_arith
        · refine need_yes 19 true rfl (fun a w' hin => ins_on hin 19 (by kernel_rfl)) (fun a w' hg hin => ?_)
          have e86 : a.eval (.tmp 86) = .agg #[.slice ab d.blocks.length cb, .slice al d.late.length cl] := ins_on hin 22 (by kernel_rfl)
          refine upon_call (f := 43) (args := #[.agg #[.slice ab d.blocks.length cb, .slice al d.late.length cl]]) ?_ ((flush_any (fun b => b < w'.heap.size) d _ _ w' (fun b h => h) (hb.grow hg).s (hl.grow hg).s (by omega) (by omega) (fun x hx => (HP.out x hx).1)).mono ?_)
          · clear hin hg
            have ek : ∀ x, a.eval (.const x) = x := fun _ => rfl
            have ef : ∀ f, a.eval (.func f) = .func (.func f) #[] #[] := fun _ => rfl
            generalize a.eval = ev at *
            go_simp
            all_goals first | done | omega | (intro _; omega) | go_arith
          · rintro e w2 ⟨v2, rfl, hA, g2⟩
            exact ⟨_, rfl, g2, _, _, rfl, hA.p, late_nil _⟩
        · refine need_yes 19 true rfl (fun a w' hin => ins_on hin 19 (by kernel_rfl)) (fun a w' hg hin => ?_)
          have e85 : (DiskP d.flush) (a.eval (.tmp 85)) w' := ins_on hin 21 (by kernel_rfl)
          have e87 : (DiskP d.flush) (a.eval (.tmp 87)) w' := ins_on hin 23 (by kernel_rfl)
          obtain ⟨ab1, cb1, al1, cl1, h85, hb1, hl1⟩ := DiskP.form e85
          obtain ⟨ab2, cb2, al2, cl2, h87, hb2, hl2⟩ := DiskP.form e87
          have hKl : d.flush.late.length ≤ 1000 := by show 0 ≤ _; omega
          clear e85 e87
          generalize d.flush = D1 at *
          refine upon_call (f := 31) (args := #[.agg #[.slice ab1 D1.blocks.length cb1, .slice al1 D1.late.length cl1], .agg #[.slice ab2 D1.blocks.length cb2, .slice al2 D1.late.length cl2]]) ?_ ((sameDisk_any D1 D1 _ _ _ _ w' hb1 hl1 hb2 hl2 (by omega) (by omega)).mono ?_)
          · clear hin hg hb1 hb2 hl1 hl2
            have ek : ∀ x, a.eval (.const x) = x := fun _ => rfl
            have ef : ∀ f, a.eval (.func f) = .func (.func f) #[] #[] := fun _ => rfl
            generalize a.eval = ev at *
            go_simp
            all_goals first | done | omega | (intro _; omega) | go_arith
          · rw [Dk.same_refl]
            rintro e w2 ⟨rfl, g2⟩
            exact ⟨_, rfl, g2, rfl⟩
        · refine need_plain rfl (fun a w' hg hin => ?_)
          have ec : a.eval (.tmp 83) = .bool true := ins_on hin 19 (by kernel_rfl)
          have e : a.eval (.tmp 88) = .bool true := ins_on hin 24 (by kernel_rfl)
          exact upon_pick rfl ec e
        · refine need_plain rfl (fun a w' hg hin => ?_)
          have e : a.eval (.tmp 89) = .bool true := ins_on hin 25 (by kernel_rfl)
          exact upon_move rfl e
        · refine need_yes 26 true rfl (fun a w' hin => ins_on hin 26 (by kernel_rfl)) (fun a w' hg hin => ?_)
          have e4 : a.eval (.tmp 4) = .pointer (some ⟨g0, 0, none⟩) := ins_ext hin 4 (by kernel_rfl)
          have z0 := (Below.cell hg (cell_lt y0)).trans y0
          have z1 := (Below.cell hg (cell_lt y1)).trans y1
          refine upon_val ?_ rfl
          clear hin hg
          have ek : ∀ x, a.eval (.const x) = x := fun _ => rfl
          have ef : ∀ f, a.eval (.func f) = .func (.func f) #[] #[] := fun _ => rfl
          generalize a.eval = ev at *
          go_simp
          all_goals first | done | omega | (intro _; omega) | go_arith
        · refine need_yes 26 true rfl (fun a w' hin => ins_on hin 26 (by kernel_rfl)) (fun a w' hg hin => ?_)
          have e : a.eval (.tmp 1) = .int .i64 pa := ins_ext hin 1 (by kernel_rfl)
          exact upon_move rfl e
        · refine need_yes 26 true rfl (fun a w' hin => ins_on hin 26 (by kernel_rfl)) (fun a w' hg hin => ?_)
          have e : a.eval (.tmp 3) = .int .i64 n := ins_ext hin 3 (by kernel_rfl)
          exact upon_move rfl e
        · refine need_yes 26 true rfl (fun a w' hin => ins_on hin 26 (by kernel_rfl)) (fun a w' hg hin => ?_)
          have e : a.eval (.tmp 2) = .slice av l.length cv := ins_ext hin 2 (by kernel_rfl)
          exact upon_move rfl e
        · refine need_yes 26 true rfl (fun a w' hin => ins_on hin 26 (by kernel_rfl)) (fun a w' hg hin => ?_)
          have e94 : a.eval (.tmp 94) = .slice av l.length cv := ins_on hin 30 (by kernel_rfl)
          refine upon_val ?_ rfl
          clear hin hg
          have ek : ∀ x, a.eval (.const x) = x := fun _ => rfl
          have ef : ∀ f, a.eval (.func f) = .func (.func f) #[] #[] := fun _ => rfl
          generalize a.eval = ev at *
          go_simp
          all_goals first | done | omega | (intro _; omega) | go_arith
        · refine need_yes 26 true rfl (fun a w' hin => ins_on hin 26 (by kernel_rfl)) (fun a w' hg hin => ?_)
          have e91 : a.eval (.tmp 91) = .agg #[.slice ab d.blocks.length cb, .slice al d.late.length cl] := ins_on hin 27 (by kernel_rfl)
          have e92 : a.eval (.tmp 92) = .int .i64 pa := ins_on hin 28 (by kernel_rfl)
          have e93 : a.eval (.tmp 93) = .int .i64 n := ins_on hin 29 (by kernel_rfl)
          have e95 : a.eval (.tmp 95) = .int .i64 (l.length : Int) := ins_on hin 31 (by kernel_rfl)
          refine upon_call (f := 44) (args := #[.agg #[.slice ab d.blocks.length cb, .slice al d.late.length cl], .int .i64 pa, .int .i64 n, .int .i64 (l.length : Int)]) ?_ ((spoilP_any d pa n (l.length : Int) _ _ w' (hb.grow hg) (hl.grow hg) (by omega) (by omega) hb16 hl16).mono ?_)
          · clear hin hg
            have ek : ∀ x, a.eval (.const x) = x := fun _ => rfl
            have ef : ∀ f, a.eval (.func f) = .func (.func f) #[] #[] := fun _ => rfl
            generalize a.eval = ev at *
            go_simp
            all_goals first | done | omega | (intro _; omega) | go_arith
          · rintro e w2 ⟨v2, rfl, hA, g2⟩
            exact ⟨_, rfl, g2, hA.p⟩
        · refine need_yes 26 true rfl (fun a w' hin => ins_on hin 26 (by kernel_rfl)) (fun a w' hg hin => ?_)
          have e4 : a.eval (.tmp 4) = .pointer (some ⟨g0, 0, none⟩) := ins_ext hin 4 (by kernel_rfl)
          have z0 := (Below.cell hg (cell_lt y0)).trans y0
          have z1 := (Below.cell hg (cell_lt y1)).trans y1
          refine upon_val ?_ rfl
          clear hin hg
          have ek : ∀ x, a.eval (.const x) = x := fun _ => rfl
          have ef : ∀ f, a.eval (.func f) = .func (.func f) #[] #[] := fun _ => rfl
          generalize a.eval = ev at *
          go_simp
          all_goals first | done | omega | (intro _; omega) | go_arith
        · refine need_yes 26 true rfl (fun a w' hin => ins_on hin 26 (by kernel_rfl)) (fun a w' hg hin => ?_)
          have e : a.eval (.tmp 1) = .int .i64 pa := ins_ext hin 1 (by kernel_rfl)
          exact upon_move rfl e
        · refine need_yes 26 true rfl (fun a w' hin => ins_on hin 26 (by kernel_rfl)) (fun a w' hg hin => ?_)
          have e : a.eval (.tmp 3) = .int .i64 n := ins_ext hin 3 (by kernel_rfl)
          exact upon_move rfl e
        · refine need_yes 26 true rfl (fun a w' hin => ins_on hin 26 (by kernel_rfl)) (fun a w' hg hin => ?_)
          have e : a.eval (.tmp 2) = .slice av l.length cv := ins_ext hin 2 (by kernel_rfl)
          exact upon_move rfl e
        · refine need_yes 26 true rfl (fun a w' hin => ins_on hin 26 (by kernel_rfl)) (fun a w' hg hin => ?_)
          have e100 : a.eval (.tmp 100) = .slice av l.length cv := ins_on hin 36 (by kernel_rfl)
          refine upon_val ?_ rfl
          clear hin hg
          have ek : ∀ x, a.eval (.const x) = x := fun _ => rfl
          have ef : ∀ f, a.eval (.func f) = .func (.func f) #[] #[] := fun _ => rfl
          generalize a.eval = ev at *
          go_simp
          all_goals first | done | omega | (intro _; omega) | go_arith
        · refine need_yes 26 true rfl (fun a w' hin => ins_on hin 26 (by kernel_rfl)) (fun a w' hg hin => ?_)
          have e97 : a.eval (.tmp 97) = .agg #[.slice ab d.blocks.length cb, .slice al d.late.length cl] := ins_on hin 33 (by kernel_rfl)
          have e98 : a.eval (.tmp 98) = .int .i64 pa := ins_on hin 34 (by kernel_rfl)
          have e99 : a.eval (.tmp 99) = .int .i64 n := ins_on hin 35 (by kernel_rfl)
          have e101 : a.eval (.tmp 101) = .int .i64 (l.length : Int) := ins_on hin 37 (by kernel_rfl)
          refine upon_call (f := 45) (args := #[.agg #[.slice ab d.blocks.length cb, .slice al d.late.length cl], .int .i64 pa, .int .i64 n, .int .i64 (l.length : Int)]) ?_ ((spoil_any (fun b => b < w'.heap.size) d pa n (l.length : Int) _ _ w' (fun b h => h) (hb.grow hg).s (hl.grow hg).s (by omega) hb16).mono ?_)
          · clear hin hg
            have ek : ∀ x, a.eval (.const x) = x := fun _ => rfl
            have ef : ∀ f, a.eval (.func f) = .func (.func f) #[] #[] := fun _ => rfl
            generalize a.eval = ev at *
            go_simp
            all_goals first | done | omega | (intro _; omega) | go_arith
          · rintro e w2 ⟨v2, rfl, hA, g2⟩
            exact ⟨_, rfl, g2, _, _, rfl, hA.p, by rw [HS3.out]; exact (hl.grow hg).grow g2⟩
        · refine need_yes 26 true rfl (fun a w' hin => ins_on hin 26 (by kernel_rfl)) (fun a w' hg hin => ?_)
          have e96 : (DiskP (d.spoil pa n (l.length : Int))) (a.eval (.tmp 96)) w' := ins_on hin 32 (by kernel_rfl)
          have e102 : (DiskP (d.spoil pa n (l.length : Int))) (a.eval (.tmp 102)) w' := ins_on hin 38 (by kernel_rfl)
          obtain ⟨ab1, cb1, al1, cl1, h96, hb1, hl1⟩ := DiskP.form e96
          obtain ⟨ab2, cb2, al2, cl2, h102, hb2, hl2⟩ := DiskP.form e102
          have hKl : (d.spoil pa n (l.length : Int)).late.length ≤ 1000 := by rw [HS3.out]; omega
          clear e96 e102 HS3
          generalize d.spoil pa n (l.length : Int) = D1 at *
          refine upon_call (f := 31) (args := #[.agg #[.slice ab1 D1.blocks.length cb1, .slice al1 D1.late.length cl1], .agg #[.slice ab2 D1.blocks.length cb2, .slice al2 D1.late.length cl2]]) ?_ ((sameDisk_any D1 D1 _ _ _ _ w' hb1 hl1 hb2 hl2 (by omega) (by omega)).mono ?_)
          · clear hin hg hb1 hb2 hl1 hl2
            have ek : ∀ x, a.eval (.const x) = x := fun _ => rfl
            have ef : ∀ f, a.eval (.func f) = .func (.func f) #[] #[] := fun _ => rfl
            generalize a.eval = ev at *
            go_simp
            all_goals first | done | omega | (intro _; omega) | go_arith
          · rw [Dk.same_refl]
            rintro e w2 ⟨rfl, g2⟩
            exact ⟨_, rfl, g2, rfl⟩
        · refine need_plain rfl (fun a w' hg hin => ?_)
          have ec : a.eval (.tmp 90) = .bool true := ins_on hin 26 (by kernel_rfl)
          have e : a.eval (.tmp 103) = .bool true := ins_on hin 39 (by kernel_rfl)
          exact upon_pick rfl ec e
        · refine need_plain rfl (fun a w' hg hin => ?_)
          have e : a.eval (.tmp 104) = .bool true := ins_on hin 40 (by kernel_rfl)
          exact upon_assign rfl e
      · intro vs w' hg ht
        obtain ⟨q64, q65, q66, q67, q68, q69, q70, q71, q72, q73, q74, q75, q76, q77, q78, q79, q80, q81, q82, q83, q84, q85, q86, q87, q88, q89, q90, q91, q92, q93, q94, q95, q96, q97, q98, q99, q100, q101, q102, q103, q104, q8, -⟩ := ht
        have r64 : vs 0 = .int .i64 ge := q64
        have r65 : vs 1 = .int .i64 ge := q65
        have r66 : vs 2 = .bool true := q66
        have r67 : vs 3 = .bool true := q67
        have r68 : vs 4 = .slice a7 L.length c7 := q68
        have r69 : vs 5 = str L := q69
        have r70 : vs 6 = .slice a8 L.length c8 := q70
        have r71 : vs 7 = str L := q71
        have r72 : vs 8 = .bool true := q72
        have r73 : vs 9 = .bool true := q73
        have r74 : vs 10 = .bool true := q74
        have r75 : vs 11 = .agg #[.slice ab d.blocks.length cb, .slice al d.late.length cl] := q75
        have r76 : vs 12 = .int .i64 n := q76
        have r78 : vs 14 = .agg #[.slice ab d.blocks.length cb, .slice al d.late.length cl] := q78
        have r79 : vs 15 = .int .i64 n := q79
        have r81 : vs 17 = .bool true := q81
        have r82 : vs 18 = .bool true := q82
        have r83 : vs 19 = .bool true := q83
        have r84 : vs 20 = .agg #[.slice ab d.blocks.length cb, .slice al d.late.length cl] := q84
        have r86 : vs 22 = .agg #[.slice ab d.blocks.length cb, .slice al d.late.length cl] := q86
        have r88 : vs 24 = .bool true := q88
        have r89 : vs 25 = .bool true := q89
        have r90 : vs 26 = .bool true := q90
        have r91 : vs 27 = .agg #[.slice ab d.blocks.length cb, .slice al d.late.length cl] := q91
        have r92 : vs 28 = .int .i64 pa := q92
        have r93 : vs 29 = .int .i64 n := q93
        have r94 : vs 30 = .slice av l.length cv := q94
        have r95 : vs 31 = .int .i64 (l.length : Int) := q95
        have r97 : vs 33 = .agg #[.slice ab d.blocks.length cb, .slice al d.late.length cl] := q97
        have r98 : vs 34 = .int .i64 pa := q98
        have r99 : vs 35 = .int .i64 n := q99
        have r100 : vs 36 = .slice av l.length cv := q100
        have r101 : vs 37 = .int .i64 (l.length : Int) := q101
        have r103 : vs 39 = .bool true := q103
        have r104 : vs 40 = .bool true := q104
        have r8 : vs 41 = .bool true := q8
        clear q64 q65 q66 q67 q68 q69 q70 q71 q72 q73 q74 q75 q76 q78 q79 q81 q82 q83 q84 q86 q88 q89 q90 q91 q92 q93 q94 q95 q97 q98 q99 q100 q101 q103 q104 q8
        simp only [putAll, Act.put, List.setIfInBounds_toArray, List.set_cons_zero, List.set_cons_succ, r64, r65, r66, r67, r68, r69, r70, r71, r72, r73, r74, r75, r76, r78, r79, r81, r82, r83, r84, r86, r88, r89, r90, r91, r92, r93, r94, r95, r97, r98, r99, r100, r101, r103, r104, r8]
        clear r64 r65 r66 r67 r68 r69 r70 r71 r72 r73 r74 r75 r76 r78 r79 r81 r82 r83 r84 r86 r88 r89 r90 r91 r92 r93 r94 r95 r97 r98 r99 r100 r101 r103 r104 r8
        have gE := gW.trans hg
        clear hg
        go_wp2_with fail
        go_ret
        exact ⟨rfl, gE⟩
  · have hR' : d.right = false := by simpa using hR
    rw [hR']
    clear hb hl hv hR hR'
    go_wp2_with fail
    go_ret
    exact ⟨rfl, gW⟩
end Go.Proofs.Ytobhchebggaipaa
