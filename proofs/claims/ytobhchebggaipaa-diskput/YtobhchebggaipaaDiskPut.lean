/-
  sclaw3.DiskPut answers true for every disk, place, bytes and other place.
  Condition: the disk and the bytes lie in memory.
-/
import Derived.Test.YtobhchebggaipaaDAlive
namespace Go.Proofs.Ytobhchebggaipaa
open Go.RowKit
open Go.Proofs.Ytobhchebggaipaa.Plain Go.Proofs.Ytobhchebggaipaa.Reg

theorem run_str2 (w : World) (v : Value) (l : List UInt8) (h : Bytes w v l) : (convert 22 9 v).run Try.prog w = .ok (.string ⟨l.toArray⟩) w := run_str w v l h


set_option maxRecDepth 100000 in
set_option maxHeartbeats 4000000 in
theorem diskPut_any (d : Dk) (pa po : Int) (l : List UInt8) (vb vl v : Value) (w : World) (hb : BlocksP w vb d.blocks) (hl : LateP w vl d.late) (hv : Bytes w v l) :
    Calls Try.prog 9 #[.agg #[vb, vl], .int .i64 pa, v, .int .i64 po] w fun e w' => e = .returned (.bool true) ∧ Grow w w' := by
  obtain ⟨ab, cb, rfl⟩ := hb.form
  obtain ⟨al, cl, rfl⟩ := hl.form
  obtain ⟨av, cv, rfl, -, -⟩ := bytes_src hv
  have gW := grow_alloc w (.cells #[.slice ab d.blocks.length cb, .slice al d.late.length cl] 46)
  have hx := heap_new w #[.slice ab d.blocks.length cb, .slice al d.late.length cl] 46
  go_enter Try.func9, Try.ntmps9
  go_wp2_with fail
  refine (dalive_any _).mono ?_
  rintro e w3 ⟨rfl, gN⟩
  replace gW := gW.trans gN
  replace hx := (gN.block _ (heap_lt hx)).trans hx
  replace hb := hb.grow gW
  replace hl := hl.grow gW
  replace hv := bytes_grow hv gW
  clear gN
  have y0 := box_cell hx 0 _ rfl
  have y1 := box_cell hx 1 _ rfl
  generalize w.heap.size = g0 at *
  go_wp2_with fail
  refine (rightDisk_any d _ _ _ hb hl).mono ?_
  rintro e w4 ⟨rfl, gN⟩
  replace gW := gW.trans gN
  replace hx := (gN.block _ (heap_lt hx)).trans hx
  replace hb := hb.grow gN
  replace hl := hl.grow gN
  replace hv := bytes_grow hv gN
  clear y0 y1 gN
  have y0 := box_cell hx 0 _ rfl
  have y1 := box_cell hx 1 _ rfl
  by_cases hR : d.right = true
  · rw [hR]
    obtain ⟨h12, h40, hb16, hl16, hp⟩ := Dk.right_all hR
    have h12a : d.blocks.length ≤ 256 := by omega
    have h12b : 0 < d.blocks.length := by omega
    have HP : Hid (∀ x ∈ d.late, 0 ≤ x.1 ∧ x.1 < (d.blocks.length : Int)) := hp
    clear hp h12 hR
    go_wp2_with fail
    refine (put_any d pa l _ _ _ _ hb hl hv (by omega) (by omega) hb16 hl16).mono ?_
    rintro e w5 ⟨v5, rfl, hQ5, gN⟩
    by_cases hE : d.putE pa l = 0
    · have hPD : d.putD pa l = d.put pa l := by unfold Dk.putD; rw [if_pos hE]
      rw [hPD] at hQ5
      have h0a : 0 ≤ pa ∧ pa < (d.blocks.length : Int) ∧ l.length = 16 := by
        unfold Dk.putE at hE
        by_cases ho : pa < 0 ∨ (d.blocks.length : Int) ≤ pa
        · rw [if_pos ho] at hE; omega
        · rw [if_neg ho] at hE
          by_cases h16 : l.length ≠ 16
          · rw [if_pos h16] at hE; omega
          · omega
      rw [hE]
      obtain ⟨hpa0, hpa1, hl16'⟩ := h0a
      -- what holds of the disk that was put to
      have HX1 : Hid ((d.put pa l).get pa = some l) := d.put_get pa l hpa0 hpa1
      have hXp : ∀ x ∈ (d.put pa l).late, 0 ≤ x.1 ∧ x.1 < ((d.put pa l).blocks.length : Int) := by
        intro x hx'
        rcases List.mem_append.1 (show x ∈ d.late ++ [(pa, l)] from hx') with h1 | h1
        · exact HP.out x h1
        · rw [List.mem_singleton.1 h1]; exact ⟨hpa0, hpa1⟩
      have hXl : ∀ x ∈ (d.put pa l).late, x.2.length ≤ 1000 := by
        intro x hx'
        rcases List.mem_append.1 (show x ∈ d.late ++ [(pa, l)] from hx') with h1 | h1
        · exact hl16 x h1
        · rw [List.mem_singleton.1 h1]; show l.length ≤ 1000; omega
      have hXn : (d.put pa l).late.length ≤ 41 := by show (d.late ++ [(pa, l)]).length ≤ 41; simp; omega
      have hXb : ∀ x ∈ (d.put pa l).blocks, x.length ≤ 1000 := hb16
      have hXe : (d.put pa l).blocks.length = d.blocks.length := rfl
      have HX2 : Hid (∀ o, o ≠ pa → (d.put pa l).get o = d.get o) := fun o ho => d.put_other pa o l ho
      have HX3 : Hid (∀ o, (d.put pa l).getE o = d.getE o) := fun o => d.put_getE pa o l
      have HY1 : Hid (∀ o, (d.put pa l).flush.get o = (d.put pa l).get o) := fun o => (d.put pa l).flush_get (fun x hx => (hXp x hx).1) o
      have HY2 : Hid (∀ o, (d.put pa l).flush.getE o = (d.put pa l).getE o) := fun o => (d.put pa l).flush_getE o
      have hYe : (d.put pa l).flush.blocks.length = (d.put pa l).blocks.length := (d.put pa l).flush_length
      have hYl : (d.put pa l).flush.late = [] := rfl
      have hYb : ∀ x ∈ (d.put pa l).flush.blocks, x.length ≤ 1000 := by
        intro x hx'
        obtain ⟨i, hi, rfl⟩ := List.mem_iff_getElem.1 hx'
        have hi2 : i < (d.put pa l).blocks.length := by rw [← hYe]; exact hi
        have h1 := (d.put pa l).keepTo_some (fun _ => true) (fun x hx => (hXp x hx).1) i hi2 (d.put pa l).late.length (Nat.le_refl _)
        rw [show (d.put pa l).keepTo (fun _ => true) (d.put pa l).late.length = (d.put pa l).flush.blocks from rfl, getD_at _ _ _ hi, getD_at _ _ _ hi2] at h1
        rcases h1 with h1 | ⟨k, hk, _, h2⟩
        · rw [h1]; exact hXb _ (List.getElem_mem _)
        · rw [← h2]; exact hXl _ (List.getElem_mem _)
      generalize hXX : d.put pa l = X at *
      clear hXX hPD hE hpa0 hpa1 y0 y1 HP hl16'
      obtain ⟨ab5, cb5, al5, cl5, rfl, hb5, hl5⟩ := hQ5.p.form
      have hx5 := heap_new w5 #[.slice ab5 X.blocks.length cb5, .slice al5 X.late.length cl5] 46
      have gM := grow_alloc w5 (.cells #[.slice ab5 X.blocks.length cb5, .slice al5 X.late.length cl5] 46)
      replace gN := gN.trans gM
      replace gW := gW.trans gN
      replace hx := (gN.block _ (heap_lt hx)).trans hx
      replace hb := hb.grow gN
      replace hl := hl.grow gN
      replace hv := bytes_grow hv gN
      replace hb5 := hb5.grow gM
      replace hl5 := hl5.grow gM
      clear gN gM hQ5
      have y0 := box_cell hx 0 _ rfl
      have y1 := box_cell hx 1 _ rfl
      have p0 := box_cell hx5 0 _ rfl
      have p1 := box_cell hx5 1 _ rfl
      have hfl := flushP_any X _ _ _ hb5 hl5 (by omega) (by omega) (by omega) hXb hXl hXp
      generalize hg5 : w5.heap.size = g5 at *
      have HXE : Hid _ := hXe
      have HYE : Hid _ := hYe
      have HYL : Hid _ := hYl
      have hXa : X.blocks.length ≤ 256 := by omega
      clear hXe hYe hYl hXp
      go_wp2_with fail
      clear hg5
      refine hfl.mono ?_
      rintro e w6 ⟨v6, rfl, hQ6, gN⟩
      obtain ⟨ab6, cb6, al6, cl6, rfl, hb6, hl6⟩ := hQ6.p.form
      have HYL2 : Hid (X.flush.late.length = 0) := by show _ = _; rw [HYL.out]; rfl
      have hYl16 : ∀ x ∈ X.flush.late, x.2.length ≤ 1000 := by rw [HYL.out]; intro x hx; cases hx
      rw [HYL2.out] at hl6 ⊢
      have hx6 := heap_new w6 #[.slice ab6 X.flush.blocks.length cb6, .slice al6 0 cl6] 46
      have gM := grow_alloc w6 (.cells #[.slice ab6 X.flush.blocks.length cb6, .slice al6 0 cl6] 46)
      replace gN := gN.trans gM
      replace gW := gW.trans gN
      replace hx := (gN.block _ (heap_lt hx)).trans hx
      replace hb := hb.grow gN
      replace hl := hl.grow gN
      replace hv := bytes_grow hv gN
      replace hx5 := (gN.block _ (heap_lt hx5)).trans hx5
      replace hb5 := hb5.grow gN
      replace hl5 := hl5.grow gN
      replace hb6 := hb6.grow gM
      replace hl6 := hl6.grow gM
      clear gN gM hQ6 hfl y0 y1 p0 p1
      have p0 := box_cell hx5 0 _ rfl
      have p1 := box_cell hx5 1 _ rfl
      have hgx := get_any X pa _ _ _ hb5 hl5 (by omega) hXb hXl
      rw [HX1.out, Option.getD_some] at hgx
      generalize hg6 : w6.heap.size = g6 at *
      generalize X.getE pa = e1 at hgx
      go_wp2_with fail
      clear hg6
      refine hgx.mono ?_
      rintro e w7 ⟨v7, rfl, ho7, gN⟩
      have hp7 := bytes_own ho7
      obtain ⟨a7, c7, rfl⟩ := own_slice ho7
      replace gW := gW.trans gN
      replace hx := (gN.block _ (heap_lt hx)).trans hx
      replace hb := hb.grow gN
      replace hl := hl.grow gN
      replace hv := bytes_grow hv gN
      replace hx5 := (gN.block _ (heap_lt hx5)).trans hx5
      replace hb5 := hb5.grow gN
      replace hl5 := hl5.grow gN
      replace hx6 := (gN.block _ (heap_lt hx6)).trans hx6
      replace hb6 := hb6.grow gN
      replace hl6 := hl6.grow gN
      clear gN hgx ho7 p0 p1
      have q0 := box_cell hx6 0 _ rfl
      have q1 := box_cell hx6 1 _ rfl
      have hgy := get_any X.flush pa _ _ _ hb6 hl6 (by rw [HYL2.out]; omega) hYb hYl16
      rw [HY1.out, HX1.out, Option.getD_some] at hgy
      generalize X.flush.getE pa = e2 at hgy
      go_wp2_with fail
      refine hgy.mono ?_
      rintro e w8 ⟨v8, rfl, ho8, gN⟩
      have hp8 := bytes_own ho8
      obtain ⟨a8, c8, rfl⟩ := own_slice ho8
      replace gW := gW.trans gN
      replace hx := (gN.block _ (heap_lt hx)).trans hx
      replace hb := hb.grow gN
      replace hl := hl.grow gN
      replace hv := bytes_grow hv gN
      replace hx5 := (gN.block _ (heap_lt hx5)).trans hx5
      replace hb5 := hb5.grow gN
      replace hl5 := hl5.grow gN
      replace hx6 := (gN.block _ (heap_lt hx6)).trans hx6
      replace hb6 := hb6.grow gN
      replace hl6 := hl6.grow gN
      replace hp7 := bytes_grow hp7 gN
      clear gN hgy ho8 q0 q1
      have q1 := box_cell hx6 1 _ rfl
      have r7 := run_str2 _ _ _ hp7
      have r8 := run_str2 _ _ _ hp8
      have rb := run_str2 _ _ _ hv
      by_cases hoe : po = pa
      · subst hoe
        clear hp7 hp8 hb5 hl5 hb6 hl6 hb hl hx hx5 hx6 hv
        go_wp2_with fail
        go_ret
        exact ⟨rfl, gW⟩
      · have dpo : (po == pa) = false := by simpa using hoe
        have y0 := box_cell hx 0 _ rfl
        have y1 := box_cell hx 1 _ rfl
        have HO : Hid (X.get po = d.get po) := HX2.out po hoe
        clear hp7 hp8 hoe
        have hgd := get_any d po _ _ _ hb hl (by omega) hb16 hl16
        have HEd : Hid (X.getE po = d.getE po) := HX3.out po
        have HEf : Hid (X.flush.getE po = X.getE po) := HY2.out po
        have HOf : Hid (X.flush.get po = X.get po) := HY1.out po
        generalize hge : d.getE po = ge at *
        have HGE : Hid _ := hge
        clear hge
        generalize hLo : (d.get po).getD [] = Lo at *
        have HLO : Hid _ := hLo
        clear hLo
        go_wp2_with fail
        refine hgd.mono ?_
        rintro e w9 ⟨v9, rfl, ho9, gN⟩
        have hp9 := bytes_own ho9
        obtain ⟨a9, c9, rfl⟩ := own_slice ho9
        replace gW := gW.trans gN
        replace hx := (gN.block _ (heap_lt hx)).trans hx
        replace hb := hb.grow gN
        replace hl := hl.grow gN
        replace hv := bytes_grow hv gN
        replace hx5 := (gN.block _ (heap_lt hx5)).trans hx5
        replace hb5 := hb5.grow gN
        replace hl5 := hl5.grow gN
        replace hx6 := (gN.block _ (heap_lt hx6)).trans hx6
        replace hb6 := hb6.grow gN
        replace hl6 := hl6.grow gN
        clear gN hgd ho9 y0 y1 r7 r8 rb q1
        have p0 := box_cell hx5 0 _ rfl
        have p1 := box_cell hx5 1 _ rfl
        have hgx := get_any X po _ _ _ hb5 hl5 (by omega) hXb hXl
        rw [HO.out, HLO.out, HEd.out] at hgx
        go_wp2_with fail
        refine hgx.mono ?_
        rintro e w10 ⟨v10, rfl, ho10, gN⟩
        have hp10 := bytes_own ho10
        obtain ⟨a10, c10, rfl⟩ := own_slice ho10
        replace gW := gW.trans gN
        replace hx := (gN.block _ (heap_lt hx)).trans hx
        replace hb := hb.grow gN
        replace hl := hl.grow gN
        replace hv := bytes_grow hv gN
        replace hx6 := (gN.block _ (heap_lt hx6)).trans hx6
        replace hb6 := hb6.grow gN
        replace hl6 := hl6.grow gN
        replace hp9 := bytes_grow hp9 gN
        clear gN hgx ho10 p0 p1 hb5 hl5 hx5
        have q0 := box_cell hx6 0 _ rfl
        have q1 := box_cell hx6 1 _ rfl
        have hgy := get_any X.flush po _ _ _ hb6 hl6 (by rw [HYL2.out]; omega) hYb hYl16
        rw [HOf.out, HO.out, HLO.out, HEf.out, HEd.out] at hgy
        go_wp2_with fail
        refine hgy.mono ?_
        rintro e w11 ⟨v11, rfl, ho11, gN⟩
        have hp11 := bytes_own ho11
        obtain ⟨a11, c11, rfl⟩ := own_slice ho11
        replace gW := gW.trans gN
        replace hp9 := bytes_grow hp9 gN
        replace hp10 := bytes_grow hp10 gN
        have r9 := run_str2 _ _ _ hp9
        have r10 := run_str2 _ _ _ hp10
        have r11 := run_str2 _ _ _ hp11
        clear gN hgy ho11 q0 q1 hb6 hl6 hx6 hx hb hl hp9 hp10 hp11
        go_wp2_with fail
        go_ret
        exact ⟨rfl, gW⟩
    · have hPD : d.putD pa l = d := by unfold Dk.putD; rw [if_neg hE]
      rw [hPD] at hQ5
      have d0 : (d.putE pa l != 0) = true := by simpa using hE
      generalize d.putE pa l = pe at *
      clear hPD hE y0 y1
      obtain ⟨ab5, cb5, al5, cl5, rfl, hb5, hl5⟩ := hQ5.p.form
      have hx5 := heap_new w5 #[.slice ab5 d.blocks.length cb5, .slice al5 d.late.length cl5] 46
      have gM := grow_alloc w5 (.cells #[.slice ab5 d.blocks.length cb5, .slice al5 d.late.length cl5] 46)
      replace gN := gN.trans gM
      replace gW := gW.trans gN
      replace hx := (gN.block _ (heap_lt hx)).trans hx
      replace hb := hb.grow gN
      replace hl := hl.grow gN
      replace hv := bytes_grow hv gN
      replace hb5 := hb5.grow gM
      replace hl5 := hl5.grow gM
      clear gN gM hQ5
      have y0 := box_cell hx 0 _ rfl
      have y1 := box_cell hx 1 _ rfl
      have p0 := box_cell hx5 0 _ rfl
      have p1 := box_cell hx5 1 _ rfl
      have hsd := sameDisk_any d d _ _ _ _ _ hb5 hl5 hb hl (by omega) (by omega)
      rw [Dk.same_refl] at hsd
      go_wp2_with fail
      refine hsd.mono ?_
      rintro e w6 ⟨rfl, gN⟩
      replace gW := gW.trans gN
      clear hsd hb5 hl5 hb hl hx hx5 y0 y1 p0 p1 gN
      go_wp2_with fail
      go_ret
      exact ⟨rfl, gW⟩
  · have hR' : d.right = false := by simpa using hR
    rw [hR']
    clear hb hl hv hR hR'
    go_wp2_with fail
    go_ret
    exact ⟨rfl, gW⟩
end Go.Proofs.Ytobhchebggaipaa
