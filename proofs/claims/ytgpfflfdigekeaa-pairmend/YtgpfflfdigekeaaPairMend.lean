/-
  sclaw4.PairMend answers true for every disk and pair.
  Condition: the disk lies in memory; pair.Look, Put and Mend keep their contracts (premises).
-/
import Derived.Test.YtgpfflfdigekeaaPAlive
namespace Go.Proofs.Ytgpfflfdigekeaa
set_option maxRecDepth 100000
open Go.RowKit
open Go.Proofs.Ytgpfflfdigekeaa.Plain Go.Proofs.Ytgpfflfdigekeaa.Reg


set_option maxHeartbeats 4000000 in
theorem pairMend_of (HLC : LookC) (HPC : PutC) (HMC : MendC) (d : Dk) (p : Int) (vb vl : Value) (w : World) (hb : BlocksP w vb d.blocks) (hl : LateP w vl d.late) :
    Calls Try.prog 12 #[.agg #[vb, vl], .int .i64 p] w fun e w' => e = .returned (.bool true) ∧ Grow w w' := by
  obtain ⟨ab, cb, rfl⟩ := hb.form
  obtain ⟨al, cl, rfl⟩ := hl.form
  have hd : DiskP d (.agg #[.slice ab d.blocks.length cb, .slice al d.late.length cl]) w := ⟨_, _, rfl, hb, hl⟩
  have gW := grow_alloc w (.cells #[.slice ab d.blocks.length cb, .slice al d.late.length cl] 46)
  have hx := heap_new w #[.slice ab d.blocks.length cb, .slice al d.late.length cl] 46
  clear hb hl
  replace hd := st_diskp _ _ _ _ gW hd
  go_enter Try.func12, Try.ntmps12
  go_wp2_with fail
  refine (palive_of HLC HPC HMC _).mono ?_
  rintro e w3 ⟨rfl, gN⟩
  replace gW := gW.trans gN
  replace hx := (gN.block _ (heap_lt hx)).trans hx
  replace hd := st_diskp _ _ _ _ gN hd
  clear gN
  have y0 := box_cell hx 0 _ rfl
  have y1 := box_cell hx 1 _ rfl
  generalize w.heap.size = g0 at *
  go_wp2_with fail
  refine (rright_c d _ _ hd).mono ?_
  rintro e w4 ⟨rfl, gN⟩
  replace gW := gW.trans gN
  replace hx := (gN.block _ (heap_lt hx)).trans hx
  replace hd := st_diskp _ _ _ _ gN hd
  clear gN y0 y1
  by_cases hR : d.right = true
  · rw [hR]
    by_cases hp0 : p < 0
    · clear hd hx
      go_wp2_with fail
      go_ret
      exact ⟨rfl, gW⟩
    · by_cases hp6 : 6 ≤ p
      · have hp0' : 0 ≤ p := by omega
        clear hd hx hp0
        go_wp2_with fail
        go_ret
        exact ⟨rfl, gW⟩
      · have hp0' : 0 ≤ p := by omega
        have hp6' : p < 6 := by omega
        have hF := (Dk.right_fine hR).mono (m := 100) (by omega)
        have hF1 : (d.mendD p).Fine 102 := hF.mend p
        have h12 := hF.len
        obtain ⟨ht1, ht2, ht3⟩ := mend_twice d p hp0' (by omega) (by omega)
        have HF0 : Hid (d.Fine 900) := hF.mono (by omega)
        have HF2 : Hid ((d.mendD p).Fine 900) := hF1.mono (by omega)
        have HT1 : Hid _ := ht1
        have HT2 : Hid _ := ht2
        have HT3 : Hid _ := ht3
        clear hR hp0 hp6 h12 ht1 ht2 ht3 hF hF1
        have y0 := box_cell hx 0 _ rfl
        have y1 := box_cell hx 1 _ rfl
        have hlk := HLC d p _ _ HF0.out hd
        generalize hho : d.how p = ho at *
        generalize hte : d.tell p = r at *
        have HHO : Hid _ := hho
        clear hho hte
        obtain ⟨rk, ry, rn, rl⟩ := r
        simp only at hlk HT1
        go_wp2_with fail
        refine hlk.mono ?_
        rintro e w5 ⟨dv5, rfl, ho5, gN⟩
        obtain ⟨a5, c5, rfl⟩ := own_slice ho5
        have gM := grow_alloc w5 (.cells #[.int .i64 rk, .int .i64 ry, .int .i64 rn, .slice a5 rl.length c5] 32)
        have hx5 := heap_new w5 #[.int .i64 rk, .int .i64 ry, .int .i64 rn, .slice a5 rl.length c5] 32
        have hb5 := bytes_grow (bytes_own ho5) gM
        replace gN := gN.trans gM
        replace gW := gW.trans gN
        replace hx := (gN.block _ (heap_lt hx)).trans hx
        replace hd := st_diskp _ _ _ _ gN hd
        clear gN gM hlk ho5 y0 y1
        have y0 := box_cell hx 0 _ rfl
        have y1 := box_cell hx 1 _ rfl
        have hmd := HMC _ d p _ _ (fun _ h => h) HF0.out hd.s
        go_wp2_with fail
        refine hmd.mono ?_
        rintro e w6 ⟨D1, v6, h6, rfl, hd6, gN, hin6, -, -⟩
        obtain ⟨e6, e6'⟩ := hin6 hp0' hp6'
        rw [HHO.out] at e6
        subst e6
        subst e6'
        replace hd6 := hd6.p
        generalize hD1 : d.mendD p = D1 at *
        have HD1 : Hid _ := hD1
        clear hD1 hin6 hmd
        obtain ⟨ab6, cb6, al6, cl6, rfl, -, -⟩ := hd6.form
        have gM := grow_alloc w6 (.cells #[.slice ab6 D1.blocks.length cb6, .slice al6 D1.late.length cl6] 46)
        have hx6 := heap_new w6 #[.slice ab6 D1.blocks.length cb6, .slice al6 D1.late.length cl6] 46
        replace hd6 := st_diskp _ _ _ _ gM hd6
        replace gN := gN.trans gM
        replace gW := gW.trans gN
        replace hx5 := (gN.block _ (heap_lt hx5)).trans hx5
        replace hb5 := bytes_grow hb5 gN
        clear gN gM y0 y1 hx hd
        have y0 := box_cell hx6 0 _ rfl
        have y1 := box_cell hx6 1 _ rfl
        have hlk := HLC D1 p _ _ HF2.out hd6
        rw [HT1.out, HT2.out] at hlk
        generalize hnow : (if rk = 1 then (0 : Int) else 1) = now at *
        have HNOW : Hid _ := hnow
        clear hnow
        simp only at hlk
        go_wp2_with fail
        refine hlk.mono ?_
        rintro e w7 ⟨dv7, rfl, ho7, gN⟩
        obtain ⟨a7, c7, rfl⟩ := own_slice ho7
        have gM := grow_alloc w7 (.cells #[.int .i64 rk, .int .i64 ry, .int .i64 rn, .slice a7 rl.length c7] 32)
        have hx7 := heap_new w7 #[.int .i64 rk, .int .i64 ry, .int .i64 rn, .slice a7 rl.length c7] 32
        have hb7 := bytes_grow (bytes_own ho7) gM
        replace gN := gN.trans gM
        replace gW := gW.trans gN
        replace hx5 := (gN.block _ (heap_lt hx5)).trans hx5
        replace hb5 := bytes_grow hb5 gN
        replace hx6 := (gN.block _ (heap_lt hx6)).trans hx6
        replace hd6 := st_diskp _ _ _ _ gN hd6
        clear gN gM hlk ho7 y0 y1
        have y0 := box_cell hx6 0 _ rfl
        have y1 := box_cell hx6 1 _ rfl
        have hmd := HMC _ D1 p _ _ (fun _ h => h) HF2.out hd6.s
        go_wp2_with fail
        refine hmd.mono ?_
        rintro e w8 ⟨D2, v8, h8, rfl, hd8, gN, hin8, -, -⟩
        obtain ⟨e8, e8'⟩ := hin8 hp0' hp6'
        rw [HT1.out] at e8
        rw [HT3.out] at e8'
        replace e8 := e8.symm
        replace e8' := e8'.symm
        subst e8
        subst e8'
        replace hd8 := hd8.p
        clear hin8 hmd
        obtain ⟨ab8, cb8, al8, cl8, rfl, -, -⟩ := hd8.form
        have gM := grow_alloc w8 (.cells #[.slice ab8 D1.blocks.length cb8, .slice al8 D1.late.length cl8] 46)
        have hx8 := heap_new w8 #[.slice ab8 D1.blocks.length cb8, .slice al8 D1.late.length cl8] 46
        replace hd8 := st_diskp _ _ _ _ gM hd8
        replace gN := gN.trans gM
        replace gW := gW.trans gN
        replace hx5 := (gN.block _ (heap_lt hx5)).trans hx5
        replace hb5 := bytes_grow hb5 gN
        replace hx6 := (gN.block _ (heap_lt hx6)).trans hx6
        replace hd6 := st_diskp _ _ _ _ gN hd6
        replace hx7 := (gN.block _ (heap_lt hx7)).trans hx7
        replace hb7 := bytes_grow hb7 gN
        clear gN gM y0 y1
        have p0 := box_cell hx5 0 _ rfl
        have p1 := box_cell hx5 1 _ rfl
        have p2 := box_cell hx5 2 _ rfl
        have p3 := box_cell hx5 3 _ rfl
        have q0 := box_cell hx7 0 _ rfl
        have q1 := box_cell hx7 1 _ rfl
        have q2 := box_cell hx7 2 _ rfl
        have q3 := box_cell hx7 3 _ rfl
        have hsm := rsame_any rk ry rn rk ry rn rl rl _ _ _ hb5 hb7
        rw [sameB_refl] at hsm
        by_cases hk1 : rk = 1
        · subst hk1
          obtain rfl : now = 0 := HNOW.out.symm
          go_wp2_with fail
          refine hsm.mono ?_
          rintro e w9 ⟨rfl, gN⟩
          replace gW := gW.trans gN
          replace hx6 := (gN.block _ (heap_lt hx6)).trans hx6
          replace hd6 := st_diskp _ _ _ _ gN hd6
          replace hx8 := (gN.block _ (heap_lt hx8)).trans hx8
          replace hd8 := st_diskp _ _ _ _ gN hd8
          have hsd := rsame_c D1 D1 _ _ _ hd6 hd8 (by rw [HF2.out.len]; omega) (by have := HF2.out.few; omega)
          rw [Dk.same_refl] at hsd
          clear gN hsm p0 p1 p2 p3 q0 q1 q2 q3 hx5 hb5 hx7 hb7
          have y0 := box_cell hx6 0 _ rfl
          have y1 := box_cell hx6 1 _ rfl
          have z0 := box_cell hx8 0 _ rfl
          have z1 := box_cell hx8 1 _ rfl
          go_wp2_with fail
          refine hsd.mono ?_
          rintro e w10 ⟨rfl, gN⟩
          replace gW := gW.trans gN
          clear hsd gN y0 y1 z0 z1 hx6 hx8 hd6 hd8
          go_wp2_with fail
          go_ret
          exact ⟨rfl, gW⟩
        · obtain rfl : now = 1 := by rw [← HNOW.out, if_neg hk1]
          have dk : (rk == 1) = false := by simpa using hk1
          clear hk1
          go_wp2_with fail
          refine hsm.mono ?_
          rintro e w9 ⟨rfl, gN⟩
          replace gW := gW.trans gN
          replace hx6 := (gN.block _ (heap_lt hx6)).trans hx6
          replace hd6 := st_diskp _ _ _ _ gN hd6
          replace hx8 := (gN.block _ (heap_lt hx8)).trans hx8
          replace hd8 := st_diskp _ _ _ _ gN hd8
          have hsd := rsame_c D1 D1 _ _ _ hd6 hd8 (by rw [HF2.out.len]; omega) (by have := HF2.out.few; omega)
          rw [Dk.same_refl] at hsd
          clear gN hsm p0 p1 p2 p3 q0 q1 q2 q3 hx5 hb5 hx7 hb7
          have y0 := box_cell hx6 0 _ rfl
          have y1 := box_cell hx6 1 _ rfl
          have z0 := box_cell hx8 0 _ rfl
          have z1 := box_cell hx8 1 _ rfl
          go_wp2_with fail
          refine hsd.mono ?_
          rintro e w10 ⟨rfl, gN⟩
          replace gW := gW.trans gN
          clear hsd gN y0 y1 z0 z1 hx6 hx8 hd6 hd8
          go_wp2_with fail
          go_ret
          exact ⟨rfl, gW⟩
  · have hR' : d.right = false := by simpa using hR
    rw [hR']
    clear hd hx hR hR'
    go_wp2_with fail
    go_ret
    exact ⟨rfl, gW⟩
end Go.Proofs.Ytgpfflfdigekeaa
