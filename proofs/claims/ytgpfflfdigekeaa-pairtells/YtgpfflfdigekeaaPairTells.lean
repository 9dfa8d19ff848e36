/-
  sclaw4.PairTells answers true for every disk, pair and record.
  Condition: the disk and the record's data lie in memory; pair.Look, Put and Mend keep their contracts (premises).
-/
import Derived.Test.YtgpfflfdigekeaaPairC
namespace Go.Proofs.Ytgpfflfdigekeaa
set_option maxRecDepth 100000
open Go.RowKit
open Go.Proofs.Ytgpfflfdigekeaa.Plain Go.Proofs.Ytgpfflfdigekeaa.Reg


set_option maxRecDepth 100000 in
set_option maxHeartbeats 4000000 in
theorem pairTells_of (HLC : LookC) (HPC : PutC) (HMC : MendC) (d : Dk) (p k y n : Int) (l : List UInt8) (vb vl v : Value) (w : World) (hb : BlocksP w vb d.blocks) (hl : LateP w vl d.late) (hv : Bytes w v l) :
    Calls Try.prog 11 #[.agg #[vb, vl], .int .i64 p, .agg #[.int .i64 k, .int .i64 y, .int .i64 n, v]] w fun e w' => e = .returned (.bool true) ∧ Grow w w' := by
  obtain ⟨ab, cb, rfl⟩ := hb.form
  obtain ⟨al, cl, rfl⟩ := hl.form
  obtain ⟨av, cv, rfl, -, -⟩ := bytes_src hv
  have hd : DiskS (fun b => b < w.heap.size) d (.agg #[.slice ab d.blocks.length cb, .slice al d.late.length cl]) w := ⟨_, _, rfl, hb.s, hl.s⟩
  obtain ⟨S, hS⟩ : ∃ S : Nat → Prop, S = fun b => b < w.heap.size := ⟨_, rfl⟩
  rw [← hS] at hd
  have hSw : ∀ b, S b → b < w.heap.size := fun b h => by rw [hS] at h; exact h
  have gW := grow_alloc2 w (.cells #[.slice ab d.blocks.length cb, .slice al d.late.length cl] 46) (.cells #[.int .i64 k, .int .i64 y, .int .i64 n, .slice av l.length cv] 32)
  have hx : ((w.alloc (.cells #[.slice ab d.blocks.length cb, .slice al d.late.length cl] 46)).alloc (.cells #[.int .i64 k, .int .i64 y, .int .i64 n, .slice av l.length cv] 32)).heap[w.heap.size]? = some (.cells #[.slice ab d.blocks.length cb, .slice al d.late.length cl] 46 (0, 0)) := ((grow_alloc _ _).block _ (by simp)).trans (heap_new _ _ _)
  have hr : ((w.alloc (.cells #[.slice ab d.blocks.length cb, .slice al d.late.length cl] 46)).alloc (.cells #[.int .i64 k, .int .i64 y, .int .i64 n, .slice av l.length cv] 32)).heap[w.heap.size + 1]? = some (.cells #[.int .i64 k, .int .i64 y, .int .i64 n, .slice av l.length cv] 32 (0, 0)) := by
    have h := heap_new (w.alloc (.cells #[.slice ab d.blocks.length cb, .slice al d.late.length cl] 46)) #[.int .i64 k, .int .i64 y, .int .i64 n, .slice av l.length cv] 32
    rw [World.size_alloc] at h
    exact h
  clear hS hb hl
  replace hd := hd.grow gW
  replace hv := bytes_grow hv gW
  go_enter Try.func11, Try.ntmps11
  go_wp2_with fail
  refine (rright_c d _ _ hd.p).mono ?_
  rintro e w4 ⟨rfl, gN⟩
  replace gW := gW.trans gN
  replace hx := (gN.block _ (heap_lt hx)).trans hx
  replace hr := (gN.block _ (heap_lt hr)).trans hr
  replace hd := hd.grow gN
  replace hv := bytes_grow hv gN
  clear gN
  by_cases hR : d.right = true
  · rw [hR]
    have hF := (Dk.right_fine hR).mono (m := 900) (by omega)
    have hfew : d.late.length ≤ 40 := Dk.right_few hR
    have h12a : d.blocks.length ≤ 256 := by rw [hF.len]; omega
    clear hR
    have y0 := box_cell hx 0 _ rfl
    have y1 := box_cell hx 1 _ rfl
    have hlk := HLC d p _ _ hF hd.p
    have hlk2 := fun (w2 : World) (h : DiskS S d (.agg #[.slice ab d.blocks.length cb, .slice al d.late.length cl]) w2) => rlook_c d p _ w2 h.p h12a (by omega)
    generalize hho : d.how p = ho at *
    generalize hte : d.tell p = r at *
    have HHO : Hid _ := hho
    have HTL : Hid _ := hte
    clear hho hte
    obtain ⟨rk, ry, rn, rl⟩ := r
    simp only at hlk hlk2
    go_wp2_with fail
    refine hlk.mono ?_
    rintro e w5 ⟨dv5, rfl, ho5, gN⟩
    obtain ⟨a5, c5, rfl⟩ := own_slice ho5
    have gM := grow_alloc w5 (.cells #[.int .i64 rk, .int .i64 ry, .int .i64 rn, .slice a5 rl.length c5] 32)
    have hx5 := heap_new w5 #[.int .i64 rk, .int .i64 ry, .int .i64 rn, .slice a5 rl.length c5] 32
    have hb5 := bytes_grow (bytes_own ho5) gM
    replace gN := gN.trans gM
    replace gW := gW.trans gN
    replace hx := (gN.block _ (heap_lt hx)).trans hx
    replace hr := (gN.block _ (heap_lt hr)).trans hr
    replace hd := hd.grow gN
    replace hv := bytes_grow hv gN
    clear gN gM hlk ho5 y0 y1
    have y0 := box_cell hx 0 _ rfl
    have y1 := box_cell hx 1 _ rfl
    replace hlk2 := hlk2 _ hd
    go_wp2_with fail
    refine hlk2.mono ?_
    rintro e w6 ⟨dv6, rfl, ho6, gN⟩
    obtain ⟨a6, c6, rfl⟩ := own_slice ho6
    have gM := grow_alloc w6 (.cells #[.int .i64 rk, .int .i64 ry, .int .i64 rn, .slice a6 rl.length c6] 32)
    have hx6 := heap_new w6 #[.int .i64 rk, .int .i64 ry, .int .i64 rn, .slice a6 rl.length c6] 32
    have hb6 := bytes_grow (bytes_own ho6) gM
    replace gN := gN.trans gM
    replace gW := gW.trans gN
    replace hx := (gN.block _ (heap_lt hx)).trans hx
    replace hr := (gN.block _ (heap_lt hr)).trans hr
    replace hd := hd.grow gN
    replace hv := bytes_grow hv gN
    replace hx5 := (gN.block _ (heap_lt hx5)).trans hx5
    replace hb5 := bytes_grow hb5 gN
    clear gN gM hlk2 ho6 y0 y1
    have p0 := box_cell hx5 0 _ rfl
    have p1 := box_cell hx5 1 _ rfl
    have p2 := box_cell hx5 2 _ rfl
    have p3 := box_cell hx5 3 _ rfl
    have q0 := box_cell hx6 0 _ rfl
    have q1 := box_cell hx6 1 _ rfl
    have q2 := box_cell hx6 2 _ rfl
    have q3 := box_cell hx6 3 _ rfl
    have hsm := rsame_any rk ry rn rk ry rn rl rl _ _ _ hb5 hb6
    rw [sameB_refl] at hsm
    go_wp2_with fail
    refine hsm.mono ?_
    rintro e w7 ⟨rfl, gN⟩
    replace gW := gW.trans gN
    replace hx := (gN.block _ (heap_lt hx)).trans hx
    replace hr := (gN.block _ (heap_lt hr)).trans hr
    replace hd := hd.grow gN
    replace hv := bytes_grow hv gN
    clear hsm p0 p1 p2 p3 q0 q1 q2 q3 hx5 hx6 hb5 hb6 gN
    generalize w5.heap.size = g5
    generalize w6.heap.size = g6
    have y0 := box_cell hx 0 _ rfl
    have y1 := box_cell hx 1 _ rfl
    have r0 := box_cell hr 0 _ rfl
    have r1 := box_cell hr 1 _ rfl
    have r2 := box_cell hr 2 _ rfl
    have r3 := box_cell hr 3 _ rfl
    have hSW : ∀ b, S b → b < w7.heap.size := fun b h => Nat.lt_of_lt_of_le (hSw b h) gW.size
    have hput := HPC S d p k y n l _ _ _ hSW hF hd hv
    have HPF : Hid ((d.pairD p ⟨k, y, n, l⟩).Fine 902) := hF.pair p _
    have hrp := fun (w2 : World) (h0 : ∀ b, S b → b < w2.heap.size) (h1 : DiskS S d (.agg #[.slice ab d.blocks.length cb, .slice al d.late.length cl]) w2) (h2 : Bytes w2 (.slice av l.length cv) l) => rputPair_c S d p k y n l _ _ w2 h0 h1 h2 h12a (by omega)
    generalize d.pairD p ⟨k, y, n, l⟩ = D at *
    generalize d.pairE p ⟨k, y, n, l⟩ = pe at *
    go_wp2_with fail
    refine hput.mono ?_
    rintro e w8 ⟨v8, rfl, hd8, gN⟩
    obtain ⟨ab8, cb8, al8, cl8, rfl, -, -⟩ := hd8.form
    have gM := grow_alloc w8 (.cells #[.slice ab8 D.blocks.length cb8, .slice al8 D.late.length cl8] 46)
    have hx8 := heap_new w8 #[.slice ab8 D.blocks.length cb8, .slice al8 D.late.length cl8] 46
    replace hd8 := hd8.p
    replace hd8 := st_diskp _ _ _ _ gM hd8
    have hsz8 : w7.heap.size ≤ w8.heap.size := gN.size
    have hwz := heap_lt hr
    replace gN := gN.trans gM
    replace gW := gW.trans gN
    replace hx := (gN.block _ (heap_lt hx)).trans hx
    replace hr := (gN.block _ (heap_lt hr)).trans hr
    replace hd := hd.grow gN
    replace hv := bytes_grow hv gN
    clear gN gM hput y0 y1 r0 r1 r2 r3 hSW
    have y0 := box_cell hx 0 _ rfl
    have y1 := box_cell hx 1 _ rfl
    have r0 := box_cell hr 0 _ rfl
    have r1 := box_cell hr 1 _ rfl
    have r2 := box_cell hr 2 _ rfl
    have r3 := box_cell hr 3 _ rfl
    replace hrp := hrp _ (fun b h => Nat.lt_of_lt_of_le (hSw b h) gW.size) hd hv
    go_wp2_with fail
    refine hrp.mono ?_
    rintro e w9 ⟨v9, rfl, hd9, gN⟩
    obtain ⟨ab9, cb9, al9, cl9, rfl, -, -⟩ := hd9.form
    have gM := grow_alloc w9 (.cells #[.slice ab9 D.blocks.length cb9, .slice al9 D.late.length cl9] 46)
    have hx9 := heap_new w9 #[.slice ab9 D.blocks.length cb9, .slice al9 D.late.length cl9] 46
    replace hd9 := hd9.p
    replace hd9 := st_diskp _ _ _ _ gM hd9
    have hsz9 : w8.heap.size < w9.heap.size := by have := gN.size; simp at this; omega
    replace gN := gN.trans gM
    replace gW := gW.trans gN
    replace hx := (gN.block _ (heap_lt hx)).trans hx
    replace hr := (gN.block _ (heap_lt hr)).trans hr
    replace hd := hd.grow gN
    replace hv := bytes_grow hv gN
    replace hx8 := (gN.block _ (heap_lt hx8)).trans hx8
    replace hd8 := st_diskp _ _ _ _ gN hd8
    clear gN gM hrp y0 y1 r0 r1 r2 r3
    have p0 := box_cell hx8 0 _ rfl
    have p1 := box_cell hx8 1 _ rfl
    have q0 := box_cell hx9 0 _ rfl
    have q1 := box_cell hx9 1 _ rfl
    have hsd := rsame_c D D _ _ _ hd8 hd9 (by rw [HPF.out.len]; omega) (by have := HPF.out.few; omega)
    rw [Dk.same_refl] at hsd
    go_wp2_with fail
    refine hsd.mono ?_
    rintro e w10 ⟨rfl, gN⟩
    replace gW := gW.trans gN
    replace hx := (gN.block _ (heap_lt hx)).trans hx
    replace hr := (gN.block _ (heap_lt hr)).trans hr
    replace hd := hd.grow gN
    replace hv := bytes_grow hv gN
    replace hx8 := (gN.block _ (heap_lt hx8)).trans hx8
    replace hx9 := (gN.block _ (heap_lt hx9)).trans hx9
    clear hsd p0 p1 q0 q1 gN hd8 hd9
    generalize w8.heap.size = g8 at *
    generalize w9.heap.size = g9 at *
    have hg8 : w.heap.size ≤ g8 := by omega
    have hg9 : w.heap.size ≤ g9 := by omega
    have hg89 : g8 ≠ g9 := by omega
    have hgx8 : w.heap.size ≠ g8 := by omega
    have hgx9 : w.heap.size ≠ g9 := by omega
    have y0 := box_cell hx 0 _ rfl
    have y1 := box_cell hx 1 _ rfl
    have z0 := box_cell hx8 0 _ rfl
    have z1 := box_cell hx8 1 _ rfl
    have f0 := box_frozen hx8 0
    have f1 := box_frozen hx8 1
    have cs := cell_set
    have hm1 := HMC S d p _ _ (fun b h => Nat.lt_of_lt_of_le (hSw b h) gW.size) hF hd
    go_wp2_with fail
    refine hm1.mono ?_
    rintro e w11 ⟨D1, v11, h11, rfl, hd11, gN, hin11, hl1, hl2⟩
    obtain ⟨ab1, cb1, al1, cl1, rfl, -, -⟩ := hd11.form
    have hz8 : g8 < w10.heap.size := heap_lt hx8
    have hz9 : g9 < w10.heap.size := heap_lt hx9
    replace gW := gW.trans gN
    replace hx := (gN.block _ (heap_lt hx)).trans hx
    replace hr := (gN.block _ (heap_lt hr)).trans hr
    replace hd := hd.grow gN
    replace hv := bytes_grow hv gN
    replace hx8 := (gN.block _ (heap_lt hx8)).trans hx8
    replace hx9 := (gN.block _ (heap_lt hx9)).trans hx9
    have hSz : w10.heap.size ≤ w11.heap.size := gN.size
    clear gN hm1 y0 y1 z0 z1 f0 f1
    have hnS8 : ¬ S g8 := fun h => by have := hSw _ h; omega
    have hnS9 : ¬ S g9 := fun h => by have := hSw _ h; omega
    obtain ⟨hp1, hp2⟩ := box_put2 hx8 (.slice ab1 D1.blocks.length cb1) (.slice al1 D1.late.length cl1)
    have z0 := box_cell hx8 0 _ rfl
    have z1 := box_cell hx8 1 _ rfl
    have f0 := box_frozen hx8 0
    have f1 := box_frozen hx8 1
    replace hx := (hp2.block _ (heap_lt hx) hgx8).trans hx
    replace hx9 := (hp2.block _ (heap_lt hx9) (fun e => hg89 e.symm)).trans hx9
    replace gW := hp2.grow gW hg8
    replace hd := hd.but hp2 hnS8
    have hu8 : ¬ Upon S w10.heap.size g8 := by
      rintro (h | h)
      · exact hnS8 h
      · omega
    have hu9 : ¬ Upon S w10.heap.size g9 := by
      rintro (h | h)
      · exact hnS9 h
      · omega
    replace hd11 := hd11.but hp2 hu8
    have hSz2 := hp2.size
    clear hv hr
    have y0 := box_cell hx 0 _ rfl
    have y1 := box_cell hx 1 _ rfl
    have hm2 := rmend_c S d p _ _ (fun b h => Nat.lt_of_lt_of_le (hSw b h) gW.size) hd h12a (by omega)
    go_wp2_with fail
    refine hm2.mono ?_
    rintro e w12 ⟨v12, rfl, hd12, gN⟩
    obtain ⟨ab2, cb2, al2, cl2, rfl, -, -⟩ := hd12.form
    replace gW := gW.trans gN
    replace hp1 := (gN.block _ (heap_lt hp1)).trans hp1
    have hz9' := heap_lt hx9
    replace hx9 := (gN.block _ (heap_lt hx9)).trans hx9
    replace hd11 := hd11.grow gN
    clear gN hm2 y0 y1 z0 z1 f0 f1 hp2 hx8 hx hd
    obtain ⟨hq1, hq2⟩ := box_put2 hx9 (.slice ab2 (d.mendD p).blocks.length cb2) (.slice al2 (d.mendD p).late.length cl2)
    have z0 := box_cell hx9 0 _ rfl
    have z1 := box_cell hx9 1 _ rfl
    have f0 := box_frozen hx9 0
    have f1 := box_frozen hx9 1
    replace hp1 := (hq2.block _ (heap_lt hp1) hg89).trans hp1
    replace gW := hq2.grow gW hg9
    replace hd11 := (hd11.but hq2 hu9).p
    have hu9' : ¬ Upon S ((w11.setCell ⟨g8, 0, none⟩ (.slice ab1 D1.blocks.length cb1)).setCell ⟨g8, 1, none⟩ (.slice al1 D1.late.length cl1)).heap.size g9 := by
      rintro (h | h)
      · exact hnS9 h
      · omega
    replace hd12 := (hd12.but hq2 hu9').p
    clear hq2 hx9 hu9 hu9' hu8 hnS8 hnS9
    have p0 := box_cell hp1 0 _ rfl
    have p1 := box_cell hp1 1 _ rfl
    have q0 := box_cell hq1 0 _ rfl
    have q1 := box_cell hq1 1 _ rfl
    by_cases hp0 : p < 0
    · clear hd11 hd12 hin11
      go_wp2_with fail
      go_ret
      exact ⟨rfl, gW⟩
    · by_cases hp6 : 6 ≤ p
      · have hp0' : 0 ≤ p := by omega
        clear hd11 hd12 hin11 hp0
        go_wp2_with fail
        go_ret
        exact ⟨rfl, gW⟩
      · obtain ⟨e1, e2⟩ := hin11 (by omega) (by omega)
        subst e2
        rw [HHO.out] at e1 ⊢
        subst e1
        have hp0' : 0 ≤ p := by omega
        have hp6' : p < 6 := by omega
        have hsd := rsame_c (d.mendD p) (d.mendD p) _ _ _ hd11 hd12 (by omega) (by omega)
        rw [Dk.same_refl] at hsd
        generalize d.mendD p = D at *
        clear hin11 hd11 hd12 hp0 hp6 hp1 hq1
        go_wp2_with fail
        refine hsd.mono ?_
        rintro e w13 ⟨rfl, gN⟩
        replace gW := gW.trans gN
        clear hsd gN p0 p1 q0 q1
        go_wp2_with fail
        go_ret
        exact ⟨rfl, gW⟩
  · have hR' : d.right = false := by simpa using hR
    rw [hR']
    clear hd hv hR hR'
    go_wp2_with fail
    go_ret
    exact ⟨rfl, gW⟩
end Go.Proofs.Ytgpfflfdigekeaa
