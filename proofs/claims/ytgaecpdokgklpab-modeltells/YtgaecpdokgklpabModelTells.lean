/-
  sclaw6.ModelTells answers true for all records, deeds and keys.
  Condition: the program's model keeps its contracts (premises).
-/
import Derived.Test.YtgaecpdokgklpabMdlC
namespace Go.Proofs.Ytgaecpdokgklpab
set_option maxRecDepth 100000
open Go.RowKit
open Go.Proofs.Ytgaecpdokgklpab.Plain Go.Proofs.Ytgaecpdokgklpab.Reg

set_option maxHeartbeats 8000000 in
theorem modelTells_of (MW : MWrongC) (MN : MNextC) (MM : MMadeC) (MD : MDoC) (MG : MGetC) (MS : MSameC) (l m : List Rec) (d : Dd) (key : Int) (vl vm : Value) (ad : Option Addr) (cd : Nat) (w : World) (hl : RecsS (fun b => b < w.heap.size) w vl l) (hm : RecsS (fun b => b < w.heap.size) w vm m) (hd : BytesS (fun b => b < w.heap.size) w (.slice ad d.data.length cd) d.data)
  (hll : l.length ≤ 140737488355328) (hlm : m.length ≤ 140737488355328) (hld : d.data.length ≤ 140737488355328) :
  Calls Try.prog 5 #[vl, vm, .agg #[.int .i64 d.kind, .int .i64 d.key, .int .i64 d.num, .slice ad d.data.length cd], .int .i64 key] w fun r w' => r = .returned (.bool true) ∧ Grow w w' := by
 obtain ⟨al, cl, rfl⟩ := hl.form
 obtain ⟨am, cm, rfl⟩ := hm.form
 have g0 := grow_alloc w (.cells #[.int .i64 d.kind, .int .i64 d.key, .int .i64 d.num, .slice ad d.data.length cd] 47)
 have hD0 := heap_new w #[.int .i64 d.kind, .int .i64 d.key, .int .i64 d.num, .slice ad d.data.length cd] 47
 obtain ⟨WD, hWD⟩ : ∃ WD, WD = wrongD d := ⟨_, rfl⟩
 obtain ⟨nx, hnx⟩ : ∃ nx, nx = nextV l := ⟨_, rfl⟩
 obtain ⟨sm, hsm⟩ : ∃ sm, sm = sameRs l m := ⟨_, rfl⟩
 obtain ⟨dr, hdr⟩ : ∃ dr, dr = doR l d := ⟨_, rfl⟩
 have HWD : Hid _ := hWD
 have HNX : Hid _ := hnx
 have HSM : Hid _ := hsm
 have HDR : Hid _ := hdr
 clear hWD hnx hsm hdr
 go_enter Try.func5, Try.ntmps5
 go_wp2_with fail
 generalize World.alloc w _ = W at *
 refine wp_region_told [ex (.agg #[.int .i64 d.kind, .int .i64 d.key, .int .i64 d.num, .slice ad d.data.length cd]), ex (.int .i64 WD), ex (.agg #[.int .i64 d.kind, .int .i64 d.key, .int .i64 d.num, .slice ad d.data.length cd]), ex (.int .i64 WD), ex (.bool false)] (by kernel_rfl) (by kernel_rfl) ⟨st_ex _, st_ex _, st_ex _, st_ex _, st_ex _, trivial⟩ ?_ ?_
 ·refine ⟨?_, ?_, ?_, ?_, ?_, trivial⟩
  ·refine need_plain rfl (fun a w' hg hin => ?_)
   have e6 : a.eval (.tmp 6) = .pointer (some ⟨w.heap.size, 0, none⟩) := ins_ext hin 6 (by kernel_rfl)
   have hx := (hg.block _ (heap_lt hD0)).trans hD0
   obtain ⟨z0, z1, z2, z3⟩ := box4 hx rfl rfl rfl rfl
   refine upon_val ?_ rfl
   clear hin hg hx
   obtain ⟨ek, ef⟩ := evs a
   generalize a.eval = ev at *
   go_simp
   all_goals first | omega | (intro _; omega) | go_arith
  ·refine need_plain rfl (fun a w' hg hin => ?_)
   have e18 : a.eval (.tmp 18) = _ := ins_on hin 0 (by kernel_rfl)
   refine upon_call (f := 18) (args := #[.agg #[.int .i64 d.kind, .int .i64 d.key, .int .i64 d.num, .slice ad d.data.length cd]]) ?_ ((MW d ad cd w' hld (hd.grow (g0.trans hg)).p).mono ?_)
   ·clear hin hg
    obtain ⟨ek, ef⟩ := evs a
    generalize a.eval = ev at *
    go_simp
    all_goals first | omega | (intro _; omega) | go_arith
   ·rw [← HWD.out]
    rintro e w2 ⟨rfl, g2⟩
    exact ⟨_, rfl, g2, rfl⟩
  ·refine need_plain rfl (fun a w' hg hin => ?_)
   have e6 : a.eval (.tmp 6) = .pointer (some ⟨w.heap.size, 0, none⟩) := ins_ext hin 6 (by kernel_rfl)
   have hx := (hg.block _ (heap_lt hD0)).trans hD0
   obtain ⟨z0, z1, z2, z3⟩ := box4 hx rfl rfl rfl rfl
   refine upon_val ?_ rfl
   clear hin hg hx
   obtain ⟨ek, ef⟩ := evs a
   generalize a.eval = ev at *
   go_simp
   all_goals first | omega | (intro _; omega) | go_arith
  ·refine need_plain rfl (fun a w' hg hin => ?_)
   have e20 : a.eval (.tmp 20) = _ := ins_on hin 2 (by kernel_rfl)
   refine upon_call (f := 19) (args := #[.agg #[.int .i64 d.kind, .int .i64 d.key, .int .i64 d.num, .slice ad d.data.length cd]]) ?_ ((rwrongD_any d ad cd w' hld).mono ?_)
   ·clear hin hg
    obtain ⟨ek, ef⟩ := evs a
    generalize a.eval = ev at *
    go_simp
    all_goals first | omega | (intro _; omega) | go_arith
   ·rw [← HWD.out]
    rintro e w2 ⟨rfl, g2⟩
    exact ⟨_, rfl, g2, rfl⟩
  ·refine need_plain rfl (fun a w' hg hin => ?_)
   have e19 : a.eval (.tmp 19) = _ := ins_on hin 1 (by kernel_rfl)
   have e21 : a.eval (.tmp 21) = _ := ins_on hin 3 (by kernel_rfl)
   refine upon_val ?_ rfl
   clear hin hg
   obtain ⟨ek, ef⟩ := evs a
   generalize a.eval = ev at *
   go_simp
   all_goals first | omega | (intro _; omega) | go_arith
 ·intro vs w' hg ht
  obtain ⟨q18, q19, q20, q21, q22, -⟩ := ht
  have r18 : vs 0 = .agg #[.int .i64 d.kind, .int .i64 d.key, .int .i64 d.num, .slice ad d.data.length cd] := q18
  have r19 : vs 1 = .int .i64 WD := q19
  have r20 : vs 2 = .agg #[.int .i64 d.kind, .int .i64 d.key, .int .i64 d.num, .slice ad d.data.length cd] := q20
  have r21 : vs 3 = .int .i64 WD := q21
  have r22 : vs 4 = .bool false := q22
  clear q18 q19 q20 q21 q22
  simp only [putAll, Act.put, List.setIfInBounds_toArray, List.set_cons_zero, List.set_cons_succ, r18, r19, r20, r21, r22]
  clear r18 r19 r20 r21 r22
  have gW := g0.trans hg
  have hD := (hg.block _ (heap_lt hD0)).trans hD0
  clear g0 hD0 hg
  go_wp2_with fail
  refine (rrightR_any _ l _ _ (hl.grow gW) hll).mono ?_
  obtain ⟨RL, hRL⟩ : ∃ RL, RL = rightR l := ⟨_, rfl⟩
  rw [← hRL]
  rintro e w1 ⟨rfl, g1⟩
  replace gW := gW.trans g1
  replace hD := (g1.block _ (heap_lt hD)).trans hD
  clear g1
  cases RL with
  | false =>
   clear hRL
   go_wp2_with fail
   go_ret
   exact ⟨rfl, gW⟩
  | true =>
   have HRL : Hid (rightR l = true) := hRL.symm
   clear hRL
   go_wp2_with fail
   refine (rrightR_any _ m _ _ (hm.grow gW) hlm).mono ?_
   obtain ⟨RM, hRM⟩ : ∃ RM, RM = rightR m := ⟨_, rfl⟩
   rw [← hRM]
   rintro e w1 ⟨rfl, g1⟩
   replace gW := gW.trans g1
   replace hD := (g1.block _ (heap_lt hD)).trans hD
   clear g1
   cases RM with
   | false =>
    clear hRM
    go_wp2_with fail
    go_ret
    exact ⟨rfl, gW⟩
   | true =>
    have HRM : Hid (rightR m = true) := hRM.symm
    clear hRM
    have hl40 : l.length ≤ 40 := ((rightR_iff l).1 HRL.out).2
    have hm40 : m.length ≤ 40 := ((rightR_iff m).1 HRM.out).2
    go_wp2_with fail
    refine (MG _ l key _ _ (fun b h => Nat.lt_of_lt_of_le h gW.size) HRL.out (hl.grow gW)).mono ?_
    obtain ⟨G, hG⟩ : ∃ G, G = getK l key := ⟨_, rfl⟩
    rw [← hG]
    rintro e w1 ⟨ua, rfl, hba, g1⟩
    obtain ⟨aa, ca, rfl⟩ := hba.form
    replace gW := gW.trans g1
    replace hD := (g1.block _ (heap_lt hD)).trans hD
    replace hba := hba.p
    clear g1
    go_wp2_with fail
    refine (rgetK_any _ l key _ _ (hl.grow gW) (by omega)).mono ?_
    rw [← hG]
    have HG : Hid _ := hG
    clear hG
    rintro e w1 ⟨ub, rfl, hbb, g1⟩
    obtain ⟨ab, cb, rfl⟩ := hbb.form
    replace gW := gW.trans g1
    replace hD := (g1.block _ (heap_lt hD)).trans hD
    replace hba := bytes_grow hba g1
    replace hbb := hbb.p
    clear g1
    have ra := run_str6 _ _ _ hba
    have rb := run_str6 _ _ _ hbb
    clear hba hbb
    go_wp2_with fail
    refine (MN _ l _ _ HRL.out (hl.grow gW)).mono ?_
    rw [← HNX.out]
    rintro e w1 ⟨rfl, g1⟩
    replace gW := gW.trans g1
    replace hD := (g1.block _ (heap_lt hD)).trans hD
    clear g1 ra rb
    go_wp2_with fail
    refine (rnext_any _ l _ _ (hl.grow gW) (by omega) (rightR_ver HRL.out)).mono ?_
    rw [← HNX.out]
    rintro e w1 ⟨rfl, g1⟩
    replace gW := gW.trans g1
    replace hD := (g1.block _ (heap_lt hD)).trans hD
    clear g1
    go_wp2_with fail
    refine (MS _ _ l m _ _ _ HRL.out HRM.out (hl.grow gW) (hm.grow gW)).mono ?_
    rw [← HSM.out]
    rintro e w1 ⟨rfl, g1⟩
    replace gW := gW.trans g1
    replace hD := (g1.block _ (heap_lt hD)).trans hD
    clear g1
    go_wp2_with fail
    refine (rsameR_any _ _ l m _ _ _ (hl.grow gW) (hm.grow gW) (by omega) (by omega)).mono ?_
    rw [← HSM.out]
    rintro e w1 ⟨rfl, g1⟩
    replace gW := gW.trans g1
    replace hD := (g1.block _ (heap_lt hD)).trans hD
    clear g1
    have dsm : (sm != sm) = false := by simp
    obtain ⟨y0, y1, y2, y3⟩ := box4 hD rfl rfl rfl rfl
    go_wp2_with fail
    refine (rwrongD_any d ad cd _ hld).mono ?_
    rw [← HWD.out]
    rintro e w1 ⟨rfl, g1⟩
    replace gW := gW.trans g1
    replace hD := (g1.block _ (heap_lt hD)).trans hD
    clear g1 y0 y1 y2 y3 dsm
    by_cases hw0 : WD = 0
    ·have HW0 : Hid (wrongD d = 0) := by show _ = _; rw [← HWD.out, hw0]
     have d0 : (WD != 0) = false := by simp [hw0]
     clear hw0
     obtain ⟨y0, y1, y2, y3⟩ := box4 hD rfl rfl rfl rfl
     go_wp2_with fail
     refine (MD _ l d _ ad cd _ (fun b h => Nat.lt_of_lt_of_le h gW.size) HRL.out HW0.out (hl.grow gW) (hd.grow gW)).mono ?_
     rw [← HDR.out]
     rintro e w1 ⟨vx, rfl, hx, g1⟩
     obtain ⟨ax, cx, rfl⟩ := hx.form
     replace gW := gW.trans g1
     replace hD := (g1.block _ (heap_lt hD)).trans hD
     clear g1 y0 y1 y2 y3 d0
     obtain ⟨y0, y1, y2, y3⟩ := box4 hD rfl rfl rfl rfl
     go_wp2_with fail
     refine (rdo_any _ l d _ ad cd _ (fun b h => Nat.lt_of_lt_of_le h gW.size) (hl.grow gW) (hd.grow gW) (by omega) (rightR_ver HRL.out) (wrongD_bd HW0.out).1 (wrongD_bd HW0.out).2.1).mono ?_
     rw [← HDR.out]
     rintro e w1 ⟨vy, rfl, hy, g1⟩
     obtain ⟨ay, cy, rfl⟩ := hy.form
     replace gW := gW.trans g1
     replace hD := (g1.block _ (heap_lt hD)).trans hD
     replace hx := hx.grow g1
     clear g1 y0 y1 y2 y3
     have hdl : dr.l.length ≤ 41 := by
      rw [HDR.out]
      unfold doR
      split
      ·split
       ·simp; omega
       ·exact Nat.le_trans hl40 (by omega)
      ·split
       ·exact Nat.le_trans hl40 (by omega)
       ·split
        ·exact Nat.le_trans hl40 (by omega)
        ·simp; omega
     obtain ⟨rl, rn, re⟩ := dr
     simp only at hdl hx hy
     have dn : (rn != rn) = false := by simp
     have de : (re != re) = false := by simp
     go_wp2_with fail
     clear dn de
     obtain ⟨W1, rfl⟩ : ∃ W1 : World, W1 = w1 := ⟨_, rfl⟩
     go_loopw [103] (fun i wr => ∃ k : Nat, k ≤ rl.length ∧ i = .int .i64 k ∧ Grow W1 wr) (fun i _ => rl.length - (intOf i).toNat)
     case atStart => exact ⟨0, Nat.zero_le _, rfl, Grow.refl _⟩
     case round =>
      obtain ⟨k, hk, rfl, hgr⟩ := hrel
      by_cases hlt : k < rl.length
      ·obtain ⟨b1, o1, a1, c1, hv1, p0, p1, p2, p3, hu⟩ := recs_at (hx.grow hgr) k hlt
       obtain ⟨b2, o2, a2, c2, hv2, q0, q1, q2, q3, hz⟩ := recs_at (hy.grow hgr) k hlt
       cases hv1
       cases hv2
       have HSB : Hid (sameB rl[k] rl[k] = true) := sameB_refl _
       generalize rl[k] = r at *
       go_wp2_with fail
       refine wp_region_told [ex (.slice (some ⟨b1, o1, none⟩) rl.length cx), ex (.int .i64 (k : Int)), ex (.pointer (some ⟨b1, o1 + k * 4, none⟩)), ex (.agg #[.int .i64 r.kind, .int .i64 r.key, .int .i64 r.ver, .slice a1 r.data.length c1]), ex (.slice (some ⟨b2, o2, none⟩) rl.length cy), ex (.int .i64 (k : Int)), ex (.pointer (some ⟨b2, o2 + k * 4, none⟩)), ex (.agg #[.int .i64 r.kind, .int .i64 r.key, .int .i64 r.ver, .slice a2 r.data.length c2]), ex (.bool true), ex (.bool false)] (by kernel_rfl) (by kernel_rfl) ⟨st_ex _, st_ex _, st_ex _, st_ex _, st_ex _, st_ex _, st_ex _, st_ex _, st_ex _, st_ex _, trivial⟩ ?_ ?_
       ·refine ⟨?_, ?_, ?_, ?_, ?_, ?_, ?_, ?_, ?_, ?_, trivial⟩
        ·refine need_plain rfl (fun a w' hg hin => ?_)
         have e : a.eval (.tmp 13) = .slice (some ⟨b1, o1, none⟩) rl.length cx := ins_ext hin 13 (by kernel_rfl)
         exact upon_move rfl e
        ·refine need_plain rfl (fun a w' hg hin => ?_)
         have e : a.eval (.tmp 17) = .int .i64 (k : Int) := ins_ext hin 17 (by kernel_rfl)
         exact upon_move rfl e
        ·refine need_plain rfl (fun a w' hg hin => ?_)
         have e106 : a.eval (.tmp 106) = _ := ins_on hin 0 (by kernel_rfl)
         have e107 : a.eval (.tmp 107) = _ := ins_on hin 1 (by kernel_rfl)
         refine upon_val ?_ rfl
         clear hin hg
         obtain ⟨ek, ef⟩ := evs a
         generalize a.eval = ev at *
         go_simp
         all_goals first | omega | (intro _; omega) | go_arith
        ·refine need_plain rfl (fun a w' hg hin => ?_)
         have e108 : a.eval (.tmp 108) = _ := ins_on hin 2 (by kernel_rfl)
         have h0 := (Below.cell hg (cell_lt p0)).trans p0
         have h1 := (Below.cell hg (cell_lt p1)).trans p1
         have h2 := (Below.cell hg (cell_lt p2)).trans p2
         have h3 := (Below.cell hg (cell_lt p3)).trans p3
         refine upon_val ?_ rfl
         clear hin hg
         obtain ⟨ek, ef⟩ := evs a
         generalize a.eval = ev at *
         go_simp
         all_goals first | omega | (intro _; omega) | go_arith
        ·refine need_plain rfl (fun a w' hg hin => ?_)
         have e : a.eval (.tmp 15) = .slice (some ⟨b2, o2, none⟩) rl.length cy := ins_ext hin 15 (by kernel_rfl)
         exact upon_move rfl e
        ·refine need_plain rfl (fun a w' hg hin => ?_)
         have e : a.eval (.tmp 17) = .int .i64 (k : Int) := ins_ext hin 17 (by kernel_rfl)
         exact upon_move rfl e
        ·refine need_plain rfl (fun a w' hg hin => ?_)
         have e110 : a.eval (.tmp 110) = _ := ins_on hin 4 (by kernel_rfl)
         have e111 : a.eval (.tmp 111) = _ := ins_on hin 5 (by kernel_rfl)
         refine upon_val ?_ rfl
         clear hin hg
         obtain ⟨ek, ef⟩ := evs a
         generalize a.eval = ev at *
         go_simp
         all_goals first | omega | (intro _; omega) | go_arith
        ·refine need_plain rfl (fun a w' hg hin => ?_)
         have e112 : a.eval (.tmp 112) = _ := ins_on hin 6 (by kernel_rfl)
         have h0 := (Below.cell hg (cell_lt q0)).trans q0
         have h1 := (Below.cell hg (cell_lt q1)).trans q1
         have h2 := (Below.cell hg (cell_lt q2)).trans q2
         have h3 := (Below.cell hg (cell_lt q3)).trans q3
         refine upon_val ?_ rfl
         clear hin hg
         obtain ⟨ek, ef⟩ := evs a
         generalize a.eval = ev at *
         go_simp
         all_goals first | omega | (intro _; omega) | go_arith
        ·refine need_plain rfl (fun a w' hg hin => ?_)
         have e109 : a.eval (.tmp 109) = _ := ins_on hin 3 (by kernel_rfl)
         have e113 : a.eval (.tmp 113) = _ := ins_on hin 7 (by kernel_rfl)
         refine upon_call (f := 13) (args := #[.agg #[.int .i64 r.kind, .int .i64 r.key, .int .i64 r.ver, .slice a1 r.data.length c1], .agg #[.int .i64 r.kind, .int .i64 r.key, .int .i64 r.ver, .slice a2 r.data.length c2]]) ?_ ((rsame_any _ _ _ _ _ _ r.data r.data _ _ w' (bytes_grow hu.p hg) (bytes_grow hz.p hg)).mono ?_)
         ·clear hin hg
          obtain ⟨ek, ef⟩ := evs a
          generalize a.eval = ev at *
          go_simp
          all_goals first | omega | (intro _; omega) | go_arith
         ·rintro e w2 ⟨rfl, g2⟩
          exact ⟨_, rfl, g2, by rw [← HSB.out]; rfl⟩
        ·refine need_plain rfl (fun a w' hg hin => ?_)
         have e114 : a.eval (.tmp 114) = _ := ins_on hin 8 (by kernel_rfl)
         refine upon_val ?_ rfl
         clear hin hg
         obtain ⟨ek, ef⟩ := evs a
         generalize a.eval = ev at *
         go_simp
         all_goals first | omega | (intro _; omega) | go_arith
       ·intro vs w' hg ht
        obtain ⟨q106, q107, q108, q109, q110, q111, q112, q113, q114, q115, -⟩ := ht
        have r106 : vs 0 = .slice (some ⟨b1, o1, none⟩) rl.length cx := q106
        have r107 : vs 1 = .int .i64 (k : Int) := q107
        have r108 : vs 2 = .pointer (some ⟨b1, o1 + k * 4, none⟩) := q108
        have r109 : vs 3 = .agg #[.int .i64 r.kind, .int .i64 r.key, .int .i64 r.ver, .slice a1 r.data.length c1] := q109
        have r110 : vs 4 = .slice (some ⟨b2, o2, none⟩) rl.length cy := q110
        have r111 : vs 5 = .int .i64 (k : Int) := q111
        have r112 : vs 6 = .pointer (some ⟨b2, o2 + k * 4, none⟩) := q112
        have r113 : vs 7 = .agg #[.int .i64 r.kind, .int .i64 r.key, .int .i64 r.ver, .slice a2 r.data.length c2] := q113
        have r114 : vs 8 = .bool true := q114
        have r115 : vs 9 = .bool false := q115
        clear q106 q107 q108 q109 q110 q111 q112 q113 q114 q115
        simp only [putAll, Act.put, List.setIfInBounds_toArray, List.set_cons_zero, List.set_cons_succ, r106, r107, r108, r109, r110, r111, r112, r113, r114, r115]
        clear r106 r107 r108 r109 r110 r111 r112 r113 r114 r115
        have gE := hgr.trans hg
        clear hg hgr p0 p1 p2 p3 q0 q1 q2 q3 hu hz
        go_wp2_with fail
        go_roundw
        case rel => exact ⟨k + 1, by omega, by go_num, gE⟩
        case measure => simp [intOf]; omega
      ·replace gW := gW.trans hgr
       replace hD := (hgr.block _ (heap_lt hD)).trans hD
       clear hgr hx hy
       have hdW := hd.grow gW
       obtain ⟨hb0, hb1, -, -, hb4, -⟩ := wrongD_bd HW0.out
       go_wp2_with fail
       by_cases hk3 : d.kind = 3
       ·have d3 : (d.kind == 3) = true := by simp [hk3]
        clear hk3
        refine wp_region_told [ex (.pointer (some ⟨w.heap.size, 0, none⟩)), ex (.int .i64 d.kind), ex (.bool true), ex (.bool true), ex (undef), ex (undef), ex (undef), ex (undef), ex (undef), ex (.bool true), ex (.bool true)] (by kernel_rfl) (by kernel_rfl) ⟨st_ex _, st_ex _, st_ex _, st_ex _, st_ex _, st_ex _, st_ex _, st_ex _, st_ex _, st_ex _, st_ex _, trivial⟩ ?_ ?_
        ·refine ⟨?_, ?_, ?_, ?_, ?_, ?_, ?_, ?_, ?_, ?_, ?_, trivial⟩
         ·refine need_plain rfl (fun a w' hg hin => ?_)
          have e6 : a.eval (.tmp 6) = .pointer (some ⟨w.heap.size, 0, none⟩) := ins_ext hin 6 (by kernel_rfl)
          refine upon_val ?_ rfl
          clear hin hg
          obtain ⟨ek, ef⟩ := evs a
          generalize a.eval = ev at *
          go_simp
          all_goals first | omega | (intro _; omega) | go_arith
         ·refine need_plain rfl (fun a w' hg hin => ?_)
          have e117 : a.eval (.tmp 117) = _ := ins_on hin 0 (by kernel_rfl)
          have z0 := box_cell ((hg.block _ (heap_lt hD)).trans hD) 0 _ rfl
          refine upon_val ?_ rfl
          clear hin hg
          obtain ⟨ek, ef⟩ := evs a
          generalize a.eval = ev at *
          go_simp
          all_goals first | omega | (intro _; omega) | go_arith
         ·refine need_plain rfl (fun a w' hg hin => ?_)
          have e118 : a.eval (.tmp 118) = _ := ins_on hin 1 (by kernel_rfl)
          refine upon_val ?_ rfl
          clear hin hg
          obtain ⟨ek, ef⟩ := evs a
          generalize a.eval = ev at *
          go_simp
          all_goals first | omega | (intro _; omega) | go_arith
         ·refine need_plain rfl (fun a w' hg hin => ?_)
          have e : a.eval (.tmp 119) = _ := ins_on hin 2 (by kernel_rfl)
          exact upon_move rfl e
         ·refine need_no 3 false true rfl (by decide) (fun a w' hin => ins_on hin 3 (by kernel_rfl)) (fun _ => rfl)
         ·refine need_no 3 false true rfl (by decide) (fun a w' hin => ins_on hin 3 (by kernel_rfl)) (fun _ => rfl)
         ·refine need_no 3 false true rfl (by decide) (fun a w' hin => ins_on hin 3 (by kernel_rfl)) (fun _ => rfl)
         ·refine need_no 3 false true rfl (by decide) (fun a w' hin => ins_on hin 3 (by kernel_rfl)) (fun _ => rfl)
         ·refine need_no 3 false true rfl (by decide) (fun a w' hin => ins_on hin 3 (by kernel_rfl)) (fun _ => rfl)
         ·refine need_plain rfl (fun a w' hg hin => ?_)
          have ec : a.eval (.tmp 120) = _ := ins_on hin 3 (by kernel_rfl)
          exact upon_pick rfl ec rfl
         ·refine need_plain rfl (fun a w' hg hin => ?_)
          have e : a.eval (.tmp 126) = _ := ins_on hin 9 (by kernel_rfl)
          exact upon_assign rfl e
        ·intro vs w' hg ht
         obtain ⟨q117, q118, q119, q120, q121, q122, q123, q124, q125, q126, q8, -⟩ := ht
         have r117 : vs 0 = .pointer (some ⟨w.heap.size, 0, none⟩) := q117
         have r118 : vs 1 = .int .i64 d.kind := q118
         have r119 : vs 2 = .bool true := q119
         have r120 : vs 3 = .bool true := q120
         have r121 : vs 4 = undef := q121
         have r122 : vs 5 = undef := q122
         have r123 : vs 6 = undef := q123
         have r124 : vs 7 = undef := q124
         have r125 : vs 8 = undef := q125
         have r126 : vs 9 = .bool true := q126
         have r8 : vs 10 = .bool true := q8
         clear q117 q118 q119 q120 q121 q122 q123 q124 q125 q126 q8
         simp only [putAll, Act.put, List.setIfInBounds_toArray, List.set_cons_zero, List.set_cons_succ, r117, r118, r119, r120, r121, r122, r123, r124, r125, r126, r8]
         clear r117 r118 r119 r120 r121 r122 r123 r124 r125 r126 r8
         have gE := gW.trans hg
         clear hg hD hdW gW
         go_wp2_with fail
         go_ret
         exact ⟨rfl, gE⟩
       ·have d3 : (d.kind == 3) = false := by simp [hk3]
        have HK3 : Hid (d.kind ≠ 3) := hk3
        have HSB : Hid (sameB (madeR d 5) (madeR d 5) = true) := sameB_refl _
        clear hk3
        obtain ⟨W2, rfl⟩ : ∃ W2 : World, W2 = wr := ⟨_, rfl⟩
        refine wp_region_told [ex (.pointer (some ⟨w.heap.size, 0, none⟩)), ex (.int .i64 d.kind), ex (.bool false), ex (.bool false), ex (.agg #[.int .i64 d.kind, .int .i64 d.key, .int .i64 d.num, .slice ad d.data.length cd]), ((fun v w' => ∃ a' c', v = .agg #[.int .i64 (1 + d.kind), .int .i64 d.key, .int .i64 5, .slice a' d.data.length c'] ∧ Bytes w' (.slice a' d.data.length c') d.data)), ex (.agg #[.int .i64 d.kind, .int .i64 d.key, .int .i64 d.num, .slice ad d.data.length cd]), ex (.agg #[.int .i64 (1 + d.kind), .int .i64 d.key, .int .i64 5, .slice ad d.data.length cd]), ex (.bool true), ex (.bool true), ex (.bool true)] (by kernel_rfl) (by kernel_rfl) ⟨st_ex _, st_ex _, st_ex _, st_ex _, st_ex _, (fun v w w' hg h => by obtain ⟨a', c', h1, h2⟩ := h; exact ⟨a', c', h1, bytes_grow h2 hg⟩), st_ex _, st_ex _, st_ex _, st_ex _, st_ex _, trivial⟩ ?_ ?_
        ·refine ⟨?_, ?_, ?_, ?_, ?_, ?_, ?_, ?_, ?_, ?_, ?_, trivial⟩
         ·refine need_plain rfl (fun a w' hg hin => ?_)
          have e6 : a.eval (.tmp 6) = .pointer (some ⟨w.heap.size, 0, none⟩) := ins_ext hin 6 (by kernel_rfl)
          refine upon_val ?_ rfl
          clear hin hg
          obtain ⟨ek, ef⟩ := evs a
          generalize a.eval = ev at *
          go_simp
          all_goals first | omega | (intro _; omega) | go_arith
         ·refine need_plain rfl (fun a w' hg hin => ?_)
          have e117 : a.eval (.tmp 117) = _ := ins_on hin 0 (by kernel_rfl)
          have z0 := box_cell ((hg.block _ (heap_lt hD)).trans hD) 0 _ rfl
          refine upon_val ?_ rfl
          clear hin hg
          obtain ⟨ek, ef⟩ := evs a
          generalize a.eval = ev at *
          go_simp
          all_goals first | omega | (intro _; omega) | go_arith
         ·refine need_plain rfl (fun a w' hg hin => ?_)
          have e118 : a.eval (.tmp 118) = _ := ins_on hin 1 (by kernel_rfl)
          refine upon_val ?_ rfl
          clear hin hg
          obtain ⟨ek, ef⟩ := evs a
          generalize a.eval = ev at *
          go_simp
          all_goals first | omega | (intro _; omega) | go_arith
         ·refine need_plain rfl (fun a w' hg hin => ?_)
          have e : a.eval (.tmp 119) = _ := ins_on hin 2 (by kernel_rfl)
          exact upon_move rfl e
         ·refine need_yes 3 false rfl (fun a w' hin => ins_on hin 3 (by kernel_rfl)) (fun a w' hg hin => ?_)
          have e6 : a.eval (.tmp 6) = .pointer (some ⟨w.heap.size, 0, none⟩) := ins_ext hin 6 (by kernel_rfl)
          have hx := (hg.block _ (heap_lt hD)).trans hD
          obtain ⟨z0, z1, z2, z3⟩ := box4 hx rfl rfl rfl rfl
          refine upon_val ?_ rfl
          clear hin hg hx
          obtain ⟨ek, ef⟩ := evs a
          generalize a.eval = ev at *
          go_simp
          all_goals first | omega | (intro _; omega) | go_arith
         ·refine need_yes 3 false rfl (fun a w' hin => ins_on hin 3 (by kernel_rfl)) (fun a w' hg hin => ?_)
          have e121 : a.eval (.tmp 121) = _ := ins_on hin 4 (by kernel_rfl)
          refine upon_call (f := 29) (args := #[.agg #[.int .i64 d.kind, .int .i64 d.key, .int .i64 d.num, .slice ad d.data.length cd], .int .i64 5]) ?_ ((MM _ d 5 ad cd w' (fun b h => Nat.lt_of_lt_of_le h (gW.trans hg).size) HW0.out HK3.out (by omega) (by omega) (hdW.grow hg)).mono ?_)
          ·clear hin hg
           obtain ⟨ek, ef⟩ := evs a
           generalize a.eval = ev at *
           go_simp
           all_goals first | omega | (intro _; omega) | go_arith
          ·rintro e w2 ⟨a', c', rfl, hb, g2⟩
           exact ⟨_, rfl, g2, a', c', rfl, hb.p⟩
         ·refine need_yes 3 false rfl (fun a w' hin => ins_on hin 3 (by kernel_rfl)) (fun a w' hg hin => ?_)
          have e6 : a.eval (.tmp 6) = .pointer (some ⟨w.heap.size, 0, none⟩) := ins_ext hin 6 (by kernel_rfl)
          have hx := (hg.block _ (heap_lt hD)).trans hD
          obtain ⟨z0, z1, z2, z3⟩ := box4 hx rfl rfl rfl rfl
          refine upon_val ?_ rfl
          clear hin hg hx
          obtain ⟨ek, ef⟩ := evs a
          generalize a.eval = ev at *
          go_simp
          all_goals first | omega | (intro _; omega) | go_arith
         ·refine need_yes 3 false rfl (fun a w' hin => ins_on hin 3 (by kernel_rfl)) (fun a w' hg hin => ?_)
          have e123 : a.eval (.tmp 123) = _ := ins_on hin 6 (by kernel_rfl)
          refine upon_call (f := 30) (args := #[.agg #[.int .i64 d.kind, .int .i64 d.key, .int .i64 d.num, .slice ad d.data.length cd], .int .i64 5]) ?_ ((rmade_any d 5 ad cd w' (by omega) (by omega)).mono ?_)
          ·clear hin hg
           obtain ⟨ek, ef⟩ := evs a
           generalize a.eval = ev at *
           go_simp
           all_goals first | omega | (intro _; omega) | go_arith
          ·rintro e w2 ⟨rfl, g2⟩
           exact ⟨_, rfl, g2, rfl⟩
         ·refine need_yes 3 false rfl (fun a w' hin => ins_on hin 3 (by kernel_rfl)) (fun a w' hg hin => ?_)
          have e122 : ((fun v w' => ∃ a' c', v = .agg #[.int .i64 (1 + d.kind), .int .i64 d.key, .int .i64 5, .slice a' d.data.length c'] ∧ Bytes w' (.slice a' d.data.length c') d.data)) (a.eval (.tmp 122)) w' := ins_on hin 5 (by kernel_rfl)
          have e124 : a.eval (.tmp 124) = _ := ins_on hin 7 (by kernel_rfl)
          obtain ⟨a', c', h122, hb⟩ := e122
          refine upon_call (f := 13) (args := #[.agg #[.int .i64 (1 + d.kind), .int .i64 d.key, .int .i64 5, .slice a' d.data.length c'], .agg #[.int .i64 (1 + d.kind), .int .i64 d.key, .int .i64 5, .slice ad d.data.length cd]]) ?_ ((rsame_any _ _ _ _ _ _ d.data d.data _ _ w' hb (hdW.grow hg).p).mono ?_)
          ·clear hin hg hb
           obtain ⟨ek, ef⟩ := evs a
           generalize a.eval = ev at *
           go_simp
           all_goals first | omega | (intro _; omega) | go_arith
          ·rintro e w2 ⟨rfl, g2⟩
           exact ⟨_, rfl, g2, by rw [← HSB.out]; rfl⟩
         ·refine need_plain rfl (fun a w' hg hin => ?_)
          have ec : a.eval (.tmp 120) = _ := ins_on hin 3 (by kernel_rfl)
          have e : a.eval (.tmp 125) = _ := ins_on hin 8 (by kernel_rfl)
          exact upon_pick rfl ec e
         ·refine need_plain rfl (fun a w' hg hin => ?_)
          have e : a.eval (.tmp 126) = _ := ins_on hin 9 (by kernel_rfl)
          exact upon_assign rfl e
        ·intro vs w' hg ht
         obtain ⟨q117, q118, q119, q120, q121, q122, q123, q124, q125, q126, q8, -⟩ := ht
         have r117 : vs 0 = .pointer (some ⟨w.heap.size, 0, none⟩) := q117
         have r118 : vs 1 = .int .i64 d.kind := q118
         have r119 : vs 2 = .bool false := q119
         have r120 : vs 3 = .bool false := q120
         have r121 : vs 4 = .agg #[.int .i64 d.kind, .int .i64 d.key, .int .i64 d.num, .slice ad d.data.length cd] := q121
         have r123 : vs 6 = .agg #[.int .i64 d.kind, .int .i64 d.key, .int .i64 d.num, .slice ad d.data.length cd] := q123
         have r124 : vs 7 = .agg #[.int .i64 (1 + d.kind), .int .i64 d.key, .int .i64 5, .slice ad d.data.length cd] := q124
         have r125 : vs 8 = .bool true := q125
         have r126 : vs 9 = .bool true := q126
         have r8 : vs 10 = .bool true := q8
         clear q117 q118 q119 q120 q121 q123 q124 q125 q126 q8
         simp only [putAll, Act.put, List.setIfInBounds_toArray, List.set_cons_zero, List.set_cons_succ, r117, r118, r119, r120, r121, r123, r124, r125, r126, r8]
         clear r117 r118 r119 r120 r121 r123 r124 r125 r126 r8
         have gE := gW.trans hg
         clear hg hD hdW gW q122
         go_wp2_with fail
         go_ret
         exact ⟨rfl, gE⟩
    ·have d0 : (WD != 0) = true := by simp [hw0]
     clear hw0
     go_wp2_with fail
     go_ret
     exact ⟨rfl, gW⟩
end Go.Proofs.Ytgaecpdokgklpab
