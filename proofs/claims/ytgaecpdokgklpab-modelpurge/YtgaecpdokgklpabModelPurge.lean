/-
  sclaw6.ModelPurge answers true for all records, deeds and keys.
  Condition: the program's model keeps its contracts (premises).
-/
import Derived.Test.YtgaecpdokgklpabMAlive
namespace Go.Proofs.Ytgaecpdokgklpab
set_option maxRecDepth 100000
open Go.RowKit
open Go.Proofs.Ytgaecpdokgklpab.Plain Go.Proofs.Ytgaecpdokgklpab.Reg

set_option maxHeartbeats 8000000 in
theorem modelPurge_of (MW : MWrongC) (MN : MNextC) (MM : MMadeC) (MD : MDoC) (MG : MGetC) (MS : MSameC) (l : List Rec) (d : Dd) (key : Int) (vl : Value) (ad : Option Addr) (cd : Nat) (w : World) (hl : RecsS (fun b => b < w.heap.size) w vl l) (hd : BytesS (fun b => b < w.heap.size) w (.slice ad d.data.length cd) d.data)
  (hll : l.length ≤ 140737488355328) (hld : d.data.length ≤ 140737488355328) :
  Calls Try.prog 7 #[vl, .agg #[.int .i64 d.kind, .int .i64 d.key, .int .i64 d.num, .slice ad d.data.length cd], .int .i64 key] w fun r w' => r = .returned (.bool true) ∧ Grow w w' := by
 obtain ⟨al, cl, rfl⟩ := hl.form
 have gW := grow_alloc w (.cells #[.int .i64 d.kind, .int .i64 d.key, .int .i64 d.num, .slice ad d.data.length cd] 47)
 have hD := heap_new w #[.int .i64 d.kind, .int .i64 d.key, .int .i64 d.num, .slice ad d.data.length cd] 47
 obtain ⟨WD, hWD⟩ : ∃ WD, WD = wrongD d := ⟨_, rfl⟩
 obtain ⟨nx, hnx⟩ : ∃ nx, nx = nextV l := ⟨_, rfl⟩
 obtain ⟨dr, hdr⟩ : ∃ dr, dr = doR l d := ⟨_, rfl⟩
 have HWD : Hid _ := hWD
 have HNX : Hid _ := hnx
 have HDR : Hid _ := hdr
 clear hWD hnx hdr
 go_enter Try.func7, Try.ntmps7
 go_wp2_with fail
 refine (malive_of MW MN MM MD MG MS _).mono ?_
 rintro e w1 ⟨rfl, g1⟩
 replace gW := gW.trans g1
 replace hD := (g1.block _ (heap_lt hD)).trans hD
 clear g1
 go_wp2_with fail
 refine (rrightR_any _ l _ _ (hl.grow gW) hll).mono ?_
 obtain ⟨RL, hRL⟩ : ∃ RL, RL = rightR l := ⟨_, rfl⟩
 rw [← hRL]
 rintro e w1 ⟨rfl, g1⟩
 replace gW := gW.trans g1
 replace hD := (g1.block _ (heap_lt hD)).trans hD
 clear g1
 cases RL with
 | false =>
  clear hRL
  go_wp2_with fail
  go_ret
  exact ⟨rfl, gW⟩
 | true =>
  have HRL : Hid (rightR l = true) := hRL.symm
  clear hRL
  have hl40 : l.length ≤ 40 := ((rightR_iff l).1 HRL.out).2
  obtain ⟨y0, y1, y2, y3⟩ := box4 hD rfl rfl rfl rfl
  go_wp2_with fail
  refine (MW d ad cd _ hld (hd.grow gW).p).mono ?_
  rw [← HWD.out]
  rintro e w1 ⟨rfl, g1⟩
  replace gW := gW.trans g1
  replace hD := (g1.block _ (heap_lt hD)).trans hD
  clear g1
  clear y0 y1 y2 y3
  by_cases hw0 : WD = 0
  ·have HW0 : Hid (wrongD d = 0) := by show _ = _; rw [← HWD.out, hw0]
   have d0 : (WD != 0) = false := by simp [hw0]
   clear hw0
   obtain ⟨hb0, hb1, -, -, hb4, hb5⟩ := wrongD_bd HW0.out
   obtain ⟨y0, y1, y2, y3⟩ := box4 hD rfl rfl rfl rfl
   by_cases hk3 : d.kind = 3
   ·have d3 : (d.kind == 3) = true := by simp [hk3]
    clear hk3
    go_wp2_with fail
    go_ret
    exact ⟨rfl, gW⟩
   ·have d3 : (d.kind == 3) = false := by simp [hk3]
    have HK3 : Hid (d.kind ≠ 3) := hk3
    have HDR2 : Hid (dr = if 5 < l.length then ⟨l, 0, 9⟩ else if 60000 < nx then ⟨l, 0, 4⟩ else ⟨l ++ [madeR d nx], nx, 0⟩) := by show dr = _; rw [HDR.out, HNX.out]; unfold doR; rw [if_neg hk3]
    clear hk3
    go_wp2_with fail
    refine (MD _ l d _ ad cd _ (fun b h => Nat.lt_of_lt_of_le h gW.size) HRL.out HW0.out (hl.grow gW) (hd.grow gW)).mono ?_
    rw [← HDR.out]
    rintro e w1 ⟨vx, rfl, hx, g1⟩
    obtain ⟨ax, cx, rfl⟩ := hx.form
    replace gW := gW.trans g1
    replace hD := (g1.block _ (heap_lt hD)).trans hD
    clear g1
    clear y0 y1 y2 y3 d3 d0
    by_cases h5 : 5 < l.length
    ·have hdd : dr = ⟨l, 0, 9⟩ := by rw [HDR2.out, if_pos h5]
     subst hdd
     clear HDR2 hx HDR
     go_wp2_with fail
     go_ret
     exact ⟨rfl, gW⟩
    ·by_cases h6 : 60000 < nx
     ·have hdd : dr = ⟨l, 0, 4⟩ := by rw [HDR2.out, if_neg h5, if_pos h6]
      subst hdd
      clear HDR2 hx HDR
      go_wp2_with fail
      go_ret
      exact ⟨rfl, gW⟩
     ·have hdd : dr = ⟨l ++ [madeR d nx], nx, 0⟩ := by rw [HDR2.out, if_neg h5, if_neg h6]
      subst hdd
      clear HDR2 HDR
      obtain ⟨hn1, hn2⟩ : 1 ≤ nx ∧ ∀ r ∈ l, r.ver < nx := by rw [HNX.out]; exact next_gt
      have HN2 : Hid _ := hn2
      have HRX : Hid (rightR (l ++ [madeR d nx]) = true) := rightR_snoc HRL.out (made_right HW0.out HK3.out hn1 (by omega)) (by omega)
      have HWP : Hid (wrongD (purgeD d nx) = 0) := purge_right HW0.out hn1 (by omega)
      have HP1 : Hid (doR (l ++ [madeR d nx]) (purgeD d nx) = ⟨l, nx, 0⟩) := do_purge hn2
      have HP2 : Hid (doR l (purgeD d nx) = ⟨l, 0, 6⟩) := do_purged hn2
      have hlx : (l ++ [madeR d nx]).length = l.length + 1 := by simp
      replace hx : RecsS _ w1 (.slice ax (l ++ [madeR d nx]).length cx) (l ++ [madeR d nx]) := hx
      show _
      simp only [hlx] at hx ⊢
      clear hlx hn2 HN2
      generalize l ++ [madeR d nx] = xs at *
      obtain ⟨y0, y1, y2, y3⟩ := box4 hD rfl rfl rfl rfl
      have g2 := grow_alloc w1 (.cells #[.int .i64 3, .int .i64 d.key, .int .i64 nx, .slice none 0 0] 47)
      have hP := heap_new w1 #[.int .i64 3, .int .i64 d.key, .int .i64 nx, .slice none 0 0] 47
      have gW2 := gW.trans g2
      have hx2 := SliceS.every (SliceS.grow hx g2) (by decide)
      obtain ⟨z0, z1, z2, z3⟩ := box4 hP rfl rfl rfl rfl
      clear gW hx g2
      go_wp2_with fail
      refine (MD _ xs (purgeD d nx) _ none 0 _ (fun b h => h) HRX.out HWP.out hx2 (.inl ⟨none, 0, rfl, rfl, fun _ => rfl⟩)).mono ?_
      rw [HP1.out]
      rintro e w3 ⟨vy, he, hy, g1⟩
      replace hy : RecsS _ w3 vy l := hy
      obtain ⟨ay, cy, rfl⟩ := hy.form
      obtain rfl : e = .returned (.tuple #[.slice ay l.length cy, .int .i64 nx, .int .i64 0]) := he
      have gW := gW2.trans g1
      replace hP := (g1.block _ (heap_lt hP)).trans hP
      replace hy := SliceS.every hy (by decide)
      clear g1 gW2 hx2 z0 z1 z2 z3 y0 y1 y2 y3 hD
      generalize w1.heap.size = gp at *
      obtain ⟨z0, z1, z2, z3⟩ := box4 hP rfl rfl rfl rfl
      go_wp2_with fail
      refine (MD _ l (purgeD d nx) _ none 0 _ (fun b h => h) HRL.out HWP.out hy (.inl ⟨none, 0, rfl, rfl, fun _ => rfl⟩)).mono ?_
      rw [HP2.out]
      rintro e w4 ⟨vz, he, hz, g1⟩
      replace hz : RecsS _ w4 vz l := hz
      obtain ⟨az, cz, rfl⟩ := hz.form
      obtain rfl : e = .returned (.tuple #[.slice az l.length cz, .int .i64 0, .int .i64 6]) := he
      replace hy := SliceS.every (SliceS.grow hy g1) (by decide)
      replace gW := gW.trans g1
      replace hP := (g1.block _ (heap_lt hP)).trans hP
      clear g1 z0 z1 z2 z3 hz
      go_wp2_with fail
      refine (MG _ l key _ _ (fun b h => Nat.lt_of_lt_of_le h gW.size) HRL.out (hl.grow gW)).mono ?_
      obtain ⟨G, hG⟩ : ∃ G, G = getK l key := ⟨_, rfl⟩
      rw [← hG]
      rintro e w5 ⟨ua, rfl, hba, g1⟩
      obtain ⟨aa, ca, rfl⟩ := hba.form
      replace hy := SliceS.every (SliceS.grow hy g1) (by decide)
      replace hba := hba.p
      replace gW := gW.trans g1
      replace hP := (g1.block _ (heap_lt hP)).trans hP
      clear g1
      go_wp2_with fail
      refine (MG _ l key _ _ (fun b h => h) HRL.out hy).mono ?_
      rw [← hG]
      have HG : Hid _ := hG
      clear hG
      rintro e w6 ⟨ub, rfl, hbb, g1⟩
      obtain ⟨ab, cb, rfl⟩ := hbb.form
      replace hy := SliceS.every (SliceS.grow hy g1) (by decide)
      replace hba := bytes_grow hba g1
      replace hbb := hbb.p
      replace gW := gW.trans g1
      replace hP := (g1.block _ (heap_lt hP)).trans hP
      clear g1
      have dn : (nx == nx) = true := by simp
      have de : (G.e == G.e) = true := by simp
      go_wp2_with fail
      refine (MS _ _ l l _ _ _ HRL.out HRL.out hy (hl.grow gW)).mono ?_
      rw [sameRs_refl]
      rintro e w7 ⟨rfl, g1⟩
      replace hba := bytes_grow hba g1
      replace hbb := bytes_grow hbb g1
      replace gW := gW.trans g1
      replace hP := (g1.block _ (heap_lt hP)).trans hP
      clear g1 hy
      have ra := run_str6 _ _ _ hba
      have rb := run_str6 _ _ _ hbb
      clear hba hbb
      go_wp2_with fail
      go_ret
      exact ⟨rfl, gW⟩
  ·have d0 : (WD != 0) = true := by simp [hw0]
   clear hw0
   go_wp2_with fail
   go_ret
   exact ⟨rfl, gW⟩
end Go.Proofs.Ytgaecpdokgklpab
