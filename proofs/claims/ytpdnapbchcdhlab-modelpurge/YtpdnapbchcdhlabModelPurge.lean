import Derived.Test.YtpdnapbchcdhlabMAlive
set_option maxHeartbeats 8000000
namespace Go.Proofs.Ytpdnapbchcdhlab
set_option maxRecDepth 100000
open Go.RowKit
open Plain Reg
theorem Vu (MW : Qs) (MN : Vo) (MM : Vp) (MD : Zbk) (MG : K7) (MS : Vn) (l : List Rec) (d : Dd) (key : Int) (vl : Value) (ad : Option Addr) (cd : Nat) (w : World) (hl : Zv (fun b => b < w.heap.size) w vl l) (hd : Zu (fun b => b < w.heap.size) w (.slice ad d.data.length cd) d.data)
  (hll : l.length ≤ 140737488355328) (hld : d.data.length ≤ 140737488355328) :
  Calls Try.prog 7 #[vl, .agg #[.int .i64 d.kind, .int .i64 d.key, .int .i64 d.num, .slice ad d.data.length cd], .int .i64 key] w fun r w' => r = .returned (.bool true) ∧ Zi w w' := by
 obtain ⟨al, cl, rfl⟩ := hl.form;have gW := Ze w (.cells #[.int .i64 d.kind, .int .i64 d.key, .int .i64 d.num, .slice ad d.data.length cd] 47);have hD := Zs w #[.int .i64 d.kind, .int .i64 d.key, .int .i64 d.num, .slice ad d.data.length cd] 47;obtain ⟨WD, hWD⟩ : ∃ WD, WD = Zq d := ⟨_, rfl⟩;obtain ⟨nx, hnx⟩ : ∃ nx, nx = Yc l := ⟨_, rfl⟩;obtain ⟨dr, hdr⟩ : ∃ dr, dr = doR l d := ⟨_, rfl⟩;have HWD : Hid _ := hWD;have HNX : Hid _ := hnx;have HDR : Hid _ := hdr;clear hWD hnx hdr;go_enter Try.func7, Try.ntmps7;go_wp2_with fail;refine (V8 MW MN MM MD MG MS _).mono ?_;rintro e w1 ⟨rfl, g1⟩;replace gW := gW.trans g1;replace hD := (g1.block _ (Zf hD)).trans hD;clear g1;go_wp2_with fail;refine (Xr _ l _ _ (hl.grow gW) hll).mono ?_;obtain ⟨RL, hRL⟩ : ∃ RL, RL = Z6 l := ⟨_, rfl⟩;rw [← hRL];rintro e w1 ⟨rfl, g1⟩;replace gW := gW.trans g1;replace hD := (g1.block _ (Zf hD)).trans hD;clear g1;cases RL with
 | false =>
  clear hRL;go_wp2_with fail;go_ret;exact ⟨rfl, gW⟩
 | true =>
  have HRL : Hid (Z6 l = true) := hRL.symm;clear hRL;have hl40 : l.length ≤ 40 := ((Yk l).1 HRL.out).2;obtain ⟨y0, y1, y2, y3⟩ := Yt hD rfl rfl rfl rfl;go_wp2_with fail;refine (MW d ad cd _ hld (hd.grow gW).p).mono ?_;rw [← HWD.out];rintro e w1 ⟨rfl, g1⟩;replace gW := gW.trans g1;replace hD := (g1.block _ (Zf hD)).trans hD;clear g1;clear y0 y1 y2 y3;by_cases hw0 : WD = 0
  ·have HW0 : Hid (Zq d = 0) := by show _ = _; rw [← HWD.out, hw0]
   have d0 : (WD != 0) = false := by simp [hw0]
   clear hw0;obtain ⟨hb0, hb1, -, -, hb4, hb5⟩ := Yo HW0.out;obtain ⟨y0, y1, y2, y3⟩ := Yt hD rfl rfl rfl rfl;by_cases hk3 : d.kind = 3
   ·have d3 : (d.kind == 3) = true := by simp [hk3]
    clear hk3;go_wp2_with fail;go_ret;exact ⟨rfl, gW⟩
   ·have d3 : (d.kind == 3) = false := by simp [hk3]
    have HK3 : Hid (d.kind ≠ 3) := hk3;have HDR2 : Hid (dr = if 5 < l.length then ⟨l, 0, 9⟩ else if 60000 < nx then ⟨l, 0, 4⟩ else ⟨l ++ [Zy d nx], nx, 0⟩) := by show dr = _; rw [HDR.out, HNX.out]; unfold doR; rw [if_neg hk3]
    clear hk3;go_wp2_with fail;refine (MD _ l d _ ad cd _ (fun b h => Nat.lt_of_lt_of_le h gW.size) HRL.out HW0.out (hl.grow gW) (hd.grow gW)).mono ?_;rw [← HDR.out];rintro e w1 ⟨vx, rfl, hx, g1⟩;obtain ⟨ax, cx, rfl⟩ := hx.form;replace gW := gW.trans g1;replace hD := (g1.block _ (Zf hD)).trans hD;clear g1;clear y0 y1 y2 y3 d3 d0;by_cases h5 : 5 < l.length
    ·have hdd : dr = ⟨l, 0, 9⟩ := by rw [HDR2.out, if_pos h5]
     subst hdd;clear HDR2 hx HDR;go_wp2_with fail;go_ret;exact ⟨rfl, gW⟩
    ·by_cases h6 : 60000 < nx
     ·have hdd : dr = ⟨l, 0, 4⟩ := by rw [HDR2.out, if_neg h5, if_pos h6]
      subst hdd;clear HDR2 hx HDR;go_wp2_with fail;go_ret;exact ⟨rfl, gW⟩
     ·have hdd : dr = ⟨l ++ [Zy d nx], nx, 0⟩ := by rw [HDR2.out, if_neg h5, if_neg h6]
      subst hdd;clear HDR2 HDR;obtain ⟨hn1, hn2⟩ : 1 ≤ nx ∧ ∀ r ∈ l, r.ver < nx := by rw [HNX.out]; exact J4
      have HN2 : Hid _ := hn2;have HRX : Hid (Z6 (l ++ [Zy d nx]) = true) := Q1 HRL.out (Vi HW0.out HK3.out hn1 (by omega)) (by omega);have HWP : Hid (Zq (Yr d nx) = 0) := Kv HW0.out hn1 (by omega);have HP1 : Hid (doR (l ++ [Zy d nx]) (Yr d nx) = ⟨l, nx, 0⟩) := Zbe hn2;have HP2 : Hid (doR l (Yr d nx) = ⟨l, 0, 6⟩) := Zas hn2;have hlx : (l ++ [Zy d nx]).length = l.length + 1 := by simp
      replace hx : Zv _ w1 (.slice ax (l ++ [Zy d nx]).length cx) (l ++ [Zy d nx]) := hx;show _;simp only [hlx] at hx ⊢;clear hlx hn2 HN2;generalize l ++ [Zy d nx] = xs at *;obtain ⟨y0, y1, y2, y3⟩ := Yt hD rfl rfl rfl rfl;have g2 := Ze w1 (.cells #[.int .i64 3, .int .i64 d.key, .int .i64 nx, .slice none 0 0] 47);have hP := Zs w1 #[.int .i64 3, .int .i64 d.key, .int .i64 nx, .slice none 0 0] 47;have gW2 := gW.trans g2;have hx2 := Zn.every (Zn.grow hx g2) (by decide);obtain ⟨z0, z1, z2, z3⟩ := Yt hP rfl rfl rfl rfl;clear gW hx g2;go_wp2_with fail;refine (MD _ xs (Yr d nx) _ none 0 _ (fun b h => h) HRX.out HWP.out hx2 (.inl ⟨none, 0, rfl, rfl, fun _ => rfl⟩)).mono ?_;rw [HP1.out];rintro e w3 ⟨vy, he, hy, g1⟩;replace hy : Zv _ w3 vy l := hy;obtain ⟨ay, cy, rfl⟩ := hy.form;obtain rfl : e = .returned (.tuple #[.slice ay l.length cy, .int .i64 nx, .int .i64 0]) := he;have gW := gW2.trans g1;replace hP := (g1.block _ (Zf hP)).trans hP;replace hy := Zn.every hy (by decide);clear g1 gW2 hx2 z0 z1 z2 z3 y0 y1 y2 y3 hD;generalize w1.heap.size = gp at *;obtain ⟨z0, z1, z2, z3⟩ := Yt hP rfl rfl rfl rfl;go_wp2_with fail;refine (MD _ l (Yr d nx) _ none 0 _ (fun b h => h) HRL.out HWP.out hy (.inl ⟨none, 0, rfl, rfl, fun _ => rfl⟩)).mono ?_;rw [HP2.out];rintro e w4 ⟨vz, he, hz, g1⟩;replace hz : Zv _ w4 vz l := hz;obtain ⟨az, cz, rfl⟩ := hz.form;obtain rfl : e = .returned (.tuple #[.slice az l.length cz, .int .i64 0, .int .i64 6]) := he;replace hy := Zn.every (Zn.grow hy g1) (by decide)
      replace gW := gW.trans g1;replace hP := (g1.block _ (Zf hP)).trans hP;clear g1 z0 z1 z2 z3 hz;go_wp2_with fail;refine (MG _ l key _ _ (fun b h => Nat.lt_of_lt_of_le h gW.size) HRL.out (hl.grow gW)).mono ?_;obtain ⟨G, hG⟩ : ∃ G, G = Xm l key := ⟨_, rfl⟩;rw [← hG];rintro e w5 ⟨ua, rfl, hba, g1⟩;obtain ⟨aa, ca, rfl⟩ := hba.form;replace hy := Zn.every (Zn.grow hy g1) (by decide);replace hba := hba.p;replace gW := gW.trans g1;replace hP := (g1.block _ (Zf hP)).trans hP;clear g1;go_wp2_with fail;refine (MG _ l key _ _ (fun b h => h) HRL.out hy).mono ?_;rw [← hG];have HG : Hid _ := hG;clear hG;rintro e w6 ⟨ub, rfl, hbb, g1⟩;obtain ⟨ab, cb, rfl⟩ := hbb.form;replace hy := Zn.every (Zn.grow hy g1) (by decide);replace hba := Zo hba g1;replace hbb := hbb.p;replace gW := gW.trans g1;replace hP := (g1.block _ (Zf hP)).trans hP;clear g1;have dn : (nx == nx) = true := by simp
      have de : (G.e == G.e) = true := by simp
      go_wp2_with fail;refine (MS _ _ l l _ _ _ HRL.out HRL.out hy (hl.grow gW)).mono ?_;rw [Kr];rintro e w7 ⟨rfl, g1⟩;replace hba := Zo hba g1;replace hbb := Zo hbb g1;replace gW := gW.trans g1;replace hP := (g1.block _ (Zf hP)).trans hP;clear g1 hy;have ra := Xk _ _ _ hba;have rb := Xk _ _ _ hbb;clear hba hbb;go_wp2_with fail;go_ret;exact ⟨rfl, gW⟩
  ·have d0 : (WD != 0) = true := by simp [hw0]
   clear hw0;go_wp2_with fail;go_ret;exact ⟨rfl, gW⟩
end Go.Proofs.Ytpdnapbchcdhlab
