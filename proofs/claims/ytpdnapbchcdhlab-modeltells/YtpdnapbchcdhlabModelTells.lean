import Derived.Test.YtpdnapbchcdhlabMdlC
set_option maxHeartbeats 8000000
namespace Go.Proofs.Ytpdnapbchcdhlab
set_option maxRecDepth 100000
open Go.RowKit
open Plain Reg
theorem Vt (MW : Qs) (MN : Vo) (MM : Vp) (MD : Zbk) (MG : K7) (MS : Vn) (l m : List Rec) (d : Dd) (key : Int) (vl vm : Value) (ad : Option Addr) (cd : Nat) (w : World) (hl : Zv (fun b => b < w.heap.size) w vl l) (hm : Zv (fun b => b < w.heap.size) w vm m) (hd : Zu (fun b => b < w.heap.size) w (.slice ad d.data.length cd) d.data)
  (hll : l.length ≤ 140737488355328) (hlm : m.length ≤ 140737488355328) (hld : d.data.length ≤ 140737488355328) :
  Calls Try.prog 5 #[vl, vm, .agg #[.int .i64 d.kind, .int .i64 d.key, .int .i64 d.num, .slice ad d.data.length cd], .int .i64 key] w fun r w' => r = .returned (.bool true) ∧ Zi w w' := by
 obtain ⟨al, cl, rfl⟩ := hl.form;obtain ⟨am, cm, rfl⟩ := hm.form;have g0 := Ze w (.cells #[.int .i64 d.kind, .int .i64 d.key, .int .i64 d.num, .slice ad d.data.length cd] 47);have hD0 := Zs w #[.int .i64 d.kind, .int .i64 d.key, .int .i64 d.num, .slice ad d.data.length cd] 47;obtain ⟨WD, hWD⟩ : ∃ WD, WD = Zq d := ⟨_, rfl⟩;obtain ⟨nx, hnx⟩ : ∃ nx, nx = Yc l := ⟨_, rfl⟩;obtain ⟨sm, hsm⟩ : ∃ sm, sm = Y3 l m := ⟨_, rfl⟩;obtain ⟨dr, hdr⟩ : ∃ dr, dr = doR l d := ⟨_, rfl⟩;have HWD : Hid _ := hWD;have HNX : Hid _ := hnx;have HSM : Hid _ := hsm;have HDR : Hid _ := hdr;clear hWD hnx hsm hdr;go_enter Try.func5, Try.ntmps5;go_wp2_with fail;generalize World.alloc w _ = W at *;refine Zw [ex (.agg #[.int .i64 d.kind, .int .i64 d.key, .int .i64 d.num, .slice ad d.data.length cd]), ex (.int .i64 WD), ex (.agg #[.int .i64 d.kind, .int .i64 d.key, .int .i64 d.num, .slice ad d.data.length cd]), ex (.int .i64 WD), ex (.bool false)] (by kernel_rfl) (by kernel_rfl) ⟨Zd _, Zd _, Zd _, Zd _, Zd _, trivial⟩ ?_ ?_
 ·refine ⟨?_, ?_, ?_, ?_, ?_, trivial⟩
  ·refine Za rfl fun a _ _ _ B A => ?_;have e6 : a (.tmp 6) = .pointer (some ⟨w.heap.size, 0, none⟩) := Zk A 6 rfl;have hx := (B.block _ (Zf hD0)).trans hD0;obtain ⟨z0, z1, z2, z3⟩ := Yt hx rfl rfl rfl rfl;refine Zg ?_ rfl;clear A B hx;go_simp;all_goals go_arith
  ·refine Za rfl fun a B _ _ C A => ?_;have e18 : a (.tmp 18) = _ := Zb A 0 rfl;refine Z2 (f := 18) (args := #[.agg #[.int .i64 d.kind, .int .i64 d.key, .int .i64 d.num, .slice ad d.data.length cd]]) ?_ ((MW d ad cd B hld (hd.grow (g0.trans C)).p).mono ?_)
   ·clear A C;go_simp;all_goals go_arith
   ·rw [← HWD.out];rintro e w2 ⟨rfl, g2⟩;exact ⟨_, rfl, g2, rfl⟩
  ·refine Za rfl fun a _ _ _ B A => ?_;have e6 : a (.tmp 6) = .pointer (some ⟨w.heap.size, 0, none⟩) := Zk A 6 rfl;have hx := (B.block _ (Zf hD0)).trans hD0;obtain ⟨z0, z1, z2, z3⟩ := Yt hx rfl rfl rfl rfl;refine Zg ?_ rfl;clear A B hx;go_simp;all_goals go_arith
  ·refine Za rfl fun a B _ _ C A => ?_;have e20 : a (.tmp 20) = _ := Zb A 2 rfl;refine Z2 (f := 19) (args := #[.agg #[.int .i64 d.kind, .int .i64 d.key, .int .i64 d.num, .slice ad d.data.length cd]]) ?_ ((Qz d ad cd B hld).mono ?_)
   ·clear A C;go_simp;all_goals go_arith
   ·rw [← HWD.out];rintro e w2 ⟨rfl, g2⟩;exact ⟨_, rfl, g2, rfl⟩
  ·refine Za rfl fun a _ _ _ B A => ?_;have e19 : a (.tmp 19) = _ := Zb A 1 rfl;have e21 : a (.tmp 21) = _ := Zb A 3 rfl;refine Zg ?_ rfl;clear A B;go_simp;all_goals go_arith
 ·intro vs w' hg ht;obtain ⟨(r18 : vs 0 = _), (r19 : vs 1 = _), (r20 : vs 2 = _), (r21 : vs 3 = _), (r22 : vs 4 = _), -⟩ := ht;simp only [Z4, Act.put, List.setIfInBounds_toArray, List.set_cons_zero, List.set_cons_succ, r18, r19, r20, r21, r22];clear r18 r19 r20 r21 r22;have gW := g0.trans hg;have hD := (hg.block _ (Zf hD0)).trans hD0;clear g0 hD0 hg;go_wp2_with fail;refine (Xr _ l _ _ (hl.grow gW) hll).mono ?_;obtain ⟨RL, hRL⟩ : ∃ RL, RL = Z6 l := ⟨_, rfl⟩;rw [← hRL];rintro e w1 ⟨rfl, g1⟩;replace gW := gW.trans g1;replace hD := (g1.block _ (Zf hD)).trans hD;clear g1;cases RL with
  | false =>
   clear hRL;go_wp2_with fail;go_ret;exact ⟨rfl, gW⟩
  | true =>
   have HRL : Hid (Z6 l = true) := hRL.symm;clear hRL;go_wp2_with fail;refine (Xr _ m _ _ (hm.grow gW) hlm).mono ?_;obtain ⟨RM, hRM⟩ : ∃ RM, RM = Z6 m := ⟨_, rfl⟩;rw [← hRM];rintro e w1 ⟨rfl, g1⟩;replace gW := gW.trans g1;replace hD := (g1.block _ (Zf hD)).trans hD;clear g1;cases RM with
   | false =>
    clear hRM;go_wp2_with fail;go_ret;exact ⟨rfl, gW⟩
   | true =>
    have HRM : Hid (Z6 m = true) := hRM.symm;clear hRM;have hl40 : l.length ≤ 40 := ((Yk l).1 HRL.out).2;have hm40 : m.length ≤ 40 := ((Yk m).1 HRM.out).2;go_wp2_with fail;refine (MG _ l key _ _ (fun b h => Nat.lt_of_lt_of_le h gW.size) HRL.out (hl.grow gW)).mono ?_;obtain ⟨G, hG⟩ : ∃ G, G = Xm l key := ⟨_, rfl⟩;rw [← hG];rintro e w1 ⟨ua, rfl, hba, g1⟩;obtain ⟨aa, ca, rfl⟩ := hba.form;replace gW := gW.trans g1;replace hD := (g1.block _ (Zf hD)).trans hD;replace hba := hba.p;clear g1;go_wp2_with fail;refine (Zab _ l key _ _ (hl.grow gW) (by omega)).mono ?_;rw [← hG];have HG : Hid _ := hG;clear hG;rintro e w1 ⟨ub, rfl, hbb, g1⟩;obtain ⟨ab, cb, rfl⟩ := hbb.form;replace gW := gW.trans g1;replace hD := (g1.block _ (Zf hD)).trans hD;replace hba := Zo hba g1;replace hbb := hbb.p;clear g1;have ra := Xk _ _ _ hba;have rb := Xk _ _ _ hbb;clear hba hbb;go_wp2_with fail;refine (MN _ l _ _ HRL.out (hl.grow gW)).mono ?_;rw [← HNX.out];rintro e w1 ⟨rfl, g1⟩;replace gW := gW.trans g1;replace hD := (g1.block _ (Zf hD)).trans hD;clear g1 ra rb;go_wp2_with fail;refine (V1 _ l _ _ (hl.grow gW) (by omega) (Vc HRL.out)).mono ?_;rw [← HNX.out];rintro e w1 ⟨rfl, g1⟩;replace gW := gW.trans g1;replace hD := (g1.block _ (Zf hD)).trans hD;clear g1;go_wp2_with fail;refine (MS _ _ l m _ _ _ HRL.out HRM.out (hl.grow gW) (hm.grow gW)).mono ?_;rw [← HSM.out];rintro e w1 ⟨rfl, g1⟩;replace gW := gW.trans g1;replace hD := (g1.block _ (Zf hD)).trans hD;clear g1;go_wp2_with fail
    refine (Jh _ _ l m _ _ _ (hl.grow gW) (hm.grow gW) (by omega) (by omega)).mono ?_;rw [← HSM.out];rintro e w1 ⟨rfl, g1⟩;replace gW := gW.trans g1;replace hD := (g1.block _ (Zf hD)).trans hD;clear g1;have dsm : (sm != sm) = false := by simp
    obtain ⟨y0, y1, y2, y3⟩ := Yt hD rfl rfl rfl rfl;go_wp2_with fail;refine (Qz d ad cd _ hld).mono ?_;rw [← HWD.out];rintro e w1 ⟨rfl, g1⟩;replace gW := gW.trans g1;replace hD := (g1.block _ (Zf hD)).trans hD;clear g1 y0 y1 y2 y3 dsm;by_cases hw0 : WD = 0
    ·have HW0 : Hid (Zq d = 0) := by show _ = _; rw [← HWD.out, hw0]
     have d0 : (WD != 0) = false := by simp [hw0]
     clear hw0;obtain ⟨y0, y1, y2, y3⟩ := Yt hD rfl rfl rfl rfl;go_wp2_with fail;refine (MD _ l d _ ad cd _ (fun b h => Nat.lt_of_lt_of_le h gW.size) HRL.out HW0.out (hl.grow gW) (hd.grow gW)).mono ?_;rw [← HDR.out];rintro e w1 ⟨vx, rfl, hx, g1⟩;obtain ⟨ax, cx, rfl⟩ := hx.form;replace gW := gW.trans g1;replace hD := (g1.block _ (Zf hD)).trans hD;clear g1 y0 y1 y2 y3 d0;obtain ⟨y0, y1, y2, y3⟩ := Yt hD rfl rfl rfl rfl;go_wp2_with fail;refine (Zbs _ l d _ ad cd _ (fun b h => Nat.lt_of_lt_of_le h gW.size) (hl.grow gW) (hd.grow gW) (by omega) (Vc HRL.out) (Yo HW0.out).1 (Yo HW0.out).2.1).mono ?_;rw [← HDR.out];rintro e w1 ⟨vy, rfl, hy, g1⟩;obtain ⟨ay, cy, rfl⟩ := hy.form;replace gW := gW.trans g1;replace hD := (g1.block _ (Zf hD)).trans hD;replace hx := hx.grow g1;clear g1 y0 y1 y2 y3;have hdl : dr.l.length ≤ 41 := by
      rw [HDR.out];unfold doR;split
      ·split
       ·simp; omega
       ·exact Nat.le_trans hl40 (by omega)
      ·split
       ·exact Nat.le_trans hl40 (by omega)
       ·split
        ·exact Nat.le_trans hl40 (by omega)
        ·simp; omega
     obtain ⟨rl, rn, re⟩ := dr;simp only at hdl hx hy;have dn : (rn != rn) = false := by simp
     have de : (re != re) = false := by simp
     go_wp2_with fail;clear dn de;obtain ⟨W1, rfl⟩ : ∃ W1 : World, W1 = w1 := ⟨_, rfl⟩;go_loopw [103] (fun i wr => ∃ k : Nat, k ≤ rl.length ∧ i = .int .i64 k ∧ Zi W1 wr) (fun i _ => rl.length - (intOf i).toNat)
     case atStart => exact ⟨0, Nat.zero_le _, rfl, Zi.refl _⟩
     case round =>
      obtain ⟨k, hk, rfl, hgr⟩ := hrel;by_cases hlt : k < rl.length
      ·obtain ⟨b1, o1, a1, c1, hv1, p0, p1, p2, p3, hu⟩ := Yf (hx.grow hgr) k hlt;obtain ⟨b2, o2, a2, c2, hv2, q0, q1, q2, q3, hz⟩ := Yf (hy.grow hgr) k hlt;cases hv1;cases hv2;have HSB : Hid (Ye rl[k] rl[k] = true) := X0 _;generalize rl[k] = r at *;go_wp2_with fail;refine Zw [ex (.slice (some ⟨b1, o1, none⟩) rl.length cx), ex (.int .i64 (k : Int)), ex (.pointer (some ⟨b1, o1 + k * 4, none⟩)), ex (.agg #[.int .i64 r.kind, .int .i64 r.key, .int .i64 r.ver, .slice a1 r.data.length c1]), ex (.slice (some ⟨b2, o2, none⟩) rl.length cy), ex (.int .i64 (k : Int)), ex (.pointer (some ⟨b2, o2 + k * 4, none⟩)), ex (.agg #[.int .i64 r.kind, .int .i64 r.key, .int .i64 r.ver, .slice a2 r.data.length c2]), ex (.bool true), ex (.bool false)] (by kernel_rfl) (by kernel_rfl) ⟨Zd _, Zd _, Zd _, Zd _, Zd _, Zd _, Zd _, Zd _, Zd _, Zd _, trivial⟩ ?_ ?_
       ·refine ⟨?_, ?_, ?_, ?_, ?_, ?_, ?_, ?_, ?_, ?_, trivial⟩
        ·exact Za rfl fun a _ _ _ _ A => Zj rfl (Zk A 13 rfl)
        ·exact Za rfl fun a _ _ _ _ A => Zj rfl (Zk A 17 rfl)
        ·refine Za rfl fun a _ _ _ B A => ?_;have e106 : a (.tmp 106) = _ := Zb A 0 rfl;have e107 : a (.tmp 107) = _ := Zb A 1 rfl;refine Zg ?_ rfl;clear A B;go_simp;all_goals go_arith
        ·refine Za rfl fun a _ _ _ B A => ?_;have e108 : a (.tmp 108) = _ := Zb A 2 rfl;have h0 := (Below.cell B (Zr p0)).trans p0;have h1 := (Below.cell B (Zr p1)).trans p1;have h2 := (Below.cell B (Zr p2)).trans p2;have h3 := (Below.cell B (Zr p3)).trans p3;refine Zg ?_ rfl;clear A B;go_simp;all_goals go_arith
        ·exact Za rfl fun a _ _ _ _ A => Zj rfl (Zk A 15 rfl)
        ·exact Za rfl fun a _ _ _ _ A => Zj rfl (Zk A 17 rfl)
        ·refine Za rfl fun a _ _ _ B A => ?_;have e110 : a (.tmp 110) = _ := Zb A 4 rfl;have e111 : a (.tmp 111) = _ := Zb A 5 rfl;refine Zg ?_ rfl;clear A B;go_simp;all_goals go_arith
        ·refine Za rfl fun a _ _ _ B A => ?_;have e112 : a (.tmp 112) = _ := Zb A 6 rfl;have h0 := (Below.cell B (Zr q0)).trans q0;have h1 := (Below.cell B (Zr q1)).trans q1;have h2 := (Below.cell B (Zr q2)).trans q2;have h3 := (Below.cell B (Zr q3)).trans q3;refine Zg ?_ rfl;clear A B;go_simp;all_goals go_arith
        ·refine Za rfl fun a B _ _ C A => ?_;have e109 : a (.tmp 109) = _ := Zb A 3 rfl;have e113 : a (.tmp 113) = _ := Zb A 7 rfl;refine Z2 (f := 13) (args := #[.agg #[.int .i64 r.kind, .int .i64 r.key, .int .i64 r.ver, .slice a1 r.data.length c1], .agg #[.int .i64 r.kind, .int .i64 r.key, .int .i64 r.ver, .slice a2 r.data.length c2]]) ?_ ((Xx _ _ _ _ _ _ r.data r.data _ _ B (Zo hu.p C) (Zo hz.p C)).mono ?_)
         ·clear A C;go_simp;all_goals go_arith
         ·rintro e w2 ⟨rfl, g2⟩;exact ⟨_, rfl, g2, by rw [← HSB.out]; rfl⟩
        ·refine Za rfl fun a _ _ _ B A => ?_;have e114 : a (.tmp 114) = _ := Zb A 8 rfl;refine Zg ?_ rfl;clear A B;go_simp;all_goals go_arith
       ·intro vs w' hg ht;obtain ⟨(r106 : vs 0 = _), (r107 : vs 1 = _), (r108 : vs 2 = _), (r109 : vs 3 = _), (r110 : vs 4 = _), (r111 : vs 5 = _), (r112 : vs 6 = _), (r113 : vs 7 = _), (r114 : vs 8 = _), (r115 : vs 9 = _), -⟩ := ht;simp only [Z4, Act.put, List.setIfInBounds_toArray, List.set_cons_zero, List.set_cons_succ, r106, r107, r108, r109, r110, r111, r112, r113, r114, r115];clear r106 r107 r108 r109 r110 r111 r112 r113 r114 r115;have gE := hgr.trans hg;clear hg hgr p0 p1 p2 p3 q0 q1 q2 q3 hu hz;go_wp2_with fail;go_roundw
        case rel => exact ⟨k + 1, by omega, by go_num, gE⟩
        case measure => simp [intOf]; omega
      ·replace gW := gW.trans hgr;replace hD := (hgr.block _ (Zf hD)).trans hD;clear hgr hx hy;have hdW := hd.grow gW;obtain ⟨hb0, hb1, -, -, hb4, -⟩ := Yo HW0.out;go_wp2_with fail;by_cases hk3 : d.kind = 3
       ·have d3 : (d.kind == 3) = true := by simp [hk3]
        clear hk3;refine Zw [ex (.pointer (some ⟨w.heap.size, 0, none⟩)), ex (.int .i64 d.kind), ex (.bool true), ex (.bool true), ex (undef), ex (undef), ex (undef), ex (undef), ex (undef), ex (.bool true), ex (.bool true)] (by kernel_rfl) (by kernel_rfl) ⟨Zd _, Zd _, Zd _, Zd _, Zd _, Zd _, Zd _, Zd _, Zd _, Zd _, Zd _, trivial⟩ ?_ ?_
        ·refine ⟨?_, ?_, ?_, ?_, ?_, ?_, ?_, ?_, ?_, ?_, ?_, trivial⟩
         ·refine Za rfl fun a _ _ _ B A => ?_;have e6 : a (.tmp 6) = .pointer (some ⟨w.heap.size, 0, none⟩) := Zk A 6 rfl;refine Zg ?_ rfl;clear A B;go_simp;all_goals go_arith
         ·refine Za rfl fun a _ _ _ B A => ?_;have e117 : a (.tmp 117) = _ := Zb A 0 rfl;have z0 := Zp ((B.block _ (Zf hD)).trans hD) 0 _ rfl;refine Zg ?_ rfl;clear A B;go_simp;all_goals go_arith
         ·refine Za rfl fun a _ _ _ B A => ?_;have e118 : a (.tmp 118) = _ := Zb A 1 rfl;refine Zg ?_ rfl;clear A B;go_simp;all_goals go_arith
         ·exact Za rfl fun a _ _ _ _ A => Zj rfl (Zb A 2 rfl)
         ·refine Z9 3 false rfl rfl rfl (fun _ => rfl)
         ·refine Z9 3 false rfl rfl rfl (fun _ => rfl)
         ·refine Z9 3 false rfl rfl rfl (fun _ => rfl)
         ·refine Z9 3 false rfl rfl rfl (fun _ => rfl)
         ·refine Z9 3 false rfl rfl rfl (fun _ => rfl)
         ·refine Za rfl fun a _ B _ _ A => ?_;have ec : a (.tmp 120) = _ := Zb A 3 rfl;exact Z1 rfl ec (B _)
         ·exact Za rfl fun a _ _ _ _ A => Yx rfl (Zb A 9 rfl)
        ·intro vs w' hg ht;obtain ⟨(r117 : vs 0 = _), (r118 : vs 1 = _), (r119 : vs 2 = _), (r120 : vs 3 = _), (r121 : vs 4 = _), (r122 : vs 5 = _), (r123 : vs 6 = _), (r124 : vs 7 = _), (r125 : vs 8 = _), (r126 : vs 9 = _), (r8 : vs 10 = _), -⟩ := ht;simp only [Z4, Act.put, List.setIfInBounds_toArray, List.set_cons_zero, List.set_cons_succ, r117, r118, r119, r120, r121, r122, r123, r124, r125, r126, r8];clear r117 r118 r119 r120 r121 r122 r123 r124 r125 r126 r8;have gE := gW.trans hg;clear hg hD hdW gW;go_wp2_with fail;go_ret;exact ⟨rfl, gE⟩
       ·have d3 : (d.kind == 3) = false := by simp [hk3]
        have HK3 : Hid (d.kind ≠ 3) := hk3;have HSB : Hid (Ye (Zy d 5) (Zy d 5) = true) := X0 _;clear hk3;obtain ⟨W2, rfl⟩ : ∃ W2 : World, W2 = wr := ⟨_, rfl⟩;refine Zw [ex (.pointer (some ⟨w.heap.size, 0, none⟩)), ex (.int .i64 d.kind), ex (.bool false), ex (.bool false), ex (.agg #[.int .i64 d.kind, .int .i64 d.key, .int .i64 d.num, .slice ad d.data.length cd]), ((fun v w' => ∃ a' c', v = .agg #[.int .i64 (1 + d.kind), .int .i64 d.key, .int .i64 5, .slice a' d.data.length c'] ∧ Bytes w' (.slice a' d.data.length c') d.data)), ex (.agg #[.int .i64 d.kind, .int .i64 d.key, .int .i64 d.num, .slice ad d.data.length cd]), ex (.agg #[.int .i64 (1 + d.kind), .int .i64 d.key, .int .i64 5, .slice ad d.data.length cd]), ex (.bool true), ex (.bool true), ex (.bool true)] (by kernel_rfl) (by kernel_rfl) ⟨Zd _, Zd _, Zd _, Zd _, Zd _, (fun v w w' hg h => by obtain ⟨a', c', h1, h2⟩ := h; exact ⟨a', c', h1, Zo h2 hg⟩), Zd _, Zd _, Zd _, Zd _, Zd _, trivial⟩ ?_ ?_
        ·refine ⟨?_, ?_, ?_, ?_, ?_, ?_, ?_, ?_, ?_, ?_, ?_, trivial⟩
         ·refine Za rfl fun a _ _ _ B A => ?_;have e6 : a (.tmp 6) = .pointer (some ⟨w.heap.size, 0, none⟩) := Zk A 6 rfl;refine Zg ?_ rfl;clear A B;go_simp;all_goals go_arith
         ·refine Za rfl fun a _ _ _ B A => ?_;have e117 : a (.tmp 117) = _ := Zb A 0 rfl;have z0 := Zp ((B.block _ (Zf hD)).trans hD) 0 _ rfl;refine Zg ?_ rfl;clear A B;go_simp;all_goals go_arith
         ·refine Za rfl fun a _ _ _ B A => ?_;have e118 : a (.tmp 118) = _ := Zb A 1 rfl;refine Zg ?_ rfl;clear A B;go_simp;all_goals go_arith
         ·exact Za rfl fun a _ _ _ _ A => Zj rfl (Zb A 2 rfl)
         ·refine Zh 3 false rfl rfl rfl fun a _ _ _ B A => ?_;have e6 : a (.tmp 6) = .pointer (some ⟨w.heap.size, 0, none⟩) := Zk A 6 rfl;have hx := (B.block _ (Zf hD)).trans hD;obtain ⟨z0, z1, z2, z3⟩ := Yt hx rfl rfl rfl rfl;refine Zg ?_ rfl;clear A B hx;go_simp;all_goals go_arith
         ·refine Zh 3 false rfl rfl rfl fun a B _ _ C A => ?_;have e121 : a (.tmp 121) = _ := Zb A 4 rfl;refine Z2 (f := 29) (args := #[.agg #[.int .i64 d.kind, .int .i64 d.key, .int .i64 d.num, .slice ad d.data.length cd], .int .i64 5]) ?_ ((MM _ d 5 ad cd B (fun b h => Nat.lt_of_lt_of_le h (gW.trans C).size) HW0.out HK3.out (by omega) (by omega) (hdW.grow C)).mono ?_)
          ·clear A C;go_simp;all_goals go_arith
          ·rintro e w2 ⟨a', c', rfl, hb, g2⟩;exact ⟨_, rfl, g2, a', c', rfl, hb.p⟩
         ·refine Zh 3 false rfl rfl rfl fun a _ _ _ B A => ?_;have e6 : a (.tmp 6) = .pointer (some ⟨w.heap.size, 0, none⟩) := Zk A 6 rfl;have hx := (B.block _ (Zf hD)).trans hD;obtain ⟨z0, z1, z2, z3⟩ := Yt hx rfl rfl rfl rfl;refine Zg ?_ rfl;clear A B hx;go_simp;all_goals go_arith
         ·refine Zh 3 false rfl rfl rfl fun a B _ _ C A => ?_;have e123 : a (.tmp 123) = _ := Zb A 6 rfl;refine Z2 (f := 30) (args := #[.agg #[.int .i64 d.kind, .int .i64 d.key, .int .i64 d.num, .slice ad d.data.length cd], .int .i64 5]) ?_ ((V2 d 5 ad cd B (by omega) (by omega)).mono ?_)
          ·clear A C;go_simp;all_goals go_arith
          ·rintro e w2 ⟨rfl, g2⟩;exact ⟨_, rfl, g2, rfl⟩
         ·refine Zh 3 false rfl rfl rfl fun a B _ _ C A => ?_;have e122 : ((fun v B => ∃ a' c', v = .agg #[.int .i64 (1 + d.kind), .int .i64 d.key, .int .i64 5, .slice a' d.data.length c'] ∧ Bytes B (.slice a' d.data.length c') d.data)) (a (.tmp 122)) B := Zb A 5 rfl;have e124 : a (.tmp 124) = _ := Zb A 7 rfl;obtain ⟨a', c', h122, hb⟩ := e122;refine Z2 (f := 13) (args := #[.agg #[.int .i64 (1 + d.kind), .int .i64 d.key, .int .i64 5, .slice a' d.data.length c'], .agg #[.int .i64 (1 + d.kind), .int .i64 d.key, .int .i64 5, .slice ad d.data.length cd]]) ?_ ((Xx _ _ _ _ _ _ d.data d.data _ _ B hb (hdW.grow C).p).mono ?_)
          ·clear A C hb;go_simp;all_goals go_arith
          ·rintro e w2 ⟨rfl, g2⟩;exact ⟨_, rfl, g2, by rw [← HSB.out]; rfl⟩
         ·refine Za rfl fun a _ _ _ _ A => ?_;have ec : a (.tmp 120) = _ := Zb A 3 rfl;have e : a (.tmp 125) = _ := Zb A 8 rfl;exact Z1 rfl ec e
         ·exact Za rfl fun a _ _ _ _ A => Yx rfl (Zb A 9 rfl)
        ·intro vs w' hg ht;obtain ⟨(r117 : vs 0 = _), (r118 : vs 1 = _), (r119 : vs 2 = _), (r120 : vs 3 = _), (r121 : vs 4 = _), q122, (r123 : vs 6 = _), (r124 : vs 7 = _), (r125 : vs 8 = _), (r126 : vs 9 = _), (r8 : vs 10 = _), -⟩ := ht;simp only [Z4, Act.put, List.setIfInBounds_toArray, List.set_cons_zero, List.set_cons_succ, r117, r118, r119, r120, r121, r123, r124, r125, r126, r8];clear r117 r118 r119 r120 r121 r123 r124 r125 r126 r8;have gE := gW.trans hg;clear hg hD hdW gW q122;go_wp2_with fail;go_ret;exact ⟨rfl, gE⟩
    ·have d0 : (WD != 0) = true := by simp [hw0]
     clear hw0;go_wp2_with fail;go_ret;exact ⟨rfl, gW⟩
end Go.Proofs.Ytpdnapbchcdhlab
