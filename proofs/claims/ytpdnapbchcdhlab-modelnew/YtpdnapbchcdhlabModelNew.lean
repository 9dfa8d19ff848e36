import Derived.Test.YtpdnapbchcdhlabMAlive
set_option maxHeartbeats 8000000
namespace Go.Proofs.Ytpdnapbchcdhlab
set_option maxRecDepth 100000
open Go.RowKit
open Plain Reg
theorem K0 (MW : Qs) (MN : Vo) (MM : Vp) (MD : Zbk) (MG : K7) (MS : Vn) (l : List Rec) (d : Dd) (vl : Value) (ad : Option Addr) (cd : Nat) (w : World) (hl : Zv (fun b => b < w.heap.size) w vl l) (hd : Zu (fun b => b < w.heap.size) w (.slice ad d.data.length cd) d.data)
  (hll : l.length ≤ 140737488355328) (hld : d.data.length ≤ 140737488355328) :
  Calls Try.prog 6 #[vl, .agg #[.int .i64 d.kind, .int .i64 d.key, .int .i64 d.num, .slice ad d.data.length cd]] w fun r w' => r = .returned (.bool true) ∧ Zi w w' := by
 obtain ⟨al, cl, rfl⟩ := hl.form;have gW := Ze w (.cells #[.int .i64 d.kind, .int .i64 d.key, .int .i64 d.num, .slice ad d.data.length cd] 47);have hD := Zs w #[.int .i64 d.kind, .int .i64 d.key, .int .i64 d.num, .slice ad d.data.length cd] 47;obtain ⟨WD, hWD⟩ : ∃ WD, WD = Zq d := ⟨_, rfl⟩;obtain ⟨nx, hnx⟩ : ∃ nx, nx = Yc l := ⟨_, rfl⟩;obtain ⟨dr, hdr⟩ : ∃ dr, dr = doR l d := ⟨_, rfl⟩;have HWD : Hid _ := hWD;have HNX : Hid _ := hnx;have HDR : Hid _ := hdr;clear hWD hnx hdr;go_enter Try.func6, Try.ntmps6;go_wp2_with fail;refine (V8 MW MN MM MD MG MS _).mono ?_;rintro e w1 ⟨rfl, g1⟩;replace gW := gW.trans g1;replace hD := (g1.block _ (Zf hD)).trans hD;clear g1;go_wp2_with fail;refine (Xr _ l _ _ (hl.grow gW) hll).mono ?_;obtain ⟨RL, hRL⟩ : ∃ RL, RL = Z6 l := ⟨_, rfl⟩;rw [← hRL];rintro e w1 ⟨rfl, g1⟩;replace gW := gW.trans g1;replace hD := (g1.block _ (Zf hD)).trans hD;clear g1;cases RL with
 | false =>
  clear hRL;go_wp2_with fail;go_ret;exact ⟨rfl, gW⟩
 | true =>
  have HRL : Hid (Z6 l = true) := hRL.symm;clear hRL;have hl40 : l.length ≤ 40 := ((Yk l).1 HRL.out).2;obtain ⟨y0, y1, y2, y3⟩ := Yt hD rfl rfl rfl rfl;go_wp2_with fail;refine (MW d ad cd _ hld (hd.grow gW).p).mono ?_;rw [← HWD.out];rintro e w1 ⟨rfl, g1⟩;replace gW := gW.trans g1;replace hD := (g1.block _ (Zf hD)).trans hD;clear g1;clear y0 y1 y2 y3;by_cases hw0 : WD = 0
  ·have HW0 : Hid (Zq d = 0) := by show _ = _; rw [← HWD.out, hw0]
   have d0 : (WD != 0) = false := by simp [hw0]
   clear hw0;obtain ⟨hb0, hb1, -, -, hb4, hb5⟩ := Yo HW0.out;obtain ⟨y0, y1, y2, y3⟩ := Yt hD rfl rfl rfl rfl;by_cases hk3 : d.kind = 3
   ·have d3 : (d.kind == 3) = true := by simp [hk3]
    clear hk3;go_wp2_with fail;go_ret;exact ⟨rfl, gW⟩
   ·have d3 : (d.kind == 3) = false := by simp [hk3]
    have HK3 : Hid (d.kind ≠ 3) := hk3;have HDR2 : Hid (dr = if 5 < l.length then ⟨l, 0, 9⟩ else if 60000 < nx then ⟨l, 0, 4⟩ else ⟨l ++ [Zy d nx], nx, 0⟩) := by show dr = _; rw [HDR.out, HNX.out]; unfold doR; rw [if_neg hk3]
    clear hk3;go_wp2_with fail;refine (MD _ l d _ ad cd _ (fun b h => Nat.lt_of_lt_of_le h gW.size) HRL.out HW0.out (hl.grow gW) (hd.grow gW)).mono ?_;rw [← HDR.out];rintro e w1 ⟨vx, rfl, hx, g1⟩;obtain ⟨ax, cx, rfl⟩ := hx.form;replace gW := gW.trans g1;replace hD := (g1.block _ (Zf hD)).trans hD;clear g1;clear y0 y1 y2 y3 d3 d0;by_cases h5 : 5 < l.length
    ·have hdd : dr = ⟨l, 0, 9⟩ := by rw [HDR2.out, if_pos h5]
     subst hdd;have d6 : (6 : Int) ≤ (l.length : Int) := by omega
     clear HDR2 hx HDR;go_wp2_with fail;go_ret;exact ⟨rfl, gW⟩
    ·by_cases h6 : 60000 < nx
     ·have hdd : dr = ⟨l, 0, 4⟩ := by rw [HDR2.out, if_neg h5, if_pos h6]
      subst hdd;clear HDR2 hx HDR;go_wp2_with fail;go_ret;exact ⟨rfl, gW⟩
     ·have hdd : dr = ⟨l ++ [Zy d nx], nx, 0⟩ := by rw [HDR2.out, if_neg h5, if_neg h6]
      subst hdd;clear HDR2 HDR;obtain ⟨hn1, hn2⟩ : 1 ≤ nx ∧ ∀ r ∈ l, r.ver < nx := by rw [HNX.out]; exact J4
      have HN2 : Hid _ := hn2;have HRX : Hid (Z6 (l ++ [Zy d nx]) = true) := Q1 HRL.out (Vi HW0.out HK3.out hn1 (by omega)) (by omega);have HGX : Hid (Xm (l ++ [Zy d nx]) d.key = if d.kind = 2 then ⟨nx, 10, []⟩ else ⟨nx, 0, d.data⟩) := Zba hn1 hn2;have HAT : Hid (∀ (k : Nat) (h : k < l.length) (h' : k < (l ++ [Zy d nx]).length), (l ++ [Zy d nx])[k] = l[k]) := fun k h h' => List.getElem_append_left h
      have hlx : (l ++ [Zy d nx]).length = l.length + 1 := by simp
      replace hx : Zv _ w1 (.slice ax (l ++ [Zy d nx]).length cx) (l ++ [Zy d nx]) := hx;show _;simp only [hlx] at hx ⊢;have HLX : Hid _ := hlx;clear hlx hn2;generalize l ++ [Zy d nx] = xs at *;go_wp2_with fail;obtain ⟨W1, rfl⟩ : ∃ W1 : World, W1 = w1 := ⟨_, rfl⟩;go_loopw [60] (fun i wr => ∃ k : Nat, k ≤ l.length ∧ i = .int .i64 k ∧ Zi W1 wr) (fun i _ => l.length - (intOf i).toNat)
      case atStart => exact ⟨0, Nat.zero_le _, rfl, Zi.refl _⟩
      case round =>
       obtain ⟨k, hk, rfl, hgr⟩ := hrel;by_cases hlt : k < l.length
       ·have hltx : k < xs.length := by rw [HLX.out]; omega
        obtain ⟨b1, o1, a1, c1, hv1, p0, p1, p2, p3, hu⟩ := Yf (hl.grow (gW.trans hgr)) k hlt;obtain ⟨b2, o2, a2, c2, hv2, q0, q1, q2, q3, hz⟩ := Yf (hx.grow hgr) k hltx;cases hv1;cases hv2;rw [HAT.out k hlt hltx] at q0 q1 q2 q3 hz;have hvr : l[k].ver < nx := HN2.out _ (List.getElem_mem hlt);have HSB : Hid (Ye l[k] l[k] = true) := X0 _;generalize l[k] = r at *;have g2 := Ze wr (.cells #[.int .i64 r.kind, .int .i64 r.key, .int .i64 r.ver, .slice a1 r.data.length c1] 33);have hX := Zs wr #[.int .i64 r.kind, .int .i64 r.key, .int .i64 r.ver, .slice a1 r.data.length c1] 33;have hgr2 := hgr.trans g2;have hu2 := hu.grow g2;have hz2 := hz.grow g2;have k0 := (Below.cell g2 (Zr q0)).trans q0;have k1 := (Below.cell g2 (Zr q1)).trans q1;have k2 := (Below.cell g2 (Zr q2)).trans q2;have k3 := (Below.cell g2 (Zr q3)).trans q3;clear hgr g2 hu hz;go_wp2_with fail;clear p0 p1 p2 p3 q0 q1 q2 q3;generalize World.alloc wr _ = W2 at *;generalize wr.heap.size = gx at *
        refine Zw [ex (.pointer (some ⟨gx, 2, none⟩)), ex (.int .i64 r.ver), ex (.int .i64 nx), ex (.bool false), ex (.bool false), ex (.slice (some ⟨b2, o2, none⟩) (l.length + 1) cx), ex (.int .i64 (k : Int)), ex (.pointer (some ⟨b2, o2 + k * 4, none⟩)), ex (.agg #[.int .i64 r.kind, .int .i64 r.key, .int .i64 r.ver, .slice a2 r.data.length c2]), ex (.agg #[.int .i64 r.kind, .int .i64 r.key, .int .i64 r.ver, .slice a1 r.data.length c1]), ex (.bool true), ex (.bool false), ex (.bool false)] (by kernel_rfl) (by kernel_rfl) ⟨Zd _, Zd _, Zd _, Zd _, Zd _, Zd _, Zd _, Zd _, Zd _, Zd _, Zd _, Zd _, Zd _, trivial⟩ ?_ ?_
        ·refine ⟨?_, ?_, ?_, ?_, ?_, ?_, ?_, ?_, ?_, ?_, ?_, ?_, ?_, trivial⟩
         ·refine Za rfl fun a _ _ _ B A => ?_;have e9 : a (.tmp 9) = .pointer (some ⟨gx, 0, none⟩) := Zk A 9 rfl;refine Zg ?_ rfl;clear A B;go_simp;all_goals go_arith
         ·refine Za rfl fun a _ _ _ B A => ?_;have e65 : a (.tmp 65) = _ := Zb A 0 rfl;have h0 := Zp ((B.block _ (Zf hX)).trans hX) 2 _ rfl;refine Zg ?_ rfl;clear A B;go_simp;all_goals go_arith
         ·exact Za rfl fun a _ _ _ _ A => Zj rfl (Zk A 6 rfl)
         ·refine Za rfl fun a _ _ _ B A => ?_;have e66 : a (.tmp 66) = _ := Zb A 1 rfl;have e67 : a (.tmp 67) = _ := Zb A 2 rfl;refine Zg ?_ rfl;clear A B;go_simp;all_goals go_arith
         ·exact Za rfl fun a _ _ _ _ A => Zj rfl (Zb A 3 rfl)
         ·exact Zh 4 false rfl rfl rfl fun a _ _ _ _ A => Zj rfl (Zk A 5 rfl)
         ·exact Zh 4 false rfl rfl rfl fun a _ _ _ _ A => Zj rfl (Zk A 8 rfl)
         ·refine Zh 4 false rfl rfl rfl fun a _ _ _ B A => ?_;have e70 : a (.tmp 70) = _ := Zb A 5 rfl;have e71 : a (.tmp 71) = _ := Zb A 6 rfl;refine Zg ?_ rfl;clear A B;go_simp;all_goals go_arith
         ·refine Zh 4 false rfl rfl rfl fun a _ _ _ B A => ?_;have e72 : a (.tmp 72) = _ := Zb A 7 rfl;have h0 := (Below.cell B (Zr k0)).trans k0;have h1 := (Below.cell B (Zr k1)).trans k1;have h2 := (Below.cell B (Zr k2)).trans k2;have h3 := (Below.cell B (Zr k3)).trans k3;refine Zg ?_ rfl;clear A B;go_simp;all_goals go_arith
         ·refine Zh 4 false rfl rfl rfl fun a _ _ _ B A => ?_;have e9 : a (.tmp 9) = .pointer (some ⟨gx, 0, none⟩) := Zk A 9 rfl;have hx := (B.block _ (Zf hX)).trans hX;obtain ⟨h0, h1, h2, h3⟩ := Yt hx rfl rfl rfl rfl;refine Zg ?_ rfl;clear A B hx;go_simp;all_goals go_arith
         ·refine Zh 4 false rfl rfl rfl fun a B _ _ C A => ?_;have e73 : a (.tmp 73) = _ := Zb A 8 rfl;have e74 : a (.tmp 74) = _ := Zb A 9 rfl;refine Z2 (f := 13) (args := #[.agg #[.int .i64 r.kind, .int .i64 r.key, .int .i64 r.ver, .slice a2 r.data.length c2], .agg #[.int .i64 r.kind, .int .i64 r.key, .int .i64 r.ver, .slice a1 r.data.length c1]]) ?_ ((Xx _ _ _ _ _ _ r.data r.data _ _ B (Zo hz2.p C) (Zo hu2.p C)).mono ?_)
          ·clear A C;go_simp;all_goals go_arith
          ·rintro e w2 ⟨rfl, g2⟩;exact ⟨_, rfl, g2, by rw [← HSB.out]; rfl⟩
         ·refine Zh 4 false rfl rfl rfl fun a _ _ _ B A => ?_;have e75 : a (.tmp 75) = _ := Zb A 10 rfl;refine Zg ?_ rfl;clear A B;go_simp;all_goals go_arith
         ·refine Za rfl fun a _ _ _ _ A => ?_;have ec : a (.tmp 69) = _ := Zb A 4 rfl;have e : a (.tmp 76) = _ := Zb A 11 rfl;exact Z1 rfl ec e
        ·intro vs w' hg ht;obtain ⟨(r65 : vs 0 = _), (r66 : vs 1 = _), (r67 : vs 2 = _), (r68 : vs 3 = _), (r69 : vs 4 = _), (r70 : vs 5 = _), (r71 : vs 6 = _), (r72 : vs 7 = _), (r73 : vs 8 = _), (r74 : vs 9 = _), (r75 : vs 10 = _), (r76 : vs 11 = _), (r77 : vs 12 = _), -⟩ := ht;simp only [Z4, Act.put, List.setIfInBounds_toArray, List.set_cons_zero, List.set_cons_succ, r65, r66, r67, r68, r69, r70, r71, r72, r73, r74, r75, r76, r77];clear r65 r66 r67 r68 r69 r70 r71 r72 r73 r74 r75 r76 r77;have gE := hgr2.trans hg;clear hg hgr2 k0 k1 k2 k3 hu2 hz2 hX;go_wp2_with fail;go_roundw
         case rel => exact ⟨k + 1, by omega, by go_num, gE⟩
         case measure => simp [intOf]; omega
       ·replace gW := gW.trans hgr;replace hD := (hgr.block _ (Zf hD)).trans hD;replace hx := Zn.every (Zn.grow hx hgr) (by decide);clear hgr;obtain ⟨y0, y1, y2, y3⟩ := Yt hD rfl rfl rfl rfl;go_wp2_with fail;refine (MG _ xs d.key _ _ (fun b h => h) HRX.out hx).mono ?_;rw [HGX.out];by_cases hk2 : d.kind = 2
        ·rw [if_pos hk2];have d2 : (d.kind == 2) = true := by simp [hk2]
         have d1 : (d.kind == 1) = false := by simp [hk2]
         clear hk2;rintro e w3 ⟨ub, he, hub, g1⟩;obtain ⟨ab, cb, rfl⟩ : ∃ a c, ub = .slice a 0 c := hub.form;obtain rfl : e = .returned (.tuple #[.slice ab 0 cb, .int .i64 10]) := he;replace gW := gW.trans g1;replace hD := (g1.block _ (Zf hD)).trans hD;clear g1;clear y0 y1 y2 y3 hub;obtain ⟨y0, y1, y2, y3⟩ := Yt hD rfl rfl rfl rfl;go_wp2_with fail;go_ret;exact ⟨rfl, gW⟩
        ·rw [if_neg hk2];have d1 : (d.kind == 1) = true := by have := HK3.out; simp; omega
         clear hk2;rintro e w3 ⟨ub, he, hub, g1⟩;obtain ⟨ab, cb, rfl⟩ : ∃ a c, ub = .slice a d.data.length c := hub.form;obtain rfl : e = .returned (.tuple #[.slice ab d.data.length cb, .int .i64 0]) := he;replace gW := gW.trans g1;replace hD := (g1.block _ (Zf hD)).trans hD;clear g1;clear y0 y1 y2 y3;have ra : (convert 31 9 (.slice ab d.data.length cb)).run Try.prog w3 = .ok (.string ⟨d.data.toArray⟩) w3 := Xk _ _ _ hub.p;have rb := Xk _ _ _ (hd.grow gW).p;clear hub;obtain ⟨y0, y1, y2, y3⟩ := Yt hD rfl rfl rfl rfl;go_wp2_with fail;go_ret;exact ⟨rfl, gW⟩
  ·have d0 : (WD != 0) = true := by simp [hw0]
   clear hw0;go_wp2_with fail;go_ret;exact ⟨rfl, gW⟩
end Go.Proofs.Ytpdnapbchcdhlab
