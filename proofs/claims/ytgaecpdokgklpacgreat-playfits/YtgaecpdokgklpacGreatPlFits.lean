import Derived.Test.YtgaecpdokgklpacGreatInv3
set_option maxHeartbeats 8000000
namespace Go.Proofs.YtgaecpdokgklpacGreat
set_option maxRecDepth 100000
open Go.RowKit
open Plain Reg
theorem Zkm (AL : Zg6) (PD : Zue) (l : List Sp) (x : Sp) (v : Value) (ad : Option Addr) (c : Nat) (w : World) (hl : Zc1 (fun b => b < w.heap.size) w v l) (hd : Z0 (fun b => b < w.heap.size) w (.slice ad x.deed.data.length c) x.deed.data) (hm : l.length ≤ 140737488355328) (hdl : ∀ x ∈ l, x.deed.data.length ≤ 140737488355328) (hdd : x.deed.data.length ≤ 140737488355328) :
  Calls Tryz.prog 7 #[v, .agg #[.int .i64 x.kind, .int .i64 x.n, .int .i64 x.m, .int .i64 x.deed.kind, .int .i64 x.deed.key, .int .i64 x.deed.num, .slice ad x.deed.data.length c]] w fun r w' => r = .returned (.bool true) ∧ Zo w w' := by
 obtain ⟨ao, cp, rfl⟩ := hl.form;have g0 := Zb w (.cells #[.int .i64 x.kind, .int .i64 x.n, .int .i64 x.m, .int .i64 x.deed.kind, .int .i64 x.deed.key, .int .i64 x.deed.num, .slice ad x.deed.data.length c] 49);have hX0 := Zi w #[.int .i64 x.kind, .int .i64 x.n, .int .i64 x.m, .int .i64 x.deed.kind, .int .i64 x.deed.key, .int .i64 x.deed.num, .slice ad x.deed.data.length c] 49;go_enter Tryz.func7, Tryz.ntmps7;go_wp2_with fail;refine (AL _).mono ?_;rintro r w1 ⟨rfl, g1⟩;have hX1 := (g1.block _ (Za hX0)).trans hX0;have gw1 := g0.trans g1;clear g0 g1 hX0;go_wp2_with fail;refine (Zkb (fun b => b < w.heap.size) l _ w1 (fun b h => Nat.lt_of_lt_of_le h gw1.size) (hl.grow gw1) hm hdl).mono ?_;have HIV : Hid ((K3 100 Xi l).Inv) := Zgq 100 Xi l Zvu;generalize K3 100 Xi l = s at *;rintro r w2 ⟨v2, rfl, hS2, g2⟩;obtain ⟨b1, e1, l1, m1, i1, j1, hv2, -, -, -⟩ := hS2.form;subst hv2;have g3 := Zb w2 (.cells #[.slice b1 s.dk.blocks.length e1, .slice l1 s.dk.late.length m1, .slice i1 s.idx.length j1, .int .i64 s.next] 29);have hY3 := Zi w2 #[.slice b1 s.dk.blocks.length e1, .slice l1 s.dk.late.length m1, .slice i1 s.idx.length j1, .int .i64 s.next] 29;have hS3 := (hS2.grow g3).any;have hX3 := ((g2.trans g3).block _ (Za hX1)).trans hX1;have gw3 := gw1.trans (g2.trans g3);clear hS2 g2 hX1 gw1 g3;obtain ⟨y0, y1, y2, y3⟩ := Z7 hY3 rfl rfl rfl rfl;obtain ⟨p0, p1, p2, p3, p4⟩ := Qg hX3 rfl rfl rfl rfl rfl;have p5 := Zc hX3 5 _ rfl;have p6 := Zc hX3 6 _ rfl;go_wp2_with fail
 obtain ⟨G, hG⟩ : ∃ G, G = w2.heap.size := ⟨_, rfl⟩;rw [← hG] at hY3 ⊢;clear hG y0 y1 y2 y3 p0 p1 p2 p3 p4 p5 p6;generalize World.alloc w2 _ = w3 at *;refine (Zeq _ 0 s x _ ad c w3 hS3 HIV.out.at'.ok.disk (by omega)).mono ?_;obtain ⟨gb, hgb⟩ : ∃ gb, gb = Vy s x := ⟨_, rfl⟩;rw [← hgb];rintro r w4 ⟨rfl, g4⟩;have gw4 := gw3.trans g4;cases gb with
 | false =>
  clear hgb hY3 hS3 hX3 gw3 g4;go_wp2_with fail;go_ret;exact ⟨rfl, gw4⟩
 | true =>
  have HYI : Hid ((s.step x).st.Inv) := Zju HIV.out hgb.symm;have hY4 := (g4.block _ (Za hY3)).trans hY3;have hX4 := (g4.block _ (Za hX3)).trans hX3;have hS4 := hS3.grow g4;have hd4 := hd.grow gw4;clear hgb hY3 hS3 hX3 gw3 g4;obtain ⟨y0, y1, y2, y3⟩ := Z7 hY4 rfl rfl rfl rfl;obtain ⟨p0, p1, p2, p3, p4⟩ := Qg hX4 rfl rfl rfl rfl rfl;have p5 := Zc hX4 5 _ rfl;have p6 := Zc hX4 6 _ rfl;go_wp2_with fail;refine (PD (fun b => b < w4.heap.size) s x _ ad c w4 (fun b h => h) hS4.now (Zq9 hd4) HIV.out.at' hdd).mono ?_;generalize s.step x = B at *;rintro r w5 ⟨v5, rfl, h5, g5⟩;obtain ⟨b5, e5, l5, m5, i5, j5, hv5, -, -, -⟩ := h5.form;subst hv5;have g6 := Zb w5 (.cells #[.slice b5 B.st.dk.blocks.length e5, .slice l5 B.st.dk.late.length m5, .slice i5 B.st.idx.length j5, .int .i64 B.st.next] 29);have hB6 := Zi w5 #[.slice b5 B.st.dk.blocks.length e5, .slice l5 B.st.dk.late.length m5, .slice i5 B.st.idx.length j5, .int .i64 B.st.next] 29;have hs6 := (h5.grow g6).any;have gw6 := gw4.trans (g5.trans g6);clear y0 y1 y2 y3 p0 p1 p2 p3 p4 p5 p6 hY4 hX4 hS4 hd4 gw4 h5 g5 g6;obtain ⟨y0, y1, y2, y3⟩ := Z7 hB6 rfl rfl rfl rfl;go_wp2_with fail;obtain ⟨A, hA⟩ : ∃ A, A = w5.heap.size := ⟨_, rfl⟩;rw [← hA] at hB6 ⊢;clear hA y0 y1 y2 y3;generalize World.alloc w5 _ = w6 at *;refine (PD (fun b => b < w6.heap.size) B.st Zh1 _ none 0 w6 (fun b h => h) hs6.now (Zqe _ _) HYI.out.at' (by decide)).mono ?_;rw [(Zgc B.st).1, (Zgc B.st).2.1, (Zgc B.st).2.2];have HMI : Hid ((X2 B.st.dk).idx = B.st.idx) := Zvx HYI.out
  generalize X2 B.st.dk = M at *;rintro r w7 ⟨v7, rfl, h7, g7⟩;obtain ⟨b7, e7, l7, m7, i7, j7, hv7, -, -, -⟩ := h7.form;subst hv7;have g8 := Zb w7 (.cells #[.slice b7 M.dk.blocks.length e7, .slice l7 M.dk.late.length m7, .slice i7 M.idx.length j7, .int .i64 M.next] 29);have hZ9 := Zi w7 #[.slice b7 M.dk.blocks.length e7, .slice l7 M.dk.late.length m7, .slice i7 M.idx.length j7, .int .i64 M.next] 29;have gg := g7.trans g8;have hB9 := (gg.block _ (Za hB6)).trans hB6;have hs9 := hs6.grow gg;have hz9 := (h7.grow g8).any;have gw9 := gw6.trans gg;clear hB6 hs6 h7 g7 g8 gg gw6;go_wp2_with fail;obtain ⟨Z, hZ⟩ : ∃ Z, Z = w7.heap.size := ⟨_, rfl⟩;rw [← hZ] at hZ9 ⊢;clear hZ;generalize World.alloc w7 _ = W9 at *;obtain ⟨xb, xl, xi, hvx, hxb, hxl, hxi⟩ := hs9;cases hvx;obtain ⟨zb, zl, zi, hvz, -, -, hzi⟩ := hz9;cases hvz;have HE1 : Hid (Zaf B.st.idx (Z5 B.st.dk 6) = true) := by show _ = _; rw [← HYI.out.idx]; exact (Zae _ _).2 rfl
  have HE2 : Hid (Zaf B.st.idx M.idx = true) := by show _ = _; rw [HMI.out]; exact (Zae _ _).2 rfl
  have HF : Hid _ := HYI.out.at'.ok.disk;have HT : Hid (Ym B.st.dk 6 = []) := HYI.out.good.twice 6 (Nat.le_refl _);have H6 : Hid (B.st.idx.length ≤ 6) := Zxw HYI.out.at';have d12 : ((B.st.dk.blocks.length : Int) == 12) = true := by rw [HF.out.len]; rfl
  refine Yd [ex (.pointer (some ⟨A, 0, none⟩)), ex (.pointer (some ⟨A, 0, none⟩)), ex (.slice b5 B.st.dk.blocks.length e5), ex (.int .i64 (B.st.dk.blocks.length : Int)), ex (.bool true), ex (.bool true), ex (.pointer (some ⟨A, 2, none⟩)), ex (.slice i5 B.st.idx.length j5), ex (.pointer (some ⟨A, 0, none⟩)), ex (.agg #[.slice b5 B.st.dk.blocks.length e5, .slice l5 B.st.dk.late.length m5]), ((fun v w' => ∃ S', Yt S' w' v (Z5 B.st.dk 6))), ex (.bool true), ex (.bool true), ex (.bool true), ex (.pointer (some ⟨A, 0, none⟩)), ex (.agg #[.slice b5 B.st.dk.blocks.length e5, .slice l5 B.st.dk.late.length m5]), ((fun v _ => ∃ ao cp, v = .slice ao 0 cp)), ex (.int .i64 0), ex (.bool true), ex (.bool true), ex (.bool true), ex (.pointer (some ⟨A, 2, none⟩)), ex (.slice i5 B.st.idx.length j5), ex (.pointer (some ⟨Z, 2, none⟩)), ex (.slice i7 M.idx.length j7), ex (.bool true), ex (.bool true), ex (.bool true)] (by kernel_rfl) (by kernel_rfl) ⟨Zh _, Zh _, Zh _, Zh _, Zh _, Zh _, Zh _, Zh _, Zh _, Zh _, (fun _ _ _ hg ⟨S', h⟩ => ⟨S', Z9.grow h hg⟩), Zh _, Zh _, Zh _, Zh _, Zh _, (fun _ _ _ _ h => h), Zh _, Zh _, Zh _, Zh _, Zh _, Zh _, Zh _, Zh _, Zh _, Zh _, Zh _, trivial⟩ ?_ ?_
  ·refine ⟨?_, ?_, ?_, ?_, ?_, ?_, ?_, ?_, ?_, ?_, ?_, ?_, ?_, ?_, ?_, ?_, ?_, ?_, ?_, ?_, ?_, ?_, ?_, ?_, ?_, ?_, ?_, ?_, trivial⟩
   ·refine Zd rfl fun a w' ek ef hg hin => ?_;have e6 : a (.tmp 6) = .pointer (some ⟨A, 0, none⟩) := Zy hin 6 rfl;refine Zm ?_ rfl;clear hin hg;go_simp;all_goals go_arith
   ·refine Zd rfl fun a w' ek ef hg hin => ?_;have e34 : a (.tmp 34) = _ := Zg hin 0 rfl;refine Zm ?_ rfl;clear hin hg;go_simp;all_goals go_arith
   ·refine Zd rfl fun a w' ek ef hg hin => ?_;have e35 : a (.tmp 35) = _ := Zg hin 1 rfl;have hh := (hg.block _ (Za hB9)).trans hB9;obtain ⟨z0, z1, z2⟩ := Zhi hh rfl rfl rfl;refine Zm ?_ rfl;clear hin hg hh;go_simp;all_goals go_arith
   ·refine Zd rfl fun a w' ek ef hg hin => ?_;have e36 : a (.tmp 36) = _ := Zg hin 2 rfl;refine Zm ?_ rfl;clear hin hg;go_simp;all_goals go_arith
   ·refine Zd rfl fun a w' ek ef hg hin => ?_;have e37 : a (.tmp 37) = _ := Zg hin 3 rfl;refine Zm ?_ rfl;clear hin hg;go_simp;all_goals go_arith
   ·refine Zd rfl fun a w' ek ef hg hin => ?_;have e : a (.tmp 38) = _ := Zg hin 4 rfl;exact Zw rfl e
   ·refine Zq 5 true rfl (fun a w' hin => Zp hin 5 (by kernel_rfl)) fun a w' ek ef hg hin => ?_;have e6 : a (.tmp 6) = .pointer (some ⟨A, 0, none⟩) := Zy hin 6 rfl;refine Zm ?_ rfl;clear hin hg;go_simp;all_goals go_arith
   ·refine Zq 5 true rfl (fun a w' hin => Zp hin 5 (by kernel_rfl)) fun a w' ek ef hg hin => ?_;have e40 : a (.tmp 40) = _ := Zg hin 6 rfl;have hh := (hg.block _ (Za hB9)).trans hB9;obtain ⟨z0, z1, z2⟩ := Zhi hh rfl rfl rfl;refine Zm ?_ rfl;clear hin hg hh;go_simp;all_goals go_arith
   ·refine Zq 5 true rfl (fun a w' hin => Zp hin 5 (by kernel_rfl)) fun a w' ek ef hg hin => ?_;have e6 : a (.tmp 6) = .pointer (some ⟨A, 0, none⟩) := Zy hin 6 rfl;refine Zm ?_ rfl;clear hin hg;go_simp;all_goals go_arith
   ·refine Zq 5 true rfl (fun a w' hin => Zp hin 5 (by kernel_rfl)) fun a w' ek ef hg hin => ?_;have e42 : a (.tmp 42) = _ := Zg hin 8 rfl;have hh := (hg.block _ (Za hB9)).trans hB9;obtain ⟨z0, z1, z2⟩ := Zhi hh rfl rfl rfl;refine Zm ?_ rfl;clear hin hg hh;go_simp;all_goals go_arith
   ·refine Zq 5 true rfl (fun a w' hin => Zp hin 5 (by kernel_rfl)) fun a w' ek ef hg hin => ?_;have e43 : a (.tmp 43) = _ := Zg hin 9 rfl;refine Y0 (f := 24) (args := #[.agg #[.slice b5 B.st.dk.blocks.length e5, .slice l5 B.st.dk.late.length m5]]) ?_ ((Zdz _ B.st.dk _ _ w' (hxb.grow hg) (hxl.grow hg) (by rw [HF.out.len]; omega) (by have := HF.out.few; omega)).mono ?_)
    ·clear hin hg;go_simp;all_goals go_arith
    ·rintro e w2 ⟨v2, rfl, hE, g2⟩;rw [show B.st.dk.blocks.length / 2 = 6 from by rw [HF.out.len]] at hE;exact ⟨_, rfl, g2, _, hE⟩
   ·refine Zq 5 true rfl (fun a w' hin => Zp hin 5 (by kernel_rfl)) fun a w' ek ef hg hin => ?_;have e41 : a (.tmp 41) = _ := Zg hin 7 rfl;have e44 : ((fun v w' => ∃ S', Yt S' w' v (Z5 B.st.dk 6))) (a (.tmp 44)) w' := Zg hin 10 rfl;obtain ⟨S', e44⟩ := e44;refine Y0 (f := 23) (args := #[.slice i5 B.st.idx.length j5, a (.tmp 44)]) ?_ ((Zfu B.st.idx (Z5 B.st.dk 6) _ _ _ S' w' (hxi.grow hg) e44 (by have := H6.out; omega)).mono ?_)
    ·clear hin hg e44;go_simp;all_goals go_arith
    ·rw [HE1.out];rintro e w2 ⟨rfl, g2⟩;exact ⟨_, rfl, g2, rfl⟩
   ·refine Zd rfl fun a w' ek ef hg hin => ?_;have ec : a (.tmp 39) = _ := Zg hin 5 rfl;have e : a (.tmp 45) = _ := Zg hin 11 rfl;exact Xc rfl ec e
   ·refine Zd rfl fun a w' ek ef hg hin => ?_;have e : a (.tmp 46) = _ := Zg hin 12 rfl;exact Zw rfl e
   ·refine Zq 13 true rfl (fun a w' hin => Zp hin 13 (by kernel_rfl)) fun a w' ek ef hg hin => ?_;have e6 : a (.tmp 6) = .pointer (some ⟨A, 0, none⟩) := Zy hin 6 rfl;refine Zm ?_ rfl;clear hin hg;go_simp;all_goals go_arith
   ·refine Zq 13 true rfl (fun a w' hin => Zp hin 13 (by kernel_rfl)) fun a w' ek ef hg hin => ?_;have e48 : a (.tmp 48) = _ := Zg hin 14 rfl;have hh := (hg.block _ (Za hB9)).trans hB9;obtain ⟨z0, z1, z2⟩ := Zhi hh rfl rfl rfl;refine Zm ?_ rfl;clear hin hg hh;go_simp;all_goals go_arith
   ·refine Zq 13 true rfl (fun a w' hin => Zp hin 13 (by kernel_rfl)) fun a w' ek ef hg hin => ?_;have e49 : a (.tmp 49) = _ := Zg hin 15 rfl;refine Y0 (f := 25) (args := #[.agg #[.slice b5 B.st.dk.blocks.length e5, .slice l5 B.st.dk.late.length m5]]) ?_ ((Zft 0 B.st.dk _ w' ⟨_, _, rfl, (hxb.grow hg).p, (hxl.grow hg).p⟩ HF.out (by omega)).mono ?_)
    ·clear hin hg;go_simp;all_goals go_arith
    ·rw [HT.out];rintro e w2 ⟨v2, css, rfl, hE, g2⟩;exact ⟨_, rfl, g2, Z9.form hE.slice⟩
   ·refine Zq 13 true rfl (fun a w' hin => Zp hin 13 (by kernel_rfl)) fun a w' ek ef hg hin => ?_;have e50 : ((fun v _ => ∃ ao cp, v = .slice ao 0 cp)) (a (.tmp 50)) w' := Zg hin 16 rfl;obtain ⟨a9, c9, h9⟩ := e50;have e50 := h9;refine Zm ?_ rfl;clear hin hg h9;go_simp;all_goals go_arith
   ·refine Zq 13 true rfl (fun a w' hin => Zp hin 13 (by kernel_rfl)) fun a w' ek ef hg hin => ?_;have e51 : a (.tmp 51) = _ := Zg hin 17 rfl;refine Zm ?_ rfl;clear hin hg;go_simp;all_goals go_arith
   ·refine Zd rfl fun a w' ek ef hg hin => ?_;have ec : a (.tmp 47) = _ := Zg hin 13 rfl;have e : a (.tmp 52) = _ := Zg hin 18 rfl;exact Xc rfl ec e
   ·refine Zd rfl fun a w' ek ef hg hin => ?_;have e : a (.tmp 53) = _ := Zg hin 19 rfl;exact Zw rfl e
   ·refine Zq 20 true rfl (fun a w' hin => Zp hin 20 (by kernel_rfl)) fun a w' ek ef hg hin => ?_;have e6 : a (.tmp 6) = .pointer (some ⟨A, 0, none⟩) := Zy hin 6 rfl;refine Zm ?_ rfl;clear hin hg;go_simp;all_goals go_arith
   ·refine Zq 20 true rfl (fun a w' hin => Zp hin 20 (by kernel_rfl)) fun a w' ek ef hg hin => ?_;have e55 : a (.tmp 55) = _ := Zg hin 21 rfl;have hh := (hg.block _ (Za hB9)).trans hB9;obtain ⟨z0, z1, z2⟩ := Zhi hh rfl rfl rfl;refine Zm ?_ rfl;clear hin hg hh;go_simp;all_goals go_arith
   ·refine Zq 20 true rfl (fun a w' hin => Zp hin 20 (by kernel_rfl)) fun a w' ek ef hg hin => ?_;have e9 : a (.tmp 9) = .pointer (some ⟨Z, 0, none⟩) := Zy hin 9 rfl;refine Zm ?_ rfl;clear hin hg;go_simp;all_goals go_arith
   ·refine Zq 20 true rfl (fun a w' hin => Zp hin 20 (by kernel_rfl)) fun a w' ek ef hg hin => ?_;have e57 : a (.tmp 57) = _ := Zg hin 23 rfl;have hh := (hg.block _ (Za hZ9)).trans hZ9;obtain ⟨z0, z1, z2⟩ := Zhi hh rfl rfl rfl;refine Zm ?_ rfl;clear hin hg hh;go_simp;all_goals go_arith
   ·refine Zq 20 true rfl (fun a w' hin => Zp hin 20 (by kernel_rfl)) fun a w' ek ef hg hin => ?_;have e56 : a (.tmp 56) = _ := Zg hin 22 rfl;have e58 : a (.tmp 58) = _ := Zg hin 24 rfl;refine Y0 (f := 23) (args := #[.slice i5 B.st.idx.length j5, .slice i7 M.idx.length j7]) ?_ ((Zfu B.st.idx M.idx _ _ _ _ w' (hxi.grow hg) (hzi.grow hg) (by have := H6.out; omega)).mono ?_)
    ·clear hin hg;go_simp;all_goals go_arith
    ·rw [HE2.out];rintro e w2 ⟨rfl, g2⟩;exact ⟨_, rfl, g2, rfl⟩
   ·refine Zd rfl fun a w' ek ef hg hin => ?_;have ec : a (.tmp 54) = _ := Zg hin 20 rfl;have e : a (.tmp 59) = _ := Zg hin 25 rfl;exact Xc rfl ec e
   ·refine Zd rfl fun a w' ek ef hg hin => ?_;have e : a (.tmp 60) = _ := Zg hin 26 rfl;exact Yx rfl e
  ·intro vs w' hg ht;obtain ⟨q34, q35, q36, q37, q38, q39, q40, q41, q42, q43, q44, q45, q46, q47, q48, q49, q50, q51, q52, q53, q54, q55, q56, q57, q58, q59, q60, q4, -⟩ := ht;have r34 : vs 0 = .pointer (some ⟨A, 0, none⟩) := q34;have r35 : vs 1 = .pointer (some ⟨A, 0, none⟩) := q35;have r36 : vs 2 = .slice b5 B.st.dk.blocks.length e5 := q36;have r37 : vs 3 = .int .i64 (B.st.dk.blocks.length : Int) := q37;have r38 : vs 4 = .bool true := q38;have r39 : vs 5 = .bool true := q39;have r40 : vs 6 = .pointer (some ⟨A, 2, none⟩) := q40;have r41 : vs 7 = .slice i5 B.st.idx.length j5 := q41;have r42 : vs 8 = .pointer (some ⟨A, 0, none⟩) := q42;have r43 : vs 9 = .agg #[.slice b5 B.st.dk.blocks.length e5, .slice l5 B.st.dk.late.length m5] := q43;have r45 : vs 11 = .bool true := q45;have r46 : vs 12 = .bool true := q46;have r47 : vs 13 = .bool true := q47;have r48 : vs 14 = .pointer (some ⟨A, 0, none⟩) := q48;have r49 : vs 15 = .agg #[.slice b5 B.st.dk.blocks.length e5, .slice l5 B.st.dk.late.length m5] := q49;have r51 : vs 17 = .int .i64 0 := q51;have r52 : vs 18 = .bool true := q52;have r53 : vs 19 = .bool true := q53;have r54 : vs 20 = .bool true := q54;have r55 : vs 21 = .pointer (some ⟨A, 2, none⟩) := q55;have r56 : vs 22 = .slice i5 B.st.idx.length j5 := q56;have r57 : vs 23 = .pointer (some ⟨Z, 2, none⟩) := q57;have r58 : vs 24 = .slice i7 M.idx.length j7 := q58;have r59 : vs 25 = .bool true := q59;have r60 : vs 26 = .bool true := q60;have r4 : vs 27 = .bool true := q4
   clear q34 q35 q36 q37 q38 q39 q40 q41 q42 q43 q45 q46 q47 q48 q49 q51 q52 q53 q54 q55 q56 q57 q58 q59 q60 q4;simp only [Yj, Act.put, List.setIfInBounds_toArray, List.set_cons_zero, List.set_cons_succ, r34, r35, r36, r37, r38, r39, r40, r41, r42, r43, r45, r46, r47, r48, r49, r51, r52, r53, r54, r55, r56, r57, r58, r59, r60, r4];clear r34 r35 r36 r37 r38 r39 r40 r41 r42 r43 r45 r46 r47 r48 r49 r51 r52 r53 r54 r55 r56 r57 r58 r59 r60 r4;have gE := gw9.trans hg;clear q44 q50 hg hB9 hZ9 gw9 hxb hxl hxi hzi;go_wp2_with fail;go_ret;exact ⟨rfl, gE⟩
def Vf (x y : Int) : Int := if x < y then -1 else if y < x then 1 else 0
def Zd9 (x y : Ent) : Int := if Vf x.rc.key y.rc.key ≠ 0 then Vf x.rc.key y.rc.key else if Vf x.rc.ver y.rc.ver ≠ 0 then Vf x.rc.ver y.rc.ver else Vf x.pair y.pair
theorem J3 (x y : Int) : Vf x y = 0 ↔ x = y := by unfold Vf; split <;> (try split) <;> omega
theorem Zjb (x y : Int) : Vf x y < 0 ↔ x < y := by unfold Vf; split <;> (try split) <;> omega
theorem Zjc (x y : Int) : 0 < Vf x y ↔ y < x := by unfold Vf; split <;> (try split) <;> omega
theorem Zo0 (x y : Ent) : (decide (Zd9 x y < 0)) = Y4 x y := by
 rw [Bool.eq_iff_iff, decide_eq_true_eq];unfold Zd9 Y4;by_cases hk : x.rc.key = y.rc.key
 ·rw [if_neg (by simpa using (J3 _ _).2 hk), if_pos hk];by_cases hv : x.rc.ver = y.rc.ver
  ·rw [if_neg (by simpa using (J3 _ _).2 hv), if_pos hv, Zjb, decide_eq_true_eq]
  ·rw [if_pos (fun h => hv ((J3 _ _).1 h)), if_neg hv, Zjb, decide_eq_true_eq]
 ·rw [if_pos (fun h => hk ((J3 _ _).1 h)), if_neg hk, Zjb, decide_eq_true_eq]
theorem Zvr (x y : Ent) : (decide (0 < Zd9 x y)) = Y4 y x := by
 rw [Bool.eq_iff_iff, decide_eq_true_eq];unfold Zd9 Y4;by_cases hk : x.rc.key = y.rc.key
 ·rw [if_neg (by simpa using (J3 _ _).2 hk), if_pos hk.symm];by_cases hv : x.rc.ver = y.rc.ver
  ·rw [if_neg (by simpa using (J3 _ _).2 hv), if_pos hv.symm, Zjc, decide_eq_true_eq]
  ·rw [if_pos (fun h => hv ((J3 _ _).1 h)), if_neg (fun h => hv h.symm), Zjc, decide_eq_true_eq]
 ·rw [if_pos (fun h => hk ((J3 _ _).1 h)), if_neg (fun h => hk h.symm), Zjc, decide_eq_true_eq]
theorem Zpf {P : Program} {w w' : World} {R : Value → World → Prop} {o : Oper} {ev : Operand → Value} {v : Value} (h : (execOp ev o).run P w = .ok (.value v) w') (hg : Zo w w') (hv : R v w') : upon P w R ((execOp ev o).run P w) := by
 rw [h]; exact ⟨hg, hv⟩
theorem Zcc (x : Int) (w : World) : Calls Tryz.prog 122 #[.int .i64 x] w fun e w' => e = .returned (.bool false) ∧ w' = w := by
 have d0 : (x != x) = false := by simp
 go_enter Tryz.func122, Tryz.ntmps122;go_wp2_with fail;go_ret;exact ⟨rfl, rfl⟩
theorem Zja (x y : Int) (w : World) : Calls Tryz.prog 91 #[.int .i64 x, .int .i64 y] w fun e w' => e = .returned (.int .i64 (Vf x y)) ∧ w' = w := by
 by_cases h1 : x < y
 ·have HC : Hid (Vf x y = -1) := by show _ = _; unfold Vf; rw [if_pos h1]
  rw [HC.out];go_enter Tryz.func91, Tryz.ntmps91;go_wp2_with fail;refine (Zcc _ _).mono ?_;rintro e w1 ⟨rfl, rfl⟩;go_wp2_with fail;refine (Zcc _ _).mono ?_;rintro e w1 ⟨rfl, rfl⟩;go_wp2_with fail;go_ret;exact ⟨rfl, rfl⟩
 ·by_cases h2 : y < x
  ·have HC : Hid (Vf x y = 1) := by show _ = _; unfold Vf; rw [if_neg h1, if_pos h2]
   rw [HC.out];go_enter Tryz.func91, Tryz.ntmps91;go_wp2_with fail;refine (Zcc _ _).mono ?_;rintro e w1 ⟨rfl, rfl⟩;go_wp2_with fail;refine (Zcc _ _).mono ?_;rintro e w1 ⟨rfl, rfl⟩;go_wp2_with fail;go_ret;exact ⟨rfl, rfl⟩
  ·have HC : Hid (Vf x y = 0) := by show _ = _; unfold Vf; rw [if_neg h1, if_neg h2]
   rw [HC.out];go_enter Tryz.func91, Tryz.ntmps91;go_wp2_with fail;refine (Zcc _ _).mono ?_;rintro e w1 ⟨rfl, rfl⟩;go_wp2_with fail;refine (Zcc _ _).mono ?_;rintro e w1 ⟨rfl, rfl⟩;go_wp2_with fail;go_ret;exact ⟨rfl, rfl⟩
def orN : List Int → Int
 | [] => 0
 | v :: l => if v ≠ 0 then v else orN l
theorem Zxj (vs : List Int) (b cap : Nat) (w : World) (hn : vs.length ≤ 1000) (hc : ∀ (j : Nat) (h : j < vs.length), w.cell? ⟨b, j, none⟩ = some (.int .i64 vs[j])) :
  Calls Tryz.prog 90 #[.slice (some ⟨b, 0, none⟩) vs.length cap] w fun e w' => e = .returned (.int .i64 (orN vs)) ∧ Zo w w' := by
 obtain ⟨R, hR⟩ : ∃ R, R = orN vs := ⟨_, rfl⟩;rw [← hR];have HR : Hid _ := hR;clear hR;go_enter Tryz.func90, Tryz.ntmps90;go_wp2_with fail;go_loopw [8] (fun i wr => ∃ k : Nat, k ≤ vs.length ∧ i = .int .i64 k ∧ R = orN (vs.drop k) ∧ Zo w wr) (fun i _ => vs.length - (intOf i).toNat)
 case atStart => exact ⟨0, Nat.zero_le _, rfl, HR.out, Zo.refl _⟩
 case round =>
  obtain ⟨k, hk, rfl, hRk, hg⟩ := hrel;have HK : Hid (R = orN (vs.drop k)) := hRk;clear hRk;by_cases hlt : k < vs.length
  ·have q0 := (Below.cell hg (Zv (hc k hlt))).trans (hc k hlt);have HX : Hid (R = if vs[k] ≠ 0 then vs[k] else orN (vs.drop (k + 1))) := by show R = _; rw [HK.out, List.drop_eq_getElem_cons hlt]; rfl
   generalize vs[k] = x at *;clear HK;by_cases hx : x = 0
   ·have HY : Hid (R = orN (vs.drop (k + 1))) := by show R = _; rw [HX.out, if_neg (by simpa using hx)]
    have d0 : (x != 0) = false := by simp [hx]
    clear HX hx;go_wp2_with fail;go_roundw
    case rel => exact ⟨k + 1, by omega, by go_num, HY.out, hg⟩
    case measure => simp [intOf]; omega
   ·have HY : Hid (R = x) := by show R = _; rw [HX.out, if_pos hx]
    have d0 : (x != 0) = true := by simp [hx]
    clear HX hx;go_wp2_with fail;go_ret;exact ⟨by rw [HY.out]; rfl, hg⟩
  ·have HY : Hid (R = 0) := by show R = _; rw [HK.out, List.drop_eq_nil_of_le (by omega)]; rfl
   clear HK;go_wp2_with fail;go_ret;exact ⟨by rw [HY.out]; rfl, hg⟩
theorem Zta (x y : Ent) : orN [Vf x.rc.key y.rc.key, Vf x.rc.ver y.rc.ver, Vf x.pair y.pair] = Zd9 x y := by
 unfold Zd9;simp only [orN];split
 ·rfl
 ·split
  ·rfl
  ·split
   ·rfl
   ·rename_i h; exact (Decidable.of_not_not h).symm
def Zn7 (n0 n1 n2 : Int) (v : Value) (w : World) : Prop := ∃ g, v = .slice (some ⟨g, 0, none⟩) 3 3 ∧ w.heap[g]? = some (.cells #[.int .i64 n0, .int .i64 n1, .int .i64 n2] 3 (0, 0))
theorem Zpl (n0 n1 n2 : Int) : Xv (Zn7 n0 n1 n2) := by
 rintro v w w' hg ⟨g, h1, h2⟩; exact ⟨g, h1, (hg.block _ (Za h2)).trans h2⟩
theorem Zcb (x y : Ent) (a0 a1 : Option Addr) (c0 c1 : Nat) (w : World) :
  Calls Tryz.prog 57 #[.agg #[.int .i64 x.rc.kind, .int .i64 x.rc.key, .int .i64 x.rc.ver, .slice a0 x.rc.data.length c0, .int .i64 x.pair], .agg #[.int .i64 y.rc.kind, .int .i64 y.rc.key, .int .i64 y.rc.ver, .slice a1 y.rc.data.length c1, .int .i64 y.pair]] w fun e w' => e = .returned (.int .i64 (Zd9 x y)) ∧ Zo w w' := by
 have g0 := Zs w (.cells #[.int .i64 x.rc.kind, .int .i64 x.rc.key, .int .i64 x.rc.ver, .slice a0 x.rc.data.length c0, .int .i64 x.pair] 84) (.cells #[.int .i64 y.rc.kind, .int .i64 y.rc.key, .int .i64 y.rc.ver, .slice a1 y.rc.data.length c1, .int .i64 y.pair] 84);have hx0 := Zi w #[.int .i64 x.rc.kind, .int .i64 x.rc.key, .int .i64 x.rc.ver, .slice a0 x.rc.data.length c0, .int .i64 x.pair] 84;have hy0 := Zi (w.alloc (.cells #[.int .i64 x.rc.kind, .int .i64 x.rc.key, .int .i64 x.rc.ver, .slice a0 x.rc.data.length c0, .int .i64 x.pair] 84)) #[.int .i64 y.rc.kind, .int .i64 y.rc.key, .int .i64 y.rc.ver, .slice a1 y.rc.data.length c1, .int .i64 y.pair] 84;have hx1 := ((Zb (w.alloc (.cells #[.int .i64 x.rc.kind, .int .i64 x.rc.key, .int .i64 x.rc.ver, .slice a0 x.rc.data.length c0, .int .i64 x.pair] 84)) (.cells #[.int .i64 y.rc.kind, .int .i64 y.rc.key, .int .i64 y.rc.ver, .slice a1 y.rc.data.length c1, .int .i64 y.pair] 84)).block _ (Za hx0)).trans hx0;rw [World.size_alloc] at hy0;clear hx0;obtain ⟨R, hR⟩ : ∃ R, R = Zd9 x y := ⟨_, rfl⟩;rw [← hR];have HR : Hid _ := hR;clear hR;go_enter Tryz.func57, Tryz.ntmps57;go_wp2_with fail;generalize World.alloc (World.alloc w _) _ = W at *
 refine Yd [ex (.pointer (some ⟨w.heap.size, 0, none⟩)), ex (.pointer (some ⟨w.heap.size, 1, none⟩)), ex (.int .i64 x.rc.key), ex (.pointer (some ⟨w.heap.size + 1, 0, none⟩)), ex (.pointer (some ⟨w.heap.size + 1, 1, none⟩)), ex (.int .i64 y.rc.key), ex (.int .i64 (Vf x.rc.key y.rc.key)), ex (.pointer (some ⟨w.heap.size, 0, none⟩)), ex (.pointer (some ⟨w.heap.size, 2, none⟩)), ex (.int .i64 x.rc.ver), ex (.pointer (some ⟨w.heap.size + 1, 0, none⟩)), ex (.pointer (some ⟨w.heap.size + 1, 2, none⟩)), ex (.int .i64 y.rc.ver), ex (.int .i64 (Vf x.rc.ver y.rc.ver)), ex (.pointer (some ⟨w.heap.size, 4, none⟩)), ex (.int .i64 x.pair), ex (.pointer (some ⟨w.heap.size + 1, 4, none⟩)), ex (.int .i64 y.pair), ex (.int .i64 (Vf x.pair y.pair)), ((Zn7 (Vf x.rc.key y.rc.key) (Vf x.rc.ver y.rc.ver) (Vf x.pair y.pair))), ex (.int .i64 R), ex (.int .i64 R)] (by kernel_rfl) (by kernel_rfl) ⟨Zh _, Zh _, Zh _, Zh _, Zh _, Zh _, Zh _, Zh _, Zh _, Zh _, Zh _, Zh _, Zh _, Zh _, Zh _, Zh _, Zh _, Zh _, Zh _, Zpl _ _ _, Zh _, Zh _, trivial⟩ ?_ ?_
 ·refine ⟨?_, ?_, ?_, ?_, ?_, ?_, ?_, ?_, ?_, ?_, ?_, ?_, ?_, ?_, ?_, ?_, ?_, ?_, ?_, ?_, ?_, ?_, trivial⟩
  ·refine Zd rfl fun a w' ek ef hg hin => ?_;have e2 : a (.tmp 2) = .pointer (some ⟨w.heap.size, 0, none⟩) := Zy hin 2 rfl;refine Zm ?_ rfl;clear hin hg;go_simp;all_goals go_arith
  ·refine Zd rfl fun a w' ek ef hg hin => ?_;have e5 : a (.tmp 5) = _ := Zg hin 0 rfl;refine Zm ?_ rfl;clear hin hg;go_simp;all_goals go_arith
  ·refine Zd rfl fun a w' ek ef hg hin => ?_;have e6 : a (.tmp 6) = _ := Zg hin 1 rfl;have h1 := Zc ((hg.block _ (Za hx1)).trans hx1) 1 _ rfl;refine Zm ?_ rfl;clear hin hg;go_simp;all_goals go_arith
  ·refine Zd rfl fun a w' ek ef hg hin => ?_;have e3 : a (.tmp 3) = .pointer (some ⟨w.heap.size + 1, 0, none⟩) := Zy hin 3 rfl;refine Zm ?_ rfl;clear hin hg;go_simp;all_goals go_arith
  ·refine Zd rfl fun a w' ek ef hg hin => ?_;have e8 : a (.tmp 8) = _ := Zg hin 3 rfl;refine Zm ?_ rfl;clear hin hg;go_simp;all_goals go_arith
  ·refine Zd rfl fun a w' ek ef hg hin => ?_;have e9 : a (.tmp 9) = _ := Zg hin 4 rfl;have h1 := Zc ((hg.block _ (Za hy0)).trans hy0) 1 _ rfl;refine Zm ?_ rfl;clear hin hg;go_simp;all_goals go_arith
  ·refine Zd rfl fun a w' ek ef hg hin => ?_;have e7 : a (.tmp 7) = _ := Zg hin 2 rfl;have e10 : a (.tmp 10) = _ := Zg hin 5 rfl;refine Y0 (f := 91) (args := #[.int .i64 x.rc.key, .int .i64 y.rc.key]) ?_ ((Zja _ _ w').mono ?_)
   ·clear hin hg;go_simp;all_goals go_arith
   ·rintro e w2 ⟨rfl, rfl⟩;exact ⟨_, rfl, Zo.refl _, rfl⟩
  ·refine Zd rfl fun a w' ek ef hg hin => ?_;have e2 : a (.tmp 2) = .pointer (some ⟨w.heap.size, 0, none⟩) := Zy hin 2 rfl;refine Zm ?_ rfl;clear hin hg;go_simp;all_goals go_arith
  ·refine Zd rfl fun a w' ek ef hg hin => ?_;have e12 : a (.tmp 12) = _ := Zg hin 7 rfl;refine Zm ?_ rfl;clear hin hg;go_simp;all_goals go_arith
  ·refine Zd rfl fun a w' ek ef hg hin => ?_;have e13 : a (.tmp 13) = _ := Zg hin 8 rfl;have h1 := Zc ((hg.block _ (Za hx1)).trans hx1) 2 _ rfl;refine Zm ?_ rfl;clear hin hg;go_simp;all_goals go_arith
  ·refine Zd rfl fun a w' ek ef hg hin => ?_;have e3 : a (.tmp 3) = .pointer (some ⟨w.heap.size + 1, 0, none⟩) := Zy hin 3 rfl;refine Zm ?_ rfl;clear hin hg;go_simp;all_goals go_arith
  ·refine Zd rfl fun a w' ek ef hg hin => ?_;have e15 : a (.tmp 15) = _ := Zg hin 10 rfl;refine Zm ?_ rfl;clear hin hg;go_simp;all_goals go_arith
  ·refine Zd rfl fun a w' ek ef hg hin => ?_;have e16 : a (.tmp 16) = _ := Zg hin 11 rfl;have h1 := Zc ((hg.block _ (Za hy0)).trans hy0) 2 _ rfl;refine Zm ?_ rfl;clear hin hg;go_simp;all_goals go_arith
  ·refine Zd rfl fun a w' ek ef hg hin => ?_;have e14 : a (.tmp 14) = _ := Zg hin 9 rfl;have e17 : a (.tmp 17) = _ := Zg hin 12 rfl;refine Y0 (f := 91) (args := #[.int .i64 x.rc.ver, .int .i64 y.rc.ver]) ?_ ((Zja _ _ w').mono ?_)
   ·clear hin hg;go_simp;all_goals go_arith
   ·rintro e w2 ⟨rfl, rfl⟩;exact ⟨_, rfl, Zo.refl _, rfl⟩
  ·refine Zd rfl fun a w' ek ef hg hin => ?_;have e2 : a (.tmp 2) = .pointer (some ⟨w.heap.size, 0, none⟩) := Zy hin 2 rfl;refine Zm ?_ rfl;clear hin hg;go_simp;all_goals go_arith
  ·refine Zd rfl fun a w' ek ef hg hin => ?_;have e19 : a (.tmp 19) = _ := Zg hin 14 rfl;have h1 := Zc ((hg.block _ (Za hx1)).trans hx1) 4 _ rfl;refine Zm ?_ rfl;clear hin hg;go_simp;all_goals go_arith
  ·refine Zd rfl fun a w' ek ef hg hin => ?_;have e3 : a (.tmp 3) = .pointer (some ⟨w.heap.size + 1, 0, none⟩) := Zy hin 3 rfl;refine Zm ?_ rfl;clear hin hg;go_simp;all_goals go_arith
  ·refine Zd rfl fun a w' ek ef hg hin => ?_;have e21 : a (.tmp 21) = _ := Zg hin 16 rfl;have h1 := Zc ((hg.block _ (Za hy0)).trans hy0) 4 _ rfl;refine Zm ?_ rfl;clear hin hg;go_simp;all_goals go_arith
  ·refine Zd rfl fun a w' ek ef hg hin => ?_;have e20 : a (.tmp 20) = _ := Zg hin 15 rfl;have e22 : a (.tmp 22) = _ := Zg hin 17 rfl;refine Y0 (f := 91) (args := #[.int .i64 x.pair, .int .i64 y.pair]) ?_ ((Zja _ _ w').mono ?_)
   ·clear hin hg;go_simp;all_goals go_arith
   ·rintro e w2 ⟨rfl, rfl⟩;exact ⟨_, rfl, Zo.refl _, rfl⟩
  ·refine Zd rfl fun a w' ek ef hg hin => ?_;have e11 : a (.tmp 11) = _ := Zg hin 6 rfl;have e18 : a (.tmp 18) = _ := Zg hin 13 rfl;have e23 : a (.tmp 23) = _ := Zg hin 18 rfl;refine Zpf (v := .slice (some ⟨w'.heap.size, 0, none⟩) 3 3) (w' := w'.alloc (.cells #[.int .i64 (Vf x.rc.key y.rc.key), .int .i64 (Vf x.rc.ver y.rc.ver), .int .i64 (Vf x.pair y.pair)] 3)) ?_ (Zb _ _) ⟨_, rfl, Zi _ _ _⟩;clear hin hg;go_simp;all_goals go_arith
  ·refine Zd rfl fun a w' ek ef hg hin => ?_;have e24 : ((Zn7 (Vf x.rc.key y.rc.key) (Vf x.rc.ver y.rc.ver) (Vf x.pair y.pair))) (a (.tmp 24)) w' := Zg hin 19 rfl;obtain ⟨g, h24, h3⟩ := e24;refine Y0 (f := 90) (args := #[.slice (some ⟨g, 0, none⟩) 3 3]) ?_ ((Zxj [Vf x.rc.key y.rc.key, Vf x.rc.ver y.rc.ver, Vf x.pair y.pair] g 3 w' (by simp) (fun j hj => by
    have hj3 : j < 3 := hj
    match j, hj3 with
    | 0, _ => exact Zc h3 0 _ rfl
    | 1, _ => exact Zc h3 1 _ rfl
    | 2, _ => exact Zc h3 2 _ rfl)).mono ?_)
   ·clear hin hg h3;go_simp;all_goals go_arith
   ·rw [Zta, ← HR.out];rintro e w2 ⟨rfl, g2⟩;exact ⟨_, rfl, g2, rfl⟩
  ·refine Zd rfl fun a w' ek ef hg hin => ?_;have e : a (.tmp 25) = _ := Zg hin 20 rfl;exact Yx rfl e
 ·intro vs w' hg ht;obtain ⟨q5, q6, q7, q8, q9, q10, q11, q12, q13, q14, q15, q16, q17, q18, q19, q20, q21, q22, q23, q24, q25, q4, -⟩ := ht;have r5 : vs 0 = .pointer (some ⟨w.heap.size, 0, none⟩) := q5;have r6 : vs 1 = .pointer (some ⟨w.heap.size, 1, none⟩) := q6;have r7 : vs 2 = .int .i64 x.rc.key := q7;have r8 : vs 3 = .pointer (some ⟨w.heap.size + 1, 0, none⟩) := q8;have r9 : vs 4 = .pointer (some ⟨w.heap.size + 1, 1, none⟩) := q9;have r10 : vs 5 = .int .i64 y.rc.key := q10;have r11 : vs 6 = .int .i64 (Vf x.rc.key y.rc.key) := q11;have r12 : vs 7 = .pointer (some ⟨w.heap.size, 0, none⟩) := q12;have r13 : vs 8 = .pointer (some ⟨w.heap.size, 2, none⟩) := q13;have r14 : vs 9 = .int .i64 x.rc.ver := q14;have r15 : vs 10 = .pointer (some ⟨w.heap.size + 1, 0, none⟩) := q15;have r16 : vs 11 = .pointer (some ⟨w.heap.size + 1, 2, none⟩) := q16;have r17 : vs 12 = .int .i64 y.rc.ver := q17;have r18 : vs 13 = .int .i64 (Vf x.rc.ver y.rc.ver) := q18;have r19 : vs 14 = .pointer (some ⟨w.heap.size, 4, none⟩) := q19;have r20 : vs 15 = .int .i64 x.pair := q20;have r21 : vs 16 = .pointer (some ⟨w.heap.size + 1, 4, none⟩) := q21;have r22 : vs 17 = .int .i64 y.pair := q22;have r23 : vs 18 = .int .i64 (Vf x.pair y.pair) := q23;have r25 : vs 20 = .int .i64 R := q25;have r4 : vs 21 = .int .i64 R := q4;clear q5 q6 q7 q8 q9 q10 q11 q12 q13 q14 q15 q16 q17 q18 q19 q20 q21 q22 q23 q25 q4
  simp only [Yj, Act.put, List.setIfInBounds_toArray, List.set_cons_zero, List.set_cons_succ, r5, r6, r7, r8, r9, r10, r11, r12, r13, r14, r15, r16, r17, r18, r19, r20, r21, r22, r23, r25, r4];clear r5 r6 r7 r8 r9 r10 r11 r12 r13 r14 r15 r16 r17 r18 r19 r20 r21 r22 r23 r25 r4;have gE := g0.trans hg;clear q24 hg hx1 hy0 g0;go_wp2_with fail;go_ret;exact ⟨rfl, gE⟩
end Go.Proofs.YtgaecpdokgklpacGreat
