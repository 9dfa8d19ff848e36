import Derived.Test.YtpdnapbchcdhlacGreatRPlay
import Derived.Lib.AppendZeros
set_option maxHeartbeats 8000000
namespace Go.Proofs.YtpdnapbchcdhlacGreat
set_option maxRecDepth 100000
open Go.RowKit
open Plain Reg
theorem Zk5 (AL : Zhl) (PD : Zpt) (l : List Sp) (x : Sp) (v : Value) (ad : Option Addr) (c : Nat) (w : World) (hl : Jp (fun b => b < w.heap.size) w v l) (hd : Z3 (fun b => b < w.heap.size) w (.slice ad x.deed.data.length c) x.deed.data) (hm : l.length ≤ 140737488355328) (hdl : ∀ x ∈ l, x.deed.data.length ≤ 140737488355328) (hdd : x.deed.data.length ≤ 140737488355328) :
  Calls Tryz.prog 7 #[v, .agg #[.int .i64 x.kind, .int .i64 x.n, .int .i64 x.m, .int .i64 x.deed.kind, .int .i64 x.deed.key, .int .i64 x.deed.num, .slice ad x.deed.data.length c]] w fun r w' => r = .returned (.bool true) ∧ Zp w w' := by
 obtain ⟨ao, cp, rfl⟩ := hl.form;have g0 := Zc w (.cells #[.int .i64 x.kind, .int .i64 x.n, .int .i64 x.m, .int .i64 x.deed.kind, .int .i64 x.deed.key, .int .i64 x.deed.num, .slice ad x.deed.data.length c] 49);have hX0 := Zj w #[.int .i64 x.kind, .int .i64 x.n, .int .i64 x.m, .int .i64 x.deed.kind, .int .i64 x.deed.key, .int .i64 x.deed.num, .slice ad x.deed.data.length c] 49;go_enter Tryz.func7, Tryz.ntmps7;go_wp2_with fail;refine (AL _).mono ?_;rintro r w1 ⟨rfl, g1⟩;have hX1 := (g1.block _ (Za hX0)).trans hX0;have gw1 := g0.trans g1;clear g0 g1 hX0;go_wp2_with fail;refine (Zkw (fun b => b < w.heap.size) l _ w1 (fun b h => Nat.lt_of_lt_of_le h gw1.size) (hl.grow gw1) hm hdl).mono ?_;have HIV : Hid ((K6 100 Y1 l).Inv) := Zg5 100 Y1 l Zwi;generalize K6 100 Y1 l = s at *;rintro r w2 ⟨v2, rfl, hS2, g2⟩;obtain ⟨b1, e1, l1, m1, i1, j1, hv2, -, -, -⟩ := hS2.form;subst hv2;have g3 := Zc w2 (.cells #[.slice b1 s.dk.blocks.length e1, .slice l1 s.dk.late.length m1, .slice i1 s.idx.length j1, .int .i64 s.next] 29);have hY3 := Zj w2 #[.slice b1 s.dk.blocks.length e1, .slice l1 s.dk.late.length m1, .slice i1 s.idx.length j1, .int .i64 s.next] 29;have hS3 := (hS2.grow g3).any;have hX3 := ((g2.trans g3).block _ (Za hX1)).trans hX1;have gw3 := gw1.trans (g2.trans g3);clear hS2 g2 hX1 gw1 g3;obtain ⟨y0, y1, y2, y3⟩ := Z4 hY3 rfl rfl rfl rfl;obtain ⟨p0, p1, p2, p3, p4⟩ := Qb hX3 rfl rfl rfl rfl rfl;have p5 := Zd hX3 5 _ rfl;have p6 := Zd hX3 6 _ rfl;go_wp2_with fail
 obtain ⟨G, hG⟩ : ∃ G, G = w2.heap.size := ⟨_, rfl⟩;rw [← hG] at hY3 ⊢;clear hG y0 y1 y2 y3 p0 p1 p2 p3 p4 p5 p6;generalize World.alloc w2 _ = w3 at *;refine (Ze1 _ 0 s x _ ad c w3 hS3 HIV.out.at'.ok.disk (by omega)).mono ?_;obtain ⟨gb, hgb⟩ : ∃ gb, gb = V0 s x := ⟨_, rfl⟩;rw [← hgb];rintro r w4 ⟨rfl, g4⟩;have gw4 := gw3.trans g4;cases gb with
 | false =>
  clear hgb hY3 hS3 hX3 gw3 g4;go_wp2_with fail;go_ret;exact ⟨rfl, gw4⟩
 | true =>
  have HYI : Hid ((s.step x).st.Inv) := Zkf HIV.out hgb.symm;have hY4 := (g4.block _ (Za hY3)).trans hY3;have hX4 := (g4.block _ (Za hX3)).trans hX3;have hS4 := hS3.grow g4;have hd4 := hd.grow gw4;clear hgb hY3 hS3 hX3 gw3 g4;obtain ⟨y0, y1, y2, y3⟩ := Z4 hY4 rfl rfl rfl rfl;obtain ⟨p0, p1, p2, p3, p4⟩ := Qb hX4 rfl rfl rfl rfl rfl;have p5 := Zd hX4 5 _ rfl;have p6 := Zd hX4 6 _ rfl;go_wp2_with fail;refine (PD (fun b => b < w4.heap.size) s x _ ad c w4 (fun b h => h) hS4.now (Zes hd4) HIV.out.at' hdd).mono ?_;generalize s.step x = B at *;rintro r w5 ⟨v5, rfl, h5, g5⟩;obtain ⟨b5, e5, l5, m5, i5, j5, hv5, -, -, -⟩ := h5.form;subst hv5;have g6 := Zc w5 (.cells #[.slice b5 B.st.dk.blocks.length e5, .slice l5 B.st.dk.late.length m5, .slice i5 B.st.idx.length j5, .int .i64 B.st.next] 29);have hB6 := Zj w5 #[.slice b5 B.st.dk.blocks.length e5, .slice l5 B.st.dk.late.length m5, .slice i5 B.st.idx.length j5, .int .i64 B.st.next] 29;have hs6 := (h5.grow g6).any;have gw6 := gw4.trans (g5.trans g6);clear y0 y1 y2 y3 p0 p1 p2 p3 p4 p5 p6 hY4 hX4 hS4 hd4 gw4 h5 g5 g6;obtain ⟨y0, y1, y2, y3⟩ := Z4 hB6 rfl rfl rfl rfl;go_wp2_with fail;obtain ⟨A, hA⟩ : ∃ A, A = w5.heap.size := ⟨_, rfl⟩;rw [← hA] at hB6 ⊢;clear hA y0 y1 y2 y3;generalize World.alloc w5 _ = w6 at *;refine (PD (fun b => b < w6.heap.size) B.st Zij _ none 0 w6 (fun b h => h) hs6.now (Zqx _ _) HYI.out.at' (by decide)).mono ?_;rw [(Zgq B.st).1, (Zgq B.st).2.1, (Zgq B.st).2.2];have HMI : Hid ((X2 B.st.dk).idx = B.st.idx) := Zwm HYI.out
  generalize X2 B.st.dk = M at *;rintro r w7 ⟨v7, rfl, h7, g7⟩;obtain ⟨b7, e7, l7, m7, i7, j7, hv7, -, -, -⟩ := h7.form;subst hv7;have g8 := Zc w7 (.cells #[.slice b7 M.dk.blocks.length e7, .slice l7 M.dk.late.length m7, .slice i7 M.idx.length j7, .int .i64 M.next] 29);have hZ9 := Zj w7 #[.slice b7 M.dk.blocks.length e7, .slice l7 M.dk.late.length m7, .slice i7 M.idx.length j7, .int .i64 M.next] 29;have gg := g7.trans g8;have hB9 := (gg.block _ (Za hB6)).trans hB6;have hs9 := hs6.grow gg;have hz9 := (h7.grow g8).any;have gw9 := gw6.trans gg;clear hB6 hs6 h7 g7 g8 gg gw6;go_wp2_with fail;obtain ⟨Z, hZ⟩ : ∃ Z, Z = w7.heap.size := ⟨_, rfl⟩;rw [← hZ] at hZ9 ⊢;clear hZ;generalize World.alloc w7 _ = W9 at *;obtain ⟨xb, xl, xi, hvx, hxb, hxl, hxi⟩ := hs9;cases hvx;obtain ⟨zb, zl, zi, hvz, -, -, hzi⟩ := hz9;cases hvz;have HE1 : Hid (Kx B.st.idx (Z5 B.st.dk 6) = true) := by show _ = _; rw [← HYI.out.idx]; exact (Jf _ _).2 rfl
  have HE2 : Hid (Kx B.st.idx M.idx = true) := by show _ = _; rw [HMI.out]; exact (Jf _ _).2 rfl
  have HF : Hid _ := HYI.out.at'.ok.disk;have HT : Hid (Ym B.st.dk 6 = []) := HYI.out.good.twice 6 (Nat.le_refl _);have H6 : Hid (B.st.idx.length ≤ 6) := Zup HYI.out.at';have d12 : ((B.st.dk.blocks.length : Int) == 12) = true := by rw [HF.out.len]; rfl
  refine Ya [ex (.pointer (some ⟨A, 0, none⟩)), ex (.pointer (some ⟨A, 0, none⟩)), ex (.slice b5 B.st.dk.blocks.length e5), ex (.int .i64 (B.st.dk.blocks.length : Int)), ex (.bool true), ex (.bool true), ex (.pointer (some ⟨A, 2, none⟩)), ex (.slice i5 B.st.idx.length j5), ex (.pointer (some ⟨A, 0, none⟩)), ex (.agg #[.slice b5 B.st.dk.blocks.length e5, .slice l5 B.st.dk.late.length m5]), ((fun v w' => ∃ S', Yr S' w' v (Z5 B.st.dk 6))), ex (.bool true), ex (.bool true), ex (.bool true), ex (.pointer (some ⟨A, 0, none⟩)), ex (.agg #[.slice b5 B.st.dk.blocks.length e5, .slice l5 B.st.dk.late.length m5]), ((fun v _ => ∃ ao cp, v = .slice ao 0 cp)), ex (.int .i64 0), ex (.bool true), ex (.bool true), ex (.bool true), ex (.pointer (some ⟨A, 2, none⟩)), ex (.slice i5 B.st.idx.length j5), ex (.pointer (some ⟨Z, 2, none⟩)), ex (.slice i7 M.idx.length j7), ex (.bool true), ex (.bool true), ex (.bool true)] (by kernel_rfl) (by kernel_rfl) ⟨Zh _, Zh _, Zh _, Zh _, Zh _, Zh _, Zh _, Zh _, Zh _, Zh _, (fun _ _ _ hg ⟨S', h⟩ => ⟨S', Z9.grow h hg⟩), Zh _, Zh _, Zh _, Zh _, Zh _, (fun _ _ _ _ h => h), Zh _, Zh _, Zh _, Zh _, Zh _, Zh _, Zh _, Zh _, Zh _, Zh _, Zh _, trivial⟩ ?_ ?_
  ·refine ⟨?_, ?_, ?_, ?_, ?_, ?_, ?_, ?_, ?_, ?_, ?_, ?_, ?_, ?_, ?_, ?_, ?_, ?_, ?_, ?_, ?_, ?_, ?_, ?_, ?_, ?_, ?_, ?_, trivial⟩
   ·refine Zb rfl fun a _ _ _ C B => ?_;have e6 : a (.tmp 6) = .pointer (some ⟨A, 0, none⟩) := Zv B 6 rfl;refine Zi ?_ rfl;clear B C;go_simp;all_goals go_arith
   ·refine Zb rfl fun a _ _ _ B A => ?_;have e34 : a (.tmp 34) = _ := Zf A 0 rfl;refine Zi ?_ rfl;clear A B;go_simp;all_goals go_arith
   ·refine Zb rfl fun a _ _ _ B A => ?_;have e35 : a (.tmp 35) = _ := Zf A 1 rfl;have hh := (B.block _ (Za hB9)).trans hB9;obtain ⟨z0, z1, z2⟩ := Zhx hh rfl rfl rfl;refine Zi ?_ rfl;clear A B hh;go_simp;all_goals go_arith
   ·refine Zb rfl fun a _ _ _ B A => ?_;have e36 : a (.tmp 36) = _ := Zf A 2 rfl;refine Zi ?_ rfl;clear A B;go_simp;all_goals go_arith
   ·refine Zb rfl fun a _ _ _ B A => ?_;have e37 : a (.tmp 37) = _ := Zf A 3 rfl;refine Zi ?_ rfl;clear A B;go_simp;all_goals go_arith
   ·exact Zb rfl fun a _ _ _ _ A => Zs rfl (Zf A 4 rfl)
   ·refine Zo 5 true rfl rfl rfl fun a _ _ _ C B => ?_;have e6 : a (.tmp 6) = .pointer (some ⟨A, 0, none⟩) := Zv B 6 rfl;refine Zi ?_ rfl;clear B C;go_simp;all_goals go_arith
   ·refine Zo 5 true rfl rfl rfl fun a _ _ _ B A => ?_;have e40 : a (.tmp 40) = _ := Zf A 6 rfl;have hh := (B.block _ (Za hB9)).trans hB9;obtain ⟨z0, z1, z2⟩ := Zhx hh rfl rfl rfl;refine Zi ?_ rfl;clear A B hh;go_simp;all_goals go_arith
   ·refine Zo 5 true rfl rfl rfl fun a _ _ _ C B => ?_;have e6 : a (.tmp 6) = .pointer (some ⟨A, 0, none⟩) := Zv B 6 rfl;refine Zi ?_ rfl;clear B C;go_simp;all_goals go_arith
   ·refine Zo 5 true rfl rfl rfl fun a _ _ _ B A => ?_;have e42 : a (.tmp 42) = _ := Zf A 8 rfl;have hh := (B.block _ (Za hB9)).trans hB9;obtain ⟨z0, z1, z2⟩ := Zhx hh rfl rfl rfl;refine Zi ?_ rfl;clear A B hh;go_simp;all_goals go_arith
   ·refine Zo 5 true rfl rfl rfl fun a C _ _ D A => ?_;have e43 : a (.tmp 43) = _ := Zf A 9 rfl;refine Yy (f := 27) (args := #[.agg #[.slice b5 B.st.dk.blocks.length e5, .slice l5 B.st.dk.late.length m5]]) ?_ ((Zea _ B.st.dk _ _ C (hxb.grow D) (hxl.grow D) (by rw [HF.out.len]; omega) (by have := HF.out.few; omega)).mono ?_)
    ·clear A D;go_simp;all_goals go_arith
    ·rintro e w2 ⟨v2, rfl, hE, g2⟩;rw [show B.st.dk.blocks.length / 2 = 6 from by rw [HF.out.len]] at hE;exact ⟨_, rfl, g2, _, hE⟩
   ·refine Zo 5 true rfl rfl rfl fun a C _ _ D A => ?_;have e41 : a (.tmp 41) = _ := Zf A 7 rfl;have e44 : ((fun v C => ∃ S', Yr S' C v (Z5 B.st.dk 6))) (a (.tmp 44)) C := Zf A 10 rfl;obtain ⟨S', e44⟩ := e44;refine Yy (f := 26) (args := #[.slice i5 B.st.idx.length j5, a (.tmp 44)]) ?_ ((Zc2 B.st.idx (Z5 B.st.dk 6) _ _ _ S' C (hxi.grow D) e44 (by have := H6.out; omega)).mono ?_)
    ·clear A D e44;go_simp;all_goals go_arith
    ·rw [HE1.out];rintro e w2 ⟨rfl, g2⟩;exact ⟨_, rfl, g2, rfl⟩
   ·refine Zb rfl fun a _ _ _ _ A => ?_;have ec : a (.tmp 39) = _ := Zf A 5 rfl;have e : a (.tmp 45) = _ := Zf A 11 rfl;exact Y3 rfl ec e
   ·exact Zb rfl fun a _ _ _ _ A => Zs rfl (Zf A 12 rfl)
   ·refine Zo 13 true rfl rfl rfl fun a _ _ _ C B => ?_;have e6 : a (.tmp 6) = .pointer (some ⟨A, 0, none⟩) := Zv B 6 rfl;refine Zi ?_ rfl;clear B C;go_simp;all_goals go_arith
   ·refine Zo 13 true rfl rfl rfl fun a _ _ _ B A => ?_;have e48 : a (.tmp 48) = _ := Zf A 14 rfl;have hh := (B.block _ (Za hB9)).trans hB9;obtain ⟨z0, z1, z2⟩ := Zhx hh rfl rfl rfl;refine Zi ?_ rfl;clear A B hh;go_simp;all_goals go_arith
   ·refine Zo 13 true rfl rfl rfl fun a C _ _ D A => ?_;have e49 : a (.tmp 49) = _ := Zf A 15 rfl;refine Yy (f := 28) (args := #[.agg #[.slice b5 B.st.dk.blocks.length e5, .slice l5 B.st.dk.late.length m5]]) ?_ ((Zf6 0 B.st.dk _ C ⟨_, _, rfl, (hxb.grow D).p, (hxl.grow D).p⟩ HF.out (by omega)).mono ?_)
    ·clear A D;go_simp;all_goals go_arith
    ·rw [HT.out];rintro e w2 ⟨v2, css, rfl, hE, g2⟩;exact ⟨_, rfl, g2, Z9.form hE.slice⟩
   ·refine Zo 13 true rfl rfl rfl fun a B _ _ C A => ?_;have e50 : ((fun v _ => ∃ ao cp, v = .slice ao 0 cp)) (a (.tmp 50)) B := Zf A 16 rfl;obtain ⟨a9, c9, h9⟩ := e50;have e50 := h9;refine Zi ?_ rfl;clear A C h9;go_simp;all_goals go_arith
   ·refine Zo 13 true rfl rfl rfl fun a _ _ _ B A => ?_;have e51 : a (.tmp 51) = _ := Zf A 17 rfl;refine Zi ?_ rfl;clear A B;go_simp;all_goals go_arith
   ·refine Zb rfl fun a _ _ _ _ A => ?_;have ec : a (.tmp 47) = _ := Zf A 13 rfl;have e : a (.tmp 52) = _ := Zf A 18 rfl;exact Y3 rfl ec e
   ·exact Zb rfl fun a _ _ _ _ A => Zs rfl (Zf A 19 rfl)
   ·refine Zo 20 true rfl rfl rfl fun a _ _ _ C B => ?_;have e6 : a (.tmp 6) = .pointer (some ⟨A, 0, none⟩) := Zv B 6 rfl;refine Zi ?_ rfl;clear B C;go_simp;all_goals go_arith
   ·refine Zo 20 true rfl rfl rfl fun a _ _ _ B A => ?_;have e55 : a (.tmp 55) = _ := Zf A 21 rfl;have hh := (B.block _ (Za hB9)).trans hB9;obtain ⟨z0, z1, z2⟩ := Zhx hh rfl rfl rfl;refine Zi ?_ rfl;clear A B hh;go_simp;all_goals go_arith
   ·refine Zo 20 true rfl rfl rfl fun a _ _ _ B A => ?_;have e9 : a (.tmp 9) = .pointer (some ⟨Z, 0, none⟩) := Zv A 9 rfl;refine Zi ?_ rfl;clear A B;go_simp;all_goals go_arith
   ·refine Zo 20 true rfl rfl rfl fun a _ _ _ B A => ?_;have e57 : a (.tmp 57) = _ := Zf A 23 rfl;have hh := (B.block _ (Za hZ9)).trans hZ9;obtain ⟨z0, z1, z2⟩ := Zhx hh rfl rfl rfl;refine Zi ?_ rfl;clear A B hh;go_simp;all_goals go_arith
   ·refine Zo 20 true rfl rfl rfl fun a C _ _ D A => ?_;have e56 : a (.tmp 56) = _ := Zf A 22 rfl;have e58 : a (.tmp 58) = _ := Zf A 24 rfl;refine Yy (f := 26) (args := #[.slice i5 B.st.idx.length j5, .slice i7 M.idx.length j7]) ?_ ((Zc2 B.st.idx M.idx _ _ _ _ C (hxi.grow D) (hzi.grow D) (by have := H6.out; omega)).mono ?_)
    ·clear A D;go_simp;all_goals go_arith
    ·rw [HE2.out];rintro e w2 ⟨rfl, g2⟩;exact ⟨_, rfl, g2, rfl⟩
   ·refine Zb rfl fun a _ _ _ _ A => ?_;have ec : a (.tmp 54) = _ := Zf A 20 rfl;have e : a (.tmp 59) = _ := Zf A 25 rfl;exact Y3 rfl ec e
   ·exact Zb rfl fun a _ _ _ _ A => Yw rfl (Zf A 26 rfl)
  ·intro vs w' hg ht;obtain ⟨(r34 : vs 0 = _), (r35 : vs 1 = _), (r36 : vs 2 = _), (r37 : vs 3 = _), (r38 : vs 4 = _), (r39 : vs 5 = _), (r40 : vs 6 = _), (r41 : vs 7 = _), (r42 : vs 8 = _), (r43 : vs 9 = _), q44, (r45 : vs 11 = _), (r46 : vs 12 = _), (r47 : vs 13 = _), (r48 : vs 14 = _), (r49 : vs 15 = _), q50, (r51 : vs 17 = _), (r52 : vs 18 = _), (r53 : vs 19 = _), (r54 : vs 20 = _), (r55 : vs 21 = _), (r56 : vs 22 = _), (r57 : vs 23 = _), (r58 : vs 24 = _), (r59 : vs 25 = _), (r60 : vs 26 = _), (r4 : vs 27 = _), -⟩ := ht;simp only [Yf, Act.put, List.setIfInBounds_toArray, List.set_cons_zero, List.set_cons_succ, r34, r35, r36, r37, r38, r39, r40, r41, r42, r43, r45, r46, r47, r48, r49, r51, r52, r53, r54, r55, r56, r57, r58, r59, r60, r4];clear r34 r35 r36 r37 r38 r39 r40 r41 r42 r43 r45 r46 r47 r48 r49 r51 r52 r53 r54 r55 r56 r57 r58 r59 r60 r4;have gE := gw9.trans hg;clear q44 q50 hg hB9 hZ9 gw9 hxb hxl hxi hzi;go_wp2_with fail;go_ret;exact ⟨rfl, gE⟩
def Vo (x y : Int) : Int := if x < y then -1 else if y < x then 1 else 0
def Zek (x y : Ent) : Int := if Vo x.rc.key y.rc.key ≠ 0 then Vo x.rc.key y.rc.key else if Vo x.rc.ver y.rc.ver ≠ 0 then Vo x.rc.ver y.rc.ver else Vo x.pair y.pair
theorem J7 (x y : Int) : Vo x y = 0 ↔ x = y := by unfold Vo; split <;> (try split) <;> omega
theorem Zjw (x y : Int) : Vo x y < 0 ↔ x < y := by unfold Vo; split <;> (try split) <;> omega
theorem Zjx (x y : Int) : 0 < Vo x y ↔ y < x := by unfold Vo; split <;> (try split) <;> omega
theorem Zpi (x y : Ent) : (decide (Zek x y < 0)) = Y5 x y := by
 rw [Bool.eq_iff_iff, decide_eq_true_eq];unfold Zek Y5;by_cases hk : x.rc.key = y.rc.key
 ·rw [if_neg (by simpa using (J7 _ _).2 hk), if_pos hk];by_cases hv : x.rc.ver = y.rc.ver
  ·rw [if_neg (by simpa using (J7 _ _).2 hv), if_pos hv, Zjw, decide_eq_true_eq]
  ·rw [if_pos (fun h => hv ((J7 _ _).1 h)), if_neg hv, Zjw, decide_eq_true_eq]
 ·rw [if_pos (fun h => hk ((J7 _ _).1 h)), if_neg hk, Zjw, decide_eq_true_eq]
theorem Zwf (x y : Ent) : (decide (0 < Zek x y)) = Y5 y x := by
 rw [Bool.eq_iff_iff, decide_eq_true_eq];unfold Zek Y5;by_cases hk : x.rc.key = y.rc.key
 ·rw [if_neg (by simpa using (J7 _ _).2 hk), if_pos hk.symm];by_cases hv : x.rc.ver = y.rc.ver
  ·rw [if_neg (by simpa using (J7 _ _).2 hv), if_pos hv.symm, Zjx, decide_eq_true_eq]
  ·rw [if_pos (fun h => hv ((J7 _ _).1 h)), if_neg (fun h => hv h.symm), Zjx, decide_eq_true_eq]
 ·rw [if_pos (fun h => hk ((J7 _ _).1 h)), if_neg (fun h => hk h.symm), Zjx, decide_eq_true_eq]
theorem Zpz {P : Program} {w w' : World} {R : Value → World → Prop} {o : Oper} {ev : Operand → Value} {v : Value} (h : (execOp ev o).run P w = .ok (.value v) w') (hg : Zp w w') (hv : R v w') : upon P w R ((execOp ev o).run P w) := by
 rw [h]; exact ⟨hg, hv⟩
theorem Zch (x : Int) (w : World) : Calls Tryz.prog 150 #[.int .i64 x] w fun e w' => e = .returned (.bool false) ∧ w' = w := by
 have d0 : (x != x) = false := by simp
 go_enter Tryz.func150, Tryz.ntmps150;go_wp2_with fail;go_ret;exact ⟨rfl, rfl⟩
theorem Zjv (x y : Int) (w : World) : Calls Tryz.prog 113 #[.int .i64 x, .int .i64 y] w fun e w' => e = .returned (.int .i64 (Vo x y)) ∧ w' = w := by
 by_cases h1 : x < y
 ·have HC : Hid (Vo x y = -1) := by show _ = _; unfold Vo; rw [if_pos h1]
  rw [HC.out];go_enter Tryz.func113, Tryz.ntmps113;go_wp2_with fail;refine (Zch _ _).mono ?_;rintro e w1 ⟨rfl, rfl⟩;go_wp2_with fail;refine (Zch _ _).mono ?_;rintro e w1 ⟨rfl, rfl⟩;go_wp2_with fail;go_ret;exact ⟨rfl, rfl⟩
 ·by_cases h2 : y < x
  ·have HC : Hid (Vo x y = 1) := by show _ = _; unfold Vo; rw [if_neg h1, if_pos h2]
   rw [HC.out];go_enter Tryz.func113, Tryz.ntmps113;go_wp2_with fail;refine (Zch _ _).mono ?_;rintro e w1 ⟨rfl, rfl⟩;go_wp2_with fail;refine (Zch _ _).mono ?_;rintro e w1 ⟨rfl, rfl⟩;go_wp2_with fail;go_ret;exact ⟨rfl, rfl⟩
  ·have HC : Hid (Vo x y = 0) := by show _ = _; unfold Vo; rw [if_neg h1, if_neg h2]
   rw [HC.out];go_enter Tryz.func113, Tryz.ntmps113;go_wp2_with fail;refine (Zch _ _).mono ?_;rintro e w1 ⟨rfl, rfl⟩;go_wp2_with fail;refine (Zch _ _).mono ?_;rintro e w1 ⟨rfl, rfl⟩;go_wp2_with fail;go_ret;exact ⟨rfl, rfl⟩
def orN : List Int → Int
 | [] => 0
 | v :: l => if v ≠ 0 then v else orN l
theorem Zx7 (vs : List Int) (b cap : Nat) (w : World) (hn : vs.length ≤ 1000) (hc : ∀ (j : Nat) (h : j < vs.length), w.cell? ⟨b, j, none⟩ = some (.int .i64 vs[j])) :
  Calls Tryz.prog 112 #[.slice (some ⟨b, 0, none⟩) vs.length cap] w fun e w' => e = .returned (.int .i64 (orN vs)) ∧ Zp w w' := by
 obtain ⟨R, hR⟩ : ∃ R, R = orN vs := ⟨_, rfl⟩;rw [← hR];have HR : Hid _ := hR;clear hR;go_enter Tryz.func112, Tryz.ntmps112;go_wp2_with fail;go_loopw [8] (fun i wr => ∃ k : Nat, k ≤ vs.length ∧ i = .int .i64 k ∧ R = orN (vs.drop k) ∧ Zp w wr) (fun i _ => vs.length - (intOf i).toNat)
 case atStart => exact ⟨0, Nat.zero_le _, rfl, HR.out, Zp.refl _⟩
 case round =>
  obtain ⟨k, hk, rfl, hRk, hg⟩ := hrel;have HK : Hid (R = orN (vs.drop k)) := hRk;clear hRk;by_cases hlt : k < vs.length
  ·have q0 := (Below.cell hg (Zu (hc k hlt))).trans (hc k hlt);have HX : Hid (R = if vs[k] ≠ 0 then vs[k] else orN (vs.drop (k + 1))) := by show R = _; rw [HK.out, List.drop_eq_getElem_cons hlt]; rfl
   generalize vs[k] = x at *;clear HK;by_cases hx : x = 0
   ·have HY : Hid (R = orN (vs.drop (k + 1))) := by show R = _; rw [HX.out, if_neg (by simpa using hx)]
    have d0 : (x != 0) = false := by simp [hx]
    clear HX hx;go_wp2_with fail;go_roundw
    case rel => exact ⟨k + 1, by omega, by go_num, HY.out, hg⟩
    case measure => simp [intOf]; omega
   ·have HY : Hid (R = x) := by show R = _; rw [HX.out, if_pos hx]
    have d0 : (x != 0) = true := by simp [hx]
    clear HX hx;go_wp2_with fail;go_ret;exact ⟨by rw [HY.out]; rfl, hg⟩
  ·have HY : Hid (R = 0) := by show R = _; rw [HK.out, List.drop_eq_nil_of_le (by omega)]; rfl
   clear HK;go_wp2_with fail;go_ret;exact ⟨by rw [HY.out]; rfl, hg⟩
theorem Ztu (x y : Ent) : orN [Vo x.rc.key y.rc.key, Vo x.rc.ver y.rc.ver, Vo x.pair y.pair] = Zek x y := by
 unfold Zek;simp only [orN];split
 ·rfl
 ·split
  ·rfl
  ·split
   ·rfl
   ·rename_i h; exact (Decidable.of_not_not h).symm
def Zop (n0 n1 n2 : Int) (v : Value) (w : World) : Prop := ∃ g, v = .slice (some ⟨g, 0, none⟩) 3 3 ∧ w.heap[g]? = some (.cells #[.int .i64 n0, .int .i64 n1, .int .i64 n2] 3 (0, 0))
theorem Zp5 (n0 n1 n2 : Int) : Xw (Zop n0 n1 n2) := by
 rintro v w w' hg ⟨g, h1, h2⟩; exact ⟨g, h1, (hg.block _ (Za h2)).trans h2⟩
theorem Zcg (x y : Ent) (a0 a1 : Option Addr) (c0 c1 : Nat) (w : World) :
  Calls Tryz.prog 74 #[.agg #[.int .i64 x.rc.kind, .int .i64 x.rc.key, .int .i64 x.rc.ver, .slice a0 x.rc.data.length c0, .int .i64 x.pair], .agg #[.int .i64 y.rc.kind, .int .i64 y.rc.key, .int .i64 y.rc.ver, .slice a1 y.rc.data.length c1, .int .i64 y.pair]] w fun e w' => e = .returned (.int .i64 (Zek x y)) ∧ Zp w w' := by
 have g0 := Zr w (.cells #[.int .i64 x.rc.kind, .int .i64 x.rc.key, .int .i64 x.rc.ver, .slice a0 x.rc.data.length c0, .int .i64 x.pair] 92) (.cells #[.int .i64 y.rc.kind, .int .i64 y.rc.key, .int .i64 y.rc.ver, .slice a1 y.rc.data.length c1, .int .i64 y.pair] 92);have hx0 := Zj w #[.int .i64 x.rc.kind, .int .i64 x.rc.key, .int .i64 x.rc.ver, .slice a0 x.rc.data.length c0, .int .i64 x.pair] 92;have hy0 := Zj (w.alloc (.cells #[.int .i64 x.rc.kind, .int .i64 x.rc.key, .int .i64 x.rc.ver, .slice a0 x.rc.data.length c0, .int .i64 x.pair] 92)) #[.int .i64 y.rc.kind, .int .i64 y.rc.key, .int .i64 y.rc.ver, .slice a1 y.rc.data.length c1, .int .i64 y.pair] 92;have hx1 := ((Zc (w.alloc (.cells #[.int .i64 x.rc.kind, .int .i64 x.rc.key, .int .i64 x.rc.ver, .slice a0 x.rc.data.length c0, .int .i64 x.pair] 92)) (.cells #[.int .i64 y.rc.kind, .int .i64 y.rc.key, .int .i64 y.rc.ver, .slice a1 y.rc.data.length c1, .int .i64 y.pair] 92)).block _ (Za hx0)).trans hx0;rw [World.size_alloc] at hy0;clear hx0;obtain ⟨R, hR⟩ : ∃ R, R = Zek x y := ⟨_, rfl⟩;rw [← hR];have HR : Hid _ := hR;clear hR;go_enter Tryz.func74, Tryz.ntmps74;go_wp2_with fail;generalize World.alloc (World.alloc w _) _ = W at *
 refine Ya [ex (.pointer (some ⟨w.heap.size, 0, none⟩)), ex (.pointer (some ⟨w.heap.size, 1, none⟩)), ex (.int .i64 x.rc.key), ex (.pointer (some ⟨w.heap.size + 1, 0, none⟩)), ex (.pointer (some ⟨w.heap.size + 1, 1, none⟩)), ex (.int .i64 y.rc.key), ex (.int .i64 (Vo x.rc.key y.rc.key)), ex (.pointer (some ⟨w.heap.size, 0, none⟩)), ex (.pointer (some ⟨w.heap.size, 2, none⟩)), ex (.int .i64 x.rc.ver), ex (.pointer (some ⟨w.heap.size + 1, 0, none⟩)), ex (.pointer (some ⟨w.heap.size + 1, 2, none⟩)), ex (.int .i64 y.rc.ver), ex (.int .i64 (Vo x.rc.ver y.rc.ver)), ex (.pointer (some ⟨w.heap.size, 4, none⟩)), ex (.int .i64 x.pair), ex (.pointer (some ⟨w.heap.size + 1, 4, none⟩)), ex (.int .i64 y.pair), ex (.int .i64 (Vo x.pair y.pair)), ((Zop (Vo x.rc.key y.rc.key) (Vo x.rc.ver y.rc.ver) (Vo x.pair y.pair))), ex (.int .i64 R), ex (.int .i64 R)] (by kernel_rfl) (by kernel_rfl) ⟨Zh _, Zh _, Zh _, Zh _, Zh _, Zh _, Zh _, Zh _, Zh _, Zh _, Zh _, Zh _, Zh _, Zh _, Zh _, Zh _, Zh _, Zh _, Zh _, Zp5 _ _ _, Zh _, Zh _, trivial⟩ ?_ ?_
 ·refine ⟨?_, ?_, ?_, ?_, ?_, ?_, ?_, ?_, ?_, ?_, ?_, ?_, ?_, ?_, ?_, ?_, ?_, ?_, ?_, ?_, ?_, ?_, trivial⟩
  ·refine Zb rfl fun a _ _ _ B A => ?_;have e2 : a (.tmp 2) = .pointer (some ⟨w.heap.size, 0, none⟩) := Zv A 2 rfl;refine Zi ?_ rfl;clear A B;go_simp;all_goals go_arith
  ·refine Zb rfl fun a _ _ _ B A => ?_;have e5 : a (.tmp 5) = _ := Zf A 0 rfl;refine Zi ?_ rfl;clear A B;go_simp;all_goals go_arith
  ·refine Zb rfl fun a _ _ _ B A => ?_;have e6 : a (.tmp 6) = _ := Zf A 1 rfl;have h1 := Zd ((B.block _ (Za hx1)).trans hx1) 1 _ rfl;refine Zi ?_ rfl;clear A B;go_simp;all_goals go_arith
  ·refine Zb rfl fun a _ _ _ B A => ?_;have e3 : a (.tmp 3) = .pointer (some ⟨w.heap.size + 1, 0, none⟩) := Zv A 3 rfl;refine Zi ?_ rfl;clear A B;go_simp;all_goals go_arith
  ·refine Zb rfl fun a _ _ _ B A => ?_;have e8 : a (.tmp 8) = _ := Zf A 3 rfl;refine Zi ?_ rfl;clear A B;go_simp;all_goals go_arith
  ·refine Zb rfl fun a _ _ _ B A => ?_;have e9 : a (.tmp 9) = _ := Zf A 4 rfl;have h1 := Zd ((B.block _ (Za hy0)).trans hy0) 1 _ rfl;refine Zi ?_ rfl;clear A B;go_simp;all_goals go_arith
  ·refine Zb rfl fun a B _ _ C A => ?_;have e7 : a (.tmp 7) = _ := Zf A 2 rfl;have e10 : a (.tmp 10) = _ := Zf A 5 rfl;refine Yy (f := 113) (args := #[.int .i64 x.rc.key, .int .i64 y.rc.key]) ?_ ((Zjv _ _ B).mono ?_)
   ·clear A C;go_simp;all_goals go_arith
   ·rintro e w2 ⟨rfl, rfl⟩;exact ⟨_, rfl, Zp.refl _, rfl⟩
  ·refine Zb rfl fun a _ _ _ B A => ?_;have e2 : a (.tmp 2) = .pointer (some ⟨w.heap.size, 0, none⟩) := Zv A 2 rfl;refine Zi ?_ rfl;clear A B;go_simp;all_goals go_arith
  ·refine Zb rfl fun a _ _ _ B A => ?_;have e12 : a (.tmp 12) = _ := Zf A 7 rfl;refine Zi ?_ rfl;clear A B;go_simp;all_goals go_arith
  ·refine Zb rfl fun a _ _ _ B A => ?_;have e13 : a (.tmp 13) = _ := Zf A 8 rfl;have h1 := Zd ((B.block _ (Za hx1)).trans hx1) 2 _ rfl;refine Zi ?_ rfl;clear A B;go_simp;all_goals go_arith
  ·refine Zb rfl fun a _ _ _ B A => ?_;have e3 : a (.tmp 3) = .pointer (some ⟨w.heap.size + 1, 0, none⟩) := Zv A 3 rfl;refine Zi ?_ rfl;clear A B;go_simp;all_goals go_arith
  ·refine Zb rfl fun a _ _ _ B A => ?_;have e15 : a (.tmp 15) = _ := Zf A 10 rfl;refine Zi ?_ rfl;clear A B;go_simp;all_goals go_arith
  ·refine Zb rfl fun a _ _ _ B A => ?_;have e16 : a (.tmp 16) = _ := Zf A 11 rfl;have h1 := Zd ((B.block _ (Za hy0)).trans hy0) 2 _ rfl;refine Zi ?_ rfl;clear A B;go_simp;all_goals go_arith
  ·refine Zb rfl fun a B _ _ C A => ?_;have e14 : a (.tmp 14) = _ := Zf A 9 rfl;have e17 : a (.tmp 17) = _ := Zf A 12 rfl;refine Yy (f := 113) (args := #[.int .i64 x.rc.ver, .int .i64 y.rc.ver]) ?_ ((Zjv _ _ B).mono ?_)
   ·clear A C;go_simp;all_goals go_arith
   ·rintro e w2 ⟨rfl, rfl⟩;exact ⟨_, rfl, Zp.refl _, rfl⟩
  ·refine Zb rfl fun a _ _ _ B A => ?_;have e2 : a (.tmp 2) = .pointer (some ⟨w.heap.size, 0, none⟩) := Zv A 2 rfl;refine Zi ?_ rfl;clear A B;go_simp;all_goals go_arith
  ·refine Zb rfl fun a _ _ _ B A => ?_;have e19 : a (.tmp 19) = _ := Zf A 14 rfl;have h1 := Zd ((B.block _ (Za hx1)).trans hx1) 4 _ rfl;refine Zi ?_ rfl;clear A B;go_simp;all_goals go_arith
  ·refine Zb rfl fun a _ _ _ B A => ?_;have e3 : a (.tmp 3) = .pointer (some ⟨w.heap.size + 1, 0, none⟩) := Zv A 3 rfl;refine Zi ?_ rfl;clear A B;go_simp;all_goals go_arith
  ·refine Zb rfl fun a _ _ _ B A => ?_;have e21 : a (.tmp 21) = _ := Zf A 16 rfl;have h1 := Zd ((B.block _ (Za hy0)).trans hy0) 4 _ rfl;refine Zi ?_ rfl;clear A B;go_simp;all_goals go_arith
  ·refine Zb rfl fun a B _ _ C A => ?_;have e20 : a (.tmp 20) = _ := Zf A 15 rfl;have e22 : a (.tmp 22) = _ := Zf A 17 rfl;refine Yy (f := 113) (args := #[.int .i64 x.pair, .int .i64 y.pair]) ?_ ((Zjv _ _ B).mono ?_)
   ·clear A C;go_simp;all_goals go_arith
   ·rintro e w2 ⟨rfl, rfl⟩;exact ⟨_, rfl, Zp.refl _, rfl⟩
  ·refine Zb rfl fun a w' _ _ B A => ?_;have e11 : a (.tmp 11) = _ := Zf A 6 rfl;have e18 : a (.tmp 18) = _ := Zf A 13 rfl;have e23 : a (.tmp 23) = _ := Zf A 18 rfl;refine Zpz (v := .slice (some ⟨w'.heap.size, 0, none⟩) 3 3) (w' := w'.alloc (.cells #[.int .i64 (Vo x.rc.key y.rc.key), .int .i64 (Vo x.rc.ver y.rc.ver), .int .i64 (Vo x.pair y.pair)] 3)) ?_ (Zc _ _) ⟨_, rfl, Zj _ _ _⟩;clear A B;go_simp;all_goals go_arith
  ·refine Zb rfl fun a B _ _ C A => ?_;have e24 : ((Zop (Vo x.rc.key y.rc.key) (Vo x.rc.ver y.rc.ver) (Vo x.pair y.pair))) (a (.tmp 24)) B := Zf A 19 rfl;obtain ⟨g, h24, h3⟩ := e24;refine Yy (f := 112) (args := #[.slice (some ⟨g, 0, none⟩) 3 3]) ?_ ((Zx7 [Vo x.rc.key y.rc.key, Vo x.rc.ver y.rc.ver, Vo x.pair y.pair] g 3 B (by simp) (fun j hj => by
    have hj3 : j < 3 := hj
    match j, hj3 with
    | 0, _ => exact Zd h3 0 _ rfl
    | 1, _ => exact Zd h3 1 _ rfl
    | 2, _ => exact Zd h3 2 _ rfl)).mono ?_)
   ·clear A C h3;go_simp;all_goals go_arith
   ·rw [Ztu, ← HR.out];rintro e w2 ⟨rfl, g2⟩;exact ⟨_, rfl, g2, rfl⟩
  ·exact Zb rfl fun a _ _ _ _ A => Yw rfl (Zf A 20 rfl)
 ·intro vs w' hg ht;obtain ⟨(r5 : vs 0 = _), (r6 : vs 1 = _), (r7 : vs 2 = _), (r8 : vs 3 = _), (r9 : vs 4 = _), (r10 : vs 5 = _), (r11 : vs 6 = _), (r12 : vs 7 = _), (r13 : vs 8 = _), (r14 : vs 9 = _), (r15 : vs 10 = _), (r16 : vs 11 = _), (r17 : vs 12 = _), (r18 : vs 13 = _), (r19 : vs 14 = _), (r20 : vs 15 = _), (r21 : vs 16 = _), (r22 : vs 17 = _), (r23 : vs 18 = _), q24, (r25 : vs 20 = _), (r4 : vs 21 = _), -⟩ := ht;simp only [Yf, Act.put, List.setIfInBounds_toArray, List.set_cons_zero, List.set_cons_succ, r5, r6, r7, r8, r9, r10, r11, r12, r13, r14, r15, r16, r17, r18, r19, r20, r21, r22, r23, r25, r4];clear r5 r6 r7 r8 r9 r10 r11 r12 r13 r14 r15 r16 r17 r18 r19 r20 r21 r22 r23 r25 r4;have gE := g0.trans hg;clear q24 hg hx1 hy0 g0;go_wp2_with fail;go_ret;exact ⟨rfl, gE⟩
variable {B : Nat} {v : Value} {w w' : World}
theorem Zhf {g : Nat} {T : TypeId} {f} {c0 c1 c2 c3 c4 : Value} (h : w.heap[g]? = some (.cells #[c0, c1, c2, c3, c4] T f)) (x0 x1 x2 x3 x4 : Value) :
  (((((w.setCell ⟨g, 0, none⟩ x0).setCell ⟨g, 1, none⟩ x1).setCell ⟨g, 2, none⟩ x2).setCell ⟨g, 3, none⟩ x3).setCell ⟨g, 4, none⟩ x4).heap[g]? = some (.cells #[x0, x1, x2, x3, x4] T f) ∧ Zq g w (((((w.setCell ⟨g, 0, none⟩ x0).setCell ⟨g, 1, none⟩ x1).setCell ⟨g, 2, none⟩ x2).setCell ⟨g, 3, none⟩ x3).setCell ⟨g, 4, none⟩ x4) := by
 refine ⟨?_, (((((Zq.refl g w).set _ _ _).set _ _ _).set _ _ _).set _ _ _).set _ _ _⟩;have h1 := Yg (Yg (Yg (Yg (Yg h 0 x0) 1 x1) 2 x2) 3 x3) 4 x4;simpa using h1
def Ziz (B : Nat) (r : Rec) (v : Value) (w : World) : Prop := ∃ a c, v = .agg #[.int .i64 r.kind, .int .i64 r.key, .int .i64 r.ver, .slice a r.data.length c] ∧ w.ownsRow B 5 1 (.slice a r.data.length c) r.data.length (r.data.map bv)
theorem Zsf (B : Nat) (r : Rec) : Xw (Ziz B r) := by
 rintro v w w' hg ⟨a, c, h1, h2⟩; exact ⟨a, c, h1, Z2 h2 hg⟩
theorem Zsr {r : Rec} (hs : Yx 92 w w') (h : Ziz B r v w) : Ziz B r v w' := by
 obtain ⟨a, c, h1, h2⟩ := h; exact ⟨a, c, h1, Qo (by decide) hs h2⟩
def Zoq (B : Nat) (x : Ent) (v : Value) (w : World) : Prop := ∃ a c, v = .agg #[.int .i64 x.rc.kind, .int .i64 x.rc.key, .int .i64 x.rc.ver, .slice a x.rc.data.length c, .int .i64 x.pair] ∧ w.ownsRow B 5 1 (.slice a x.rc.data.length c) x.rc.data.length (x.rc.data.map bv)
theorem Zvl (B : Nat) (x : Ent) : Xw (Zoq B x) := by
 rintro v w w' hg ⟨a, c, h1, h2⟩; exact ⟨a, c, h1, Z2 h2 hg⟩
theorem Zvq {x : Ent} (hs : Yx 92 w w') (h : Zoq B x v w) : Zoq B x v w' := by
 obtain ⟨a, c, h1, h2⟩ := h; exact ⟨a, c, h1, Qo (by decide) hs h2⟩
def Zu9 (B g : Nat) (x : Ent) (w : World) : Prop := ∃ a c, w.heap[g]? = some (.cells #[.int .i64 x.rc.kind, .int .i64 x.rc.key, .int .i64 x.rc.ver, .slice a x.rc.data.length c, .int .i64 x.pair] 92 (0, 0)) ∧ w.ownsRow B 5 1 (.slice a x.rc.data.length c) x.rc.data.length (x.rc.data.map bv)
theorem Zsi (B g : Nat) (x : Ent) : Xw (fun _ w => Zu9 B g x w) := by
 rintro v w w' hg ⟨a, c, h1, h2⟩; exact ⟨a, c, (hg.block _ (Za h1)).trans h1, Z2 h2 hg⟩
theorem Zgx (x : Ent) (a0 : Option Addr) (c0 : Nat) (w : World) (hm : x.rc.data.length ≤ 140737488355328) (hb : Bytes w (.slice a0 x.rc.data.length c0) x.rc.data) :
  Calls Tryz.prog 160 #[.agg #[.int .i64 x.rc.kind, .int .i64 x.rc.key, .int .i64 x.rc.ver, .slice a0 x.rc.data.length c0, .int .i64 x.pair]] w fun e w' => ∃ v, e = .returned v ∧ Zoq w.heap.size x v w' ∧ Zp w w' := by
 have g0 := Zr w (.cells #[.int .i64 x.rc.kind, .int .i64 x.rc.key, .int .i64 x.rc.ver, .slice a0 x.rc.data.length c0, .int .i64 x.pair] 92) (.cells #[.int .i64 0, .int .i64 0, .int .i64 0, .slice none 0 0, .int .i64 0] 92);have hx0 := Zj w #[.int .i64 x.rc.kind, .int .i64 x.rc.key, .int .i64 x.rc.ver, .slice a0 x.rc.data.length c0, .int .i64 x.pair] 92;have hy0 := Zj (w.alloc (.cells #[.int .i64 x.rc.kind, .int .i64 x.rc.key, .int .i64 x.rc.ver, .slice a0 x.rc.data.length c0, .int .i64 x.pair] 92)) #[.int .i64 0, .int .i64 0, .int .i64 0, .slice none 0 0, .int .i64 0] 92;have hx1 := ((Zc (w.alloc (.cells #[.int .i64 x.rc.kind, .int .i64 x.rc.key, .int .i64 x.rc.ver, .slice a0 x.rc.data.length c0, .int .i64 x.pair] 92)) (.cells #[.int .i64 0, .int .i64 0, .int .i64 0, .slice none 0 0, .int .i64 0] 92)).block _ (Za hx0)).trans hx0;rw [World.size_alloc] at hy0;clear hx0;go_enter Tryz.func160, Tryz.ntmps160;go_wp2_with fail;generalize World.alloc (World.alloc w _) _ = W at *
 refine Yz [px (.pointer (some ⟨w.heap.size, 0, none⟩)), px (.agg #[.int .i64 x.rc.kind, .int .i64 x.rc.key, .int .i64 x.rc.ver, .slice a0 x.rc.data.length c0]), pl ((Ziz (w.heap.size + 2) x.rc)), px (.pointer (some ⟨w.heap.size, 4, none⟩)), px (.int .i64 x.pair), pl ((Zoq (w.heap.size + 2) x)), pl ((fun _ w' => Zu9 (w.heap.size + 2) (w.heap.size + 1) x w'))] [none, none, none, none, none, none, some ((Yx 92))] (fun dn w' => Zp w w' ∧ w.heap.size + 2 ≤ w'.heap.size ∧ w'.heap[w.heap.size]? = some (.cells #[.int .i64 x.rc.kind, .int .i64 x.rc.key, .int .i64 x.rc.ver, .slice a0 x.rc.data.length c0, .int .i64 x.pair] 92 (0, 0)) ∧ (dn 6 = false → w'.heap[w.heap.size + 1]? = some (.cells #[.int .i64 0, .int .i64 0, .int .i64 0, .slice none 0 0, .int .i64 0] 92 (0, 0)))) (by kernel_rfl) (by kernel_rfl) ⟨se, se, Yl (Zsf _ _), se, se, Yl (Zvl _ _), Yl (Zsi _ _ _), trivial⟩ ⟨⟨(fun w => .inl rfl), ⟨x5, x5, .inr ((fun v _ w1 w' hs hq => Zsr hs hq)), x5, x5, .inr ((fun v _ w1 w' hs hq => Zvq hs hq)), .inl (by kernel_rfl), trivial⟩⟩, trivial⟩ ⟨n5, n5, n5, n5, n5, n5, fun _ _ _ _ h => h, trivial⟩ ⟨g0.drew, Za hy0, hx1, fun _ => hy0⟩ ?_ ?_
 ·refine ⟨?_, ?_, ?_, ?_, ?_, ?_, ?_, trivial⟩
  ·refine Ze rfl fun a _ _ _ _ _ B A => ?_;have e1 : a (.tmp 1) = .pointer (some ⟨w.heap.size, 0, none⟩) := Zn A 1 rfl;refine Zk ?_ B rfl;clear A B;go_simp;all_goals go_arith
  ·refine Ze rfl fun a _ _ _ _ C B A => ?_;have e3 : a (.tmp 3) = _ := Zg A 0 rfl;have z0 := Zd B.2.2.1 0 _ rfl;have z1 := Zd B.2.2.1 1 _ rfl;have z2 := Zd B.2.2.1 2 _ rfl;have z3 := Zd B.2.2.1 3 _ rfl;refine Zk ?_ B rfl;clear A B C;go_simp;all_goals go_arith
  ·refine Ze rfl fun a B _ _ _ D C A => ?_;have e4 : a (.tmp 4) = _ := Zg A 1 rfl;refine Yh (f := 101) (args := #[.agg #[.int .i64 x.rc.kind, .int .i64 x.rc.key, .int .i64 x.rc.ver, .slice a0 x.rc.data.length c0]]) ?_ ((Zfh x.rc.kind x.rc.key x.rc.ver x.rc.data _ B hm (Z0 hb C.1)).mono ?_)
   ·clear A C D;go_simp;all_goals go_arith
   ·rintro e w2 ⟨v', rfl, ho, g2⟩;obtain ⟨a9, c9, rfl⟩ := Z6 ho;exact ⟨_, rfl, g2, ⟨C.1.trans g2, Nat.le_trans C.2.1 g2.size, (g2.block _ (Za C.2.2.1)).trans C.2.2.1, fun h => (g2.block _ (Za (C.2.2.2 h))).trans (C.2.2.2 h)⟩, a9, c9, rfl, Yi ho C.2.1⟩
  ·refine Ze rfl fun a _ _ _ _ _ B A => ?_;have e1 : a (.tmp 1) = .pointer (some ⟨w.heap.size, 0, none⟩) := Zn A 1 rfl;refine Zk ?_ B rfl;clear A B;go_simp;all_goals go_arith
  ·refine Ze rfl fun a _ _ _ _ C B A => ?_;have e6 : a (.tmp 6) = _ := Zg A 3 rfl;have z4 := Zd B.2.2.1 4 _ rfl;refine Zk ?_ B rfl;clear A B C;go_simp;all_goals go_arith
  ·refine Ze rfl fun a B _ _ _ D C A => ?_;have e5 : ((Ziz (w.heap.size + 2) x.rc)) (a (.tmp 5)) B := Zg A 2 rfl;have e7 : a (.tmp 7) = _ := Zg A 4 rfl;obtain ⟨a9, c9, h5, ho⟩ := e5;refine Zk (v := .agg #[.int .i64 x.rc.kind, .int .i64 x.rc.key, .int .i64 x.rc.ver, .slice a9 x.rc.data.length c9, .int .i64 x.pair]) ?_ C ⟨a9, c9, rfl, ho⟩;clear A C D ho;go_simp;all_goals go_arith
  ·refine Ze rfl fun a w' _ _ _ C B A => ?_;have e2 : a (.tmp 2) = .pointer (some ⟨w.heap.size + 1, 0, none⟩) := Zn A 2 rfl;have e8 : ((Zoq (w.heap.size + 2) x)) (a (.tmp 8)) w' := Zg A 5 rfl;obtain ⟨a9, c9, h8, ho⟩ := e8;have hh := B.2.2.2 C.un;obtain ⟨hp1, hp2⟩ := Zhf hh (.int .i64 x.rc.kind) (.int .i64 x.rc.key) (.int .i64 x.rc.ver) (.slice a9 x.rc.data.length c9) (.int .i64 x.pair);have hstep : Yx 92 w' _ := .inr ⟨_, _, _, hp2, hh, hp1, rfl⟩;obtain ⟨y0, y1, y2, y3, y4⟩ := Qb hh rfl rfl rfl rfl rfl;obtain ⟨f0, f1, f2, f3⟩ := Yq hh;have f4 := Zl hh 4;have cs := Zt;refine Yj (w' := _) ?_ hstep ⟨hp2.grow B.1 (by omega), Nat.le_trans B.2.1 hp2.size, (hp2.block _ (Za B.2.2.1) (by omega)).trans B.2.2.1, fun h => by simp [upd] at h⟩ ⟨a9, c9, hp1, Qo (by decide) hstep ho⟩;clear A B C hp1 hp2 hh ho hstep;go_simp;all_goals go_arith
 ·intro vs w' dn hdn hg ht;obtain ⟨q3, q4, q5, q6, q7, q8, qo6, -⟩ := ht;have r3 : vs 0 = _ := q3;have r4 : vs 1 = _ := q4;replace q5 : ((Ziz (w.heap.size + 2) x.rc)) (vs 2) w' := q5;have r6 : vs 3 = _ := q6;have r7 : vs 4 = _ := q7;replace q8 : ((Zoq (w.heap.size + 2) x)) (vs 5) w' := q8;replace qo6 : ((fun _ w' => Zu9 (w.heap.size + 2) (w.heap.size + 1) x w')) (vs 6) w' := qo6;clear q3 q4 q6 q7;simp only [Yf, Act.put, List.setIfInBounds_toArray, List.set_cons_zero, List.set_cons_succ, Nat.reduceAdd, r3, r4, r6, r7];clear r3 r4 r6 r7;obtain ⟨a9, c9, hp, ho⟩ := qo6;obtain ⟨y0, y1, y2, y3, y4⟩ := Qb hp rfl rfl rfl rfl rfl;have gE := hg.1;have hoE := Yi ho (base' := w.heap.size) (by omega);clear q5 q8 hdn hg hp ho hx1 hy0 g0;go_wp2_with fail;exact bodyPost_ret (v := .agg #[.int .i64 x.rc.kind, .int .i64 x.rc.key, .int .i64 x.rc.ver, .slice a9 x.rc.data.length c9, .int .i64 x.pair]) (by simp [results, Tryz.results160, go_sem, y0, y1, y2, y3, y4]) rfl ⟨_, rfl, ⟨a9, c9, rfl, hoE⟩, gE⟩
theorem Zlv (Pr : Ent → Bool) {l : List Ent} {k : Nat} (h : k < l.length) : (l.take (k + 1)).filter Pr = (l.take k).filter Pr ++ (if Pr l[k] = true then [l[k]] else []) := by
 rw [List.take_succ_eq_append_getElem h, List.filter_append]
 congr 1
 by_cases hp : Pr l[k] = true
 ·rw [if_pos hp, List.filter_cons_of_pos hp]; rfl
 ·rw [if_neg hp, List.filter_cons_of_neg hp]; rfl
theorem Yv.made {α : Type} {sh : Qr α} {S0 : Nat → Prop} (h : w.ownsRow B sh.T sh.size v 0 []) : Yv sh S0 B v [] [] w := ⟨rfl, fun i hi => by simp at hi, h⟩
abbrev NoS : Nat → Prop := fun _ => False
theorem Zbj (K : Nat) (caps : Array Value) (Pr : Ent → Bool) (S : Nat → Prop) (l : List Ent) (v : Value) (w : World) (hK : ∀ (args : Array Value) (w : World), (callFunc K args).run Tryz.prog w = .ok (.enter K args) w) (hl : Yr S w v l) (hn : l.length ≤ 1000000) (h8 : ∀ x ∈ l, x.rc.data.length ≤ 8)
  (hc : ∀ (x : Ent) (a : Option Addr) (c : Nat) (w' : World), x ∈ l → Zp w w' → Calls Tryz.prog K (#[.agg #[.int .i64 x.rc.kind, .int .i64 x.rc.key, .int .i64 x.rc.ver, .slice a x.rc.data.length c, .int .i64 x.pair]] ++ caps) w' fun e w2 => e = .returned (.bool (Pr x)) ∧ Zp w' w2) :
  Calls Tryz.prog 123 #[v, .func (.func K) #[] caps] w fun e w' => ∃ v' css, e = .returned v' ∧ Yv Xa NoS w.heap.size v' (l.filter Pr) css w' ∧ Zp w w' := by
 obtain ⟨i0, hif, hz0, hz1, hz2⟩ := info_parts Zas;obtain ⟨ao, cp, rfl⟩ := hl.form;obtain ⟨F, hF⟩ : ∃ F, F = l.filter Pr := ⟨_, rfl⟩;rw [← hF];have HF : Hid _ := hF;clear hF;go_enter Tryz.func123, Tryz.ntmps123;go_wp2_with (at_make; refine wpList_make_own _ rfl _ _ 27 rfl w.heap.size 92 i0 (.agg #[.int .i64 0, .int .i64 0, .int .i64 0, .slice none 0 0, .int .i64 0]) 5 Tryz.underlying27 hif hz0 hz1 .i64 .i64 _ l.length rfl rfl rfl (by rw [hz2]; omega) (by unfold maxLen; omega) (Nat.le_refl _) ?_; intro w1 hown1 hgrow1);have hR0 : Yv Xa NoS w.heap.size (.slice (some ⟨w.heap.size, 0, none⟩) 0 l.length) [] [] w1 := Yv.made hown1;have g0 : Zp w w1 := Yc (Zp.refl _) hgrow1 (fun k e => by cases e);clear hown1 hgrow1;go_loopw [5, 13] (fun o i wr => ∃ (k : Nat) (css : List (List Value)), k ≤ l.length ∧ i = .int .i64 k ∧ Yv Xa NoS w.heap.size o ((l.take k).filter Pr) css wr ∧ Zp w wr) (fun _ i _ => l.length - (intOf i).toNat)
 case atStart => exact ⟨0, [], Nat.zero_le _, rfl, hR0, g0⟩
 case round =>
  clear hR0 g0;obtain ⟨k, css, hk, rfl, hR, hg⟩ := hrel;by_cases hlt : k < l.length
  ·obtain ⟨b, off, a1, c1, hv1, q0, q1, q2, q3, q4, hu⟩ := Kf (hl.grow hg) k hlt;cases hv1;have HT : Hid ((l.take (k + 1)).filter Pr = (l.take k).filter Pr ++ (if Pr l[k] = true then [l[k]] else [])) := Zlv Pr hlt;have hxl : ((l.take k).filter Pr).length ≤ 1000000 := Nat.le_trans (List.length_filter_le _ _) (by rw [List.length_take]; omega);have HM : Hid (l[k] ∈ l) := List.getElem_mem hlt;have HB : Hid (l[k].rc.data.length ≤ 8) := h8 _ (List.getElem_mem hlt);generalize l[k] = x at *;generalize (l.take k).filter Pr = xs at *;obtain ⟨a0, c0, rfl⟩ := hR.form;have g1 := Zc wr (.cells #[.int .i64 x.rc.kind, .int .i64 x.rc.key, .int .i64 x.rc.ver, .slice a1 x.rc.data.length c1, .int .i64 x.pair] 92);have hX1 := Zj wr #[.int .i64 x.rc.kind, .int .i64 x.rc.key, .int .i64 x.rc.ver, .slice a1 x.rc.data.length c1, .int .i64 x.pair] 92;have hR1 := hR.grow g1;have hu1 := hu.grow g1;have gw1 := hg.trans g1;clear hR hu hg g1;obtain ⟨x0, x1, x2, x3, x4⟩ := Qb hX1 rfl rfl rfl rfl rfl;go_wp2_with fail;refine (hc x a1 c1 _ HM.out gw1).mono ?_;rintro e w2 ⟨rfl, g2⟩;have hR2 := hR1.grow g2;have hu2 := hu1.grow g2;have hX2 := (g2.block _ (Za hX1)).trans hX1;have gw2 := gw1.trans g2;clear hR1 hu1 hX1 gw1 g2 x0 x1 x2 x3 x4 q0 q1 q2 q3 q4;generalize wr.heap.size = gx at *;obtain ⟨P, hP⟩ : ∃ P, P = Pr x := ⟨_, rfl⟩;rw [← hP];have HP : Hid _ := hP;clear hP;obtain ⟨x0, x1, x2, x3, x4⟩ := Qb hX2 rfl rfl rfl rfl rfl;cases P with
   | false =>
    have HT2 : Hid ((l.take (k + 1)).filter Pr = xs) := by show _ = _; rw [HT.out, ← HP.out]; simp
    clear HT HP hX2 hu2;go_wp2_with fail;go_roundw
    case rel => exact ⟨k + 1, _, by omega, by go_num, by rw [HT2.out]; exact hR2, gw2⟩
    case measure => simp [intOf]; omega
   | true =>
    have HT2 : Hid ((l.take (k + 1)).filter Pr = xs ++ [x]) := by show _ = _; rw [HT.out, ← HP.out]; simp
    clear HT HP;go_wp2_with fail;refine (Zgx x a1 c1 _ (by have := HB.out; omega) hu2.p).mono ?_;rintro e w3 ⟨v3, rfl, ⟨a3, c3, rfl, ho3⟩, g3⟩;have hR3 := hR2.grow g3;have gw3 := gw2.trans g3;have HO3 : Hid (w3.ownsRow w.heap.size 5 1 (.slice a3 x.rc.data.length c3) x.rc.data.length (x.rc.data.map bv)) := Yi ho3 gw2.size;have HSZ : Hid (w.heap.size ≤ w3.heap.size) := gw3.size;have hnew : ∀ (j : Nat) u, ([.int .i64 x.rc.kind, .int .i64 x.rc.key, .int .i64 x.rc.ver, .slice a3 x.rc.data.length c3, .int .i64 x.pair] : List Value)[j]? = some u → (w3.alloc (.cells #[.int .i64 x.rc.kind, .int .i64 x.rc.key, .int .i64 x.rc.ver, .slice a3 x.rc.data.length c3, .int .i64 x.pair] 92)).cell? ((⟨w3.heap.size, 0, none⟩ : Addr).add j) = some u := fun j u hj => V8 w3 _ _ _ _ _ 92 j u hj
    clear hR2 hu2 hX2 gw2 g3 ho3 x0 x1 x2 x3 x4;go_wp2_with (first | (at_builtin; refine wpList_append_own _ rfl (.tmp 20) (.tmp 23) 27 rfl (w.heap.size) 92 i0 (.agg #[.int .i64 0, .int .i64 0, .int .i64 0, .slice none 0 0, .int .i64 0]) 5 56 Tryz.underlying27 hif hz0 hz1 hz2 rfl (by decide) (.slice a0 xs.length c0) _ _ rfl (hR3.row.alloc _) ⟨w3.heap.size, 0, none⟩ 1 1 [.int .i64 x.rc.kind, .int .i64 x.rc.key, .int .i64 x.rc.ver, .slice a3 x.rc.data.length c3, .int .i64 x.pair] rfl rfl hnew (by intro u hu; simp at hu; rcases hu with rfl | rfl | rfl | rfl | rfl <;> rfl) (by unfold maxLen; omega) (by omega) (by have := HSZ.out; simp; omega) ?_; intro v4 w4 hown4 hgrow4 _; have hR6 := hR3.step (x := x) (by decide) (fun b h => h.elim) ⟨_, rfl, Zei _ (Nat.le_refl _) HO3.out⟩ hgrow4 hown4; have g6 : Zp w w4 := Yc (gw3.trans (Zc _ _)) hgrow4 (fun k hk => (hR3.row.lt k hk).1); have hsl := Y7 hown4; obtain ⟨a4, c4, hv4⟩ := hsl; subst hv4; clear hgrow4 hown4 hR3 hnew gw3));go_roundw
    case rel => exact ⟨k + 1, _, by omega, by go_num, by rw [HT2.out]; exact hR6, g6⟩
    case measure => simp [intOf]; omega
  ·have HE : Hid (F = (l.take k).filter Pr) := by show F = _; rw [HF.out, List.take_of_length_le (by omega)]
   rw [← HE.out] at hR;obtain ⟨a0, c0, rfl⟩ := hR.form;go_wp2_with fail;go_ret;exact ⟨_, _, rfl, hR, hg⟩
theorem Zlx (args : Array Value) (w : World) : (callFunc 124 args).run Tryz.prog w = .ok (.enter 124 args) w := by
 simp [callFunc, Tryz.func124, Tryz.f124, mark]
theorem Zjt (args : Array Value) (w : World) : (callFunc 177 args).run Tryz.prog w = .ok (.enter 177 args) w := by
 simp [callFunc, Tryz.func177, Tryz.f177, mark]
theorem Zl0 (args : Array Value) (w : World) : (callFunc 179 args).run Tryz.prog w = .ok (.enter 179 args) w := by
 simp [callFunc, Tryz.func179, Tryz.f179, mark]
theorem Zlz (args : Array Value) (w : World) : (callFunc 180 args).run Tryz.prog w = .ok (.enter 180 args) w := by
 simp [callFunc, Tryz.func180, Tryz.f180, mark]
theorem Zly (args : Array Value) (w : World) : (callFunc 181 args).run Tryz.prog w = .ok (.enter 181 args) w := by
 simp [callFunc, Tryz.func181, Tryz.f181, mark]
theorem Ztr (x : Ent) (a : Option Addr) (c : Nat) (w : World) : Calls Tryz.prog 124 #[.agg #[.int .i64 x.rc.kind, .int .i64 x.rc.key, .int .i64 x.rc.ver, .slice a x.rc.data.length c, .int .i64 x.pair]] w fun e w' => e = .returned (.bool true) ∧ Zp w w' := by
 have g0 := Zc w (.cells #[.int .i64 x.rc.kind, .int .i64 x.rc.key, .int .i64 x.rc.ver, .slice a x.rc.data.length c, .int .i64 x.pair] 92);go_enter Tryz.func124, Tryz.ntmps124;go_wp2_with fail;go_ret;exact ⟨rfl, g0⟩
theorem Zrl (x : Ent) (a : Option Addr) (c : Nat) (p : Int) (g : Nat) (w : World) (hp : w.heap[g]? = some (.cells #[.int .i64 p] 3 (0, 0))) : Calls Tryz.prog 177 #[.agg #[.int .i64 x.rc.kind, .int .i64 x.rc.key, .int .i64 x.rc.ver, .slice a x.rc.data.length c, .int .i64 x.pair], .pointer (some ⟨g, 0, none⟩)] w fun e w' => e = .returned (.bool (x.pair != p)) ∧ Zp w w' := by
 have g0 := Zc w (.cells #[.int .i64 x.rc.kind, .int .i64 x.rc.key, .int .i64 x.rc.ver, .slice a x.rc.data.length c, .int .i64 x.pair] 92);have y0 := Zd ((g0.block _ (Za hp)).trans hp) 0 _ rfl;go_enter Tryz.func177, Tryz.ntmps177;go_wp2_with fail;go_ret;exact ⟨rfl, g0⟩
theorem Zuv (x e : Ent) (a b : Option Addr) (c d : Nat) (g : Nat) (w : World) (hne : x.pair ≠ e.pair) (hp : w.heap[g]? = some (.cells #[.int .i64 e.rc.kind, .int .i64 e.rc.key, .int .i64 e.rc.ver, .slice b e.rc.data.length d, .int .i64 e.pair] 92 (0, 0))) : Calls Tryz.prog 179 #[.agg #[.int .i64 x.rc.kind, .int .i64 x.rc.key, .int .i64 x.rc.ver, .slice a x.rc.data.length c, .int .i64 x.pair], .pointer (some ⟨g, 0, none⟩)] w fun e w' => e = .returned (.bool false) ∧ Zp w w' := by
 have g0 := Zc w (.cells #[.int .i64 x.rc.kind, .int .i64 x.rc.key, .int .i64 x.rc.ver, .slice a x.rc.data.length c, .int .i64 x.pair] 92);have y4 := Zd ((g0.block _ (Za hp)).trans hp) 4 _ rfl;have d0 : (x.pair == e.pair) = false := by simp [hne]
 clear hne;go_enter Tryz.func179, Tryz.ntmps179;go_wp2_with fail;go_ret;exact ⟨rfl, g0⟩
theorem Zuu (x e : Ent) (a b : Option Addr) (c d : Nat) (g : Nat) (w : World) (hp : w.heap[g]? = some (.cells #[.int .i64 e.rc.kind, .int .i64 e.rc.key, .int .i64 e.rc.ver, .slice b e.rc.data.length d, .int .i64 e.pair] 92 (0, 0))) : Calls Tryz.prog 180 #[.agg #[.int .i64 x.rc.kind, .int .i64 x.rc.key, .int .i64 x.rc.ver, .slice a x.rc.data.length c, .int .i64 x.pair], .pointer (some ⟨g, 0, none⟩)] w fun r w' => r = .returned (.bool (Y5 x e)) ∧ Zp w w' := by
 have g0 := Zc w (.cells #[.int .i64 x.rc.kind, .int .i64 x.rc.key, .int .i64 x.rc.ver, .slice a x.rc.data.length c, .int .i64 x.pair] 92);have hp1 := (g0.block _ (Za hp)).trans hp;obtain ⟨y0, y1, y2, y3, y4⟩ := Qb hp1 rfl rfl rfl rfl rfl;have hx1 := Zj w #[.int .i64 x.rc.kind, .int .i64 x.rc.key, .int .i64 x.rc.ver, .slice a x.rc.data.length c, .int .i64 x.pair] 92;obtain ⟨x0, x1, x2, x3, x4⟩ := Qb hx1 rfl rfl rfl rfl rfl;clear hp hp1 hx1;obtain ⟨R, hR⟩ : ∃ R, R = Y5 x e := ⟨_, rfl⟩;rw [← hR];have HR : Hid _ := hR;clear hR;go_enter Tryz.func180, Tryz.ntmps180;go_wp2_with fail;refine (Zcg x e _ _ _ _ _).mono ?_;rintro r w1 ⟨rfl, g1⟩;have gE := g0.trans g1;have HO : Hid (decide (Zek x e < 0) = R) := by show _ = _; rw [Zpi, HR.out]
 clear g0 g1 x0 x1 x2 x3 x4 y0 y1 y2 y3 y4;generalize Zek x e = o at *;go_wp2_with fail;go_ret;exact ⟨by rw [← HO.out]; rfl, gE⟩
theorem Zut (x e : Ent) (a b : Option Addr) (c d : Nat) (g : Nat) (w : World) (hp : w.heap[g]? = some (.cells #[.int .i64 e.rc.kind, .int .i64 e.rc.key, .int .i64 e.rc.ver, .slice b e.rc.data.length d, .int .i64 e.pair] 92 (0, 0))) : Calls Tryz.prog 181 #[.agg #[.int .i64 x.rc.kind, .int .i64 x.rc.key, .int .i64 x.rc.ver, .slice a x.rc.data.length c, .int .i64 x.pair], .pointer (some ⟨g, 0, none⟩)] w fun r w' => r = .returned (.bool (Y5 e x)) ∧ Zp w w' := by
 have g0 := Zc w (.cells #[.int .i64 x.rc.kind, .int .i64 x.rc.key, .int .i64 x.rc.ver, .slice a x.rc.data.length c, .int .i64 x.pair] 92);have hp1 := (g0.block _ (Za hp)).trans hp;obtain ⟨y0, y1, y2, y3, y4⟩ := Qb hp1 rfl rfl rfl rfl rfl;have hx1 := Zj w #[.int .i64 x.rc.kind, .int .i64 x.rc.key, .int .i64 x.rc.ver, .slice a x.rc.data.length c, .int .i64 x.pair] 92;obtain ⟨x0, x1, x2, x3, x4⟩ := Qb hx1 rfl rfl rfl rfl rfl;clear hp hp1 hx1;obtain ⟨R, hR⟩ : ∃ R, R = Y5 e x := ⟨_, rfl⟩;rw [← hR];have HR : Hid _ := hR;clear hR;go_enter Tryz.func181, Tryz.ntmps181;go_wp2_with fail;refine (Zcg x e _ _ _ _ _).mono ?_;rintro r w1 ⟨rfl, g1⟩;have gE := g0.trans g1;have HO : Hid (decide (0 < Zek x e) = R) := by show _ = _; rw [Zwf, HR.out]
 clear g0 g1 x0 x1 x2 x3 x4 y0 y1 y2 y3 y4;generalize Zek x e = o at *;go_wp2_with fail;go_ret;exact ⟨by rw [← HO.out]; rfl, gE⟩
theorem Ztf (S : Nat → Prop) (l : List Ent) (v : Value) (w : World) (hl : Yr S w v l) (hn : l.length ≤ 1000000) (h8 : ∀ x ∈ l, x.rc.data.length ≤ 8) :
  Calls Tryz.prog 92 #[v] w fun e w' => ∃ v' css, e = .returned v' ∧ Yv Xa NoS w.heap.size v' l css w' ∧ Zp w w' := by
 obtain ⟨ao, cp, rfl⟩ := hl.form;go_enter Tryz.func92, Tryz.ntmps92;go_wp2_with fail;refine (Zbj 124 #[] (fun _ => true) S l _ w Zlx hl hn h8 (fun x a c w' _ _ => by rw [Array.append_empty]; exact Ztr x a c w')).mono ?_;rw [List.filter_eq_self.2 (fun _ _ => rfl)];rintro e w1 ⟨v', css, rfl, hR, g1⟩;obtain ⟨a1, c1, rfl⟩ := hR.form;go_wp2_with fail;go_ret;exact ⟨_, _, rfl, hR, g1⟩
theorem Yv.less {α : Type} {sh : Qr α} {S0 : Nat → Prop} {B B' : Nat} {v : Value} {xs : List α} {css : List (List Value)} {w : World} (h : Yv sh S0 B v xs css w) (hb : B' ≤ B) : Yv sh S0 B' v xs css w :=
 ⟨h.len, fun i hi => (h.each i hi).imp fun _ x => ⟨x.1, sh.mono x.2 fun _ k => Xp k (fun y => y) fun y => ⟨Nat.le_trans hb y.1, y.2⟩⟩, Yi h.row hb⟩
theorem Zqo (S : Nat → Prop) (l : List Ent) (p : Int) (v : Value) (w : World) (hl : Yr S w v l) (hn : l.length ≤ 1000000) (h8 : ∀ x ∈ l, x.rc.data.length ≤ 8) :
  Calls Tryz.prog 157 #[v, .int .i64 p] w fun e w' => ∃ v' css, e = .returned v' ∧ Yv Xa NoS w.heap.size v' (l.filter fun x => x.pair != p) css w' ∧ Zp w w' := by
 obtain ⟨ao, cp, rfl⟩ := hl.form;have g0 := Zc w (.cells #[.int .i64 p] 3);have hp := Zj w #[.int .i64 p] 3;have s0 := World.size_alloc w (.cells #[.int .i64 p] 3);go_enter Tryz.func157, Tryz.ntmps157;go_wp2_with fail;refine (Zbj 177 #[.pointer (some ⟨w.heap.size, 0, none⟩)] (fun x => x.pair != p) S l _ _ Zjt (hl.grow g0) hn h8 (fun x a c w' _ hg => Zrl x a c p _ w' ((hg.block _ (Za hp)).trans hp))).mono ?_;rintro e w1 ⟨v', css, rfl, hR, g1⟩;have hR2 := hR.less (B' := w.heap.size) (by rw [s0]; omega);have gE := g0.trans g1;obtain ⟨a1, c1, rfl⟩ := hR.form;clear hR g0 g1 hp s0;go_wp2_with fail;go_ret;exact ⟨_, _, rfl, hR2, gE⟩
theorem Zn4 (K : Nat) (caps : Array Value) (S : Nat → Prop) (l : List Ent) (v : Value) (w : World) (hK : ∀ (args : Array Value) (w : World), (callFunc K args).run Tryz.prog w = .ok (.enter K args) w) (hl : Yr S w v l) (hn : l.length ≤ 1000000)
  (hc : ∀ (x : Ent) (a : Option Addr) (c : Nat) (w' : World), x ∈ l → Zp w w' → Calls Tryz.prog K (#[.agg #[.int .i64 x.rc.kind, .int .i64 x.rc.key, .int .i64 x.rc.ver, .slice a x.rc.data.length c, .int .i64 x.pair]] ++ caps) w' fun e w2 => e = .returned (.bool false) ∧ Zp w' w2) :
  Calls Tryz.prog 185 #[v, .func (.func K) #[] caps] w fun e w' => e = .returned (.int .i64 (-1)) ∧ Zp w w' := by
 obtain ⟨ao, cp, rfl⟩ := hl.form;go_enter Tryz.func185, Tryz.ntmps185;go_wp2_with fail;go_loopw [8] (fun i wr => ∃ k : Nat, k ≤ l.length ∧ i = .int .i64 k ∧ Zp w wr) (fun i _ => l.length - (intOf i).toNat)
 case atStart => exact ⟨0, Nat.zero_le _, rfl, Zp.refl _⟩
 case round =>
  obtain ⟨k, hk, rfl, hg⟩ := hrel;by_cases hlt : k < l.length
  ·obtain ⟨b, off, a1, c1, hv1, q0, q1, q2, q3, q4, hu⟩ := Kf (hl.grow hg) k hlt;cases hv1;have HM : Hid (l[k] ∈ l) := List.getElem_mem hlt;generalize l[k] = x at *;clear hu;go_wp2_with fail;refine (hc x a1 c1 _ HM.out hg).mono ?_;rintro e w2 ⟨rfl, g2⟩;have gw := hg.trans g2;clear g2 hg q0 q1 q2 q3 q4;go_wp2_with fail;go_roundw
   case rel => exact ⟨k + 1, by omega, by go_num, gw⟩
   case measure => simp [intOf]; omega
  ·go_wp2_with fail;go_ret;exact ⟨rfl, hg⟩
theorem Zhw (K : Nat) (caps : Array Value) (S : Nat → Prop) (l : List Ent) (v : Value) (w : World) (hK : ∀ (args : Array Value) (w : World), (callFunc K args).run Tryz.prog w = .ok (.enter K args) w) (hl : Yr S w v l) (hn : l.length ≤ 1000000)
  (hc : ∀ (x : Ent) (a : Option Addr) (c : Nat) (w' : World), x ∈ l → Zp w w' → Calls Tryz.prog K (#[.agg #[.int .i64 x.rc.kind, .int .i64 x.rc.key, .int .i64 x.rc.ver, .slice a x.rc.data.length c, .int .i64 x.pair]] ++ caps) w' fun e w2 => e = .returned (.bool false) ∧ Zp w' w2) :
  Calls Tryz.prog 178 #[v, .func (.func K) #[] caps] w fun e w' => e = .returned (.bool false) ∧ Zp w w' := by
 go_enter Tryz.func178, Tryz.ntmps178;go_wp2_with fail;refine (Zn4 K caps S l v w hK hl hn hc).mono ?_;rintro e w1 ⟨rfl, g1⟩;clear hl hc;go_wp2_with fail;go_ret;exact ⟨rfl, g1⟩
end Go.Proofs.YtpdnapbchcdhlacGreat
