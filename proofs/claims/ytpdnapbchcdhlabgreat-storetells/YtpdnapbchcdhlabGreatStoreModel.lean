import Derived.Test.YtpdnapbchcdhlabGreatRStepC
set_option maxHeartbeats 8000000
namespace Go.Proofs.YtpdnapbchcdhlabGreat
set_option maxRecDepth 100000
open Go.RowKit
open Plain Reg
theorem Zu0 {s : St} {d : Dd} (h : Yj d ≠ 0) : (s.doS d).n = 0 ∧ (s.doS d).e = Yj d := by
 have hb : s.begin d = ⟨s, 0, Yj d⟩ := by unfold St.begin; rw [if_pos h]
 unfold St.doS;rw [hb, if_neg h];exact ⟨rfl, rfl⟩
theorem Zh1 (AL : Zfv) (SD : Zxr) (SM : Zd7) (SR : Za4) (l : List Sp) (d : Dd) (v : Value) (ad : Option Addr) (c : Nat) (w : World) (hl : K7 (fun b => b < w.heap.size) w v l) (hd : Z1 (fun b => b < w.heap.size) w (.slice ad d.data.length c) d.data) (hm : l.length ≤ 140737488355328) (hdl : ∀ x ∈ l, x.deed.data.length ≤ 140737488355328) (hdd : d.data.length ≤ 140737488355328) :
  Calls Tryz.prog 4 #[v, .agg #[.int .i64 d.kind, .int .i64 d.key, .int .i64 d.num, .slice ad d.data.length c]] w fun r w' => r = .returned (.bool true) ∧ Zo w w' := by
 obtain ⟨ao, cp, rfl⟩ := hl.form;have g0 := Zd w (.cells #[.int .i64 d.kind, .int .i64 d.key, .int .i64 d.num, .slice ad d.data.length c] 25);have hD0 := Zj w #[.int .i64 d.kind, .int .i64 d.key, .int .i64 d.num, .slice ad d.data.length c] 25;go_enter Tryz.func4, Tryz.ntmps4;go_wp2_with fail;refine (AL _).mono ?_;rintro r w1 ⟨rfl, g1⟩;have hD1 := (g1.block _ (Za hD0)).trans hD0;have gw1 := g0.trans g1;clear g0 g1 hD0;go_wp2_with fail;refine (Ze9 (fun b => b < w.heap.size) l _ w1 (fun b h => Nat.lt_of_lt_of_le h gw1.size) (hl.grow gw1) hm hdl).mono ?_;have HIV : Hid ((Kf 100 Yw l).Inv) := Zdg 100 Yw l Zcn;generalize Kf 100 Yw l = s at *;rintro r w2 ⟨v2, rfl, hS2, g2⟩;obtain ⟨b1, e1, l1, m1, i1, j1, hv2, -, -, -⟩ := hS2.form;subst hv2;have g3 := Zd w2 (.cells #[.slice b1 s.dk.blocks.length e1, .slice l1 s.dk.late.length m1, .slice i1 s.idx.length j1, .int .i64 s.next] 33);have hY3 := Zj w2 #[.slice b1 s.dk.blocks.length e1, .slice l1 s.dk.late.length m1, .slice i1 s.idx.length j1, .int .i64 s.next] 33;have hS3 := (hS2.grow g3).any;have hD3 := ((g2.trans g3).block _ (Za hD1)).trans hD1;have gw3 := gw1.trans (g2.trans g3);clear hS2 g2 hD1 gw1 g3;obtain ⟨p0, p1, p2, p3⟩ := Z7 hD3 rfl rfl rfl rfl;go_wp2_with fail;obtain ⟨G, hG⟩ : ∃ G, G = w2.heap.size := ⟨_, rfl⟩;rw [← hG] at hY3 ⊢;clear hG;generalize World.alloc w2 _ = w3 at *;refine (Zby d ad c w3 hdd).mono ?_;obtain ⟨E, hE⟩ : ∃ E, E = Yj d := ⟨_, rfl⟩;rw [← hE];have HE : Hid _ := hE;clear hE;rintro r w4 ⟨rfl, g4⟩
 have hY5 := (g4.block _ (Za hY3)).trans hY3;have hD5 := (g4.block _ (Za hD3)).trans hD3;have hS5 := hS3.grow g4;have gw5 := gw3.trans g4;have hd5 := hd.grow gw5;clear p0 p1 p2 p3 hY3 hD3 hS3 gw3 g4;by_cases he : E = 0
 ·have d1 : (E == 0) = true := by simp [he]
  have hwd : Yj d = 0 := by rw [← HE.out]; exact he
  obtain ⟨k1, k2, k3, k4⟩ := Zu2 HIV.out hwd;obtain ⟨D, hDD⟩ : ∃ D, D = doR s.recs d := ⟨_, rfl⟩;rw [← hDD] at k1 k2 k3 k4;have HDD : Hid _ := hDD;have HDL : Hid (D.l.length ≤ 7) := by rw [hDD]; have := Zp3 s.recs d; have := Jf HIV.out.at'; show _ ≤ _; omega
  have HKB : Hid _ := Kk hwd;have HVR : Hid _ := Zp6 HIV.out.at';have HR6 : Hid _ := Jf HIV.out.at';have HK3 : Hid _ := k3;have HK4 : Hid _ := k4;have HK1 : Hid _ := k1;have HK2 : Hid _ := k2;have HDI : Hid ((s.doS d).st.Inv) := Zhl HIV.out d;clear hDD hwd k1 k2 k3 k4 he;go_wp2_with fail;refine Zz [ex (.agg #[.slice b1 s.dk.blocks.length e1, .slice l1 s.dk.late.length m1, .slice i1 s.idx.length j1, .int .i64 s.next]), ((fun v w' => Yz (fun _ => True) w' v s.recs)), ex (.agg #[.int .i64 d.kind, .int .i64 d.key, .int .i64 d.num, .slice ad d.data.length c]), ((fun v w' => ∃ u, v = .tuple #[u, .int .i64 D.n, .int .i64 D.e] ∧ Yz (fun _ => True) w' u D.l)), ((fun v w' => ∃ u, v = .tuple #[u, .int .i64 D.n, .int .i64 D.e] ∧ Yz (fun _ => True) w' u D.l)), ((fun v w' => Yz (fun _ => True) w' v D.l)), ex (.int .i64 D.n), ex (.int .i64 D.e), ((fun v w' => Yz (fun _ => True) w' v D.l)), ex (.int .i64 D.n), ex (.int .i64 D.e)] (by kernel_rfl) (by kernel_rfl) ⟨Zf _, (fun _ _ _ hg h => Z3.grow h hg), Zf _, (fun _ _ _ hg h => h.imp fun _ x => ⟨x.1, Z3.grow x.2 hg⟩), (fun _ _ _ hg h => h.imp fun _ x => ⟨x.1, Z3.grow x.2 hg⟩), (fun _ _ _ hg h => Z3.grow h hg), Zf _, Zf _, (fun _ _ _ hg h => Z3.grow h hg), Zf _, Zf _, trivial⟩ ?_ ?_
  ·refine ⟨?_, ?_, ?_, ?_, ?_, ?_, ?_, ?_, ?_, ?_, ?_, trivial⟩
   ·refine Zb rfl fun a _ _ _ B A => ?_;have e5 : a (.tmp 5) = .pointer (some ⟨G, 0, none⟩) := Zq A 5 rfl;have hh := (B.block _ (Za hY5)).trans hY5;obtain ⟨z0, z1, z2, z3⟩ := Z7 hh rfl rfl rfl rfl;refine Zi ?_ rfl;clear A B hh;go_simp;all_goals go_arith
   ·refine Zb rfl fun a B _ _ C A => ?_;have e38 : a (.tmp 38) = _ := Zc A 0 rfl;refine Yi (f := 20) (args := #[.agg #[.slice b1 s.dk.blocks.length e1, .slice l1 s.dk.late.length m1, .slice i1 s.idx.length j1, .int .i64 s.next]]) ?_ ((Q6 (fun b => b < B.heap.size) s _ B (fun b h => h) (hS5.grow C).now (by have := Zak HIV.out.at'; omega)).mono ?_)
    ·clear A C;go_simp;all_goals go_arith
    ·rintro e w2 ⟨v2, rfl, hE, g2⟩;exact ⟨_, rfl, g2, Jn hE⟩
   ·refine Zb rfl fun a _ _ _ B A => ?_;have e3 : a (.tmp 3) = .pointer (some ⟨w.heap.size, 0, none⟩) := Zq A 3 rfl;have hh := (B.block _ (Za hD5)).trans hD5;obtain ⟨z0, z1, z2, z3⟩ := Z7 hh rfl rfl rfl rfl;refine Zi ?_ rfl;clear A B hh;go_simp;all_goals go_arith
   ·refine Zb rfl fun a B _ _ C A => ?_;have e39 : ((fun v B => Yz (fun _ => True) B v s.recs)) (a (.tmp 39)) B := Zc A 1 rfl;have e40 : a (.tmp 40) = _ := Zc A 2 rfl;replace e39 := Z3.caps e39 (by decide);refine Yi (f := 28) (args := #[a (.tmp 39), .agg #[.int .i64 d.kind, .int .i64 d.key, .int .i64 d.num, .slice ad d.data.length c]]) ?_ ((Zjt (fun b => True ∧ b < B.heap.size) s.recs d _ ad c B (fun b h => h.2) e39 ((V6 (hd5.grow C)).mono (fun b h => ⟨trivial, h⟩)) (by have := HR6.out; omega) HVR.out HKB.out.1 HKB.out.2.1).mono ?_)
    ·clear A C e39;go_simp;all_goals go_arith
    ·rw [← HDD.out];rintro e w2 ⟨v2, rfl, hE, g2⟩;exact ⟨_, rfl, g2, v2, rfl, Jn hE⟩
   ·refine Zb rfl fun a B _ _ _ A => ?_;have e : ((fun v B => ∃ u, v = .tuple #[u, .int .i64 D.n, .int .i64 D.e] ∧ Yz (fun _ => True) B u D.l)) (a (.tmp 41)) B := Zc A 3 rfl;exact Zn rfl e
   ·refine Zb rfl fun a B _ _ C A => ?_;have e37 : ((fun v B => ∃ u, v = .tuple #[u, .int .i64 D.n, .int .i64 D.e] ∧ Yz (fun _ => True) B u D.l)) (a (.tmp 37)) B := Zc A 4 rfl;obtain ⟨u, e37, hu⟩ := e37;refine Zi (v := u) ?_ hu;clear A C hu;go_simp;all_goals go_arith
   ·refine Zb rfl fun a B _ _ C A => ?_;have e37 : ((fun v B => ∃ u, v = .tuple #[u, .int .i64 D.n, .int .i64 D.e] ∧ Yz (fun _ => True) B u D.l)) (a (.tmp 37)) B := Zc A 4 rfl;obtain ⟨u, e37, hu⟩ := e37;refine Zi ?_ rfl;clear A C hu;go_simp;all_goals go_arith
   ·refine Zb rfl fun a B _ _ C A => ?_;have e37 : ((fun v B => ∃ u, v = .tuple #[u, .int .i64 D.n, .int .i64 D.e] ∧ Yz (fun _ => True) B u D.l)) (a (.tmp 37)) B := Zc A 4 rfl;obtain ⟨u, e37, hu⟩ := e37;refine Zi ?_ rfl;clear A C hu;go_simp;all_goals go_arith
   ·refine Zb rfl fun a B _ _ _ A => ?_;have e : ((fun v B => Yz (fun _ => True) B v D.l)) (a (.tmp 42)) B := Zc A 5 rfl;exact Yl rfl e
   ·exact Zb rfl fun a _ _ _ _ A => Yl rfl (Zc A 6 rfl)
   ·exact Zb rfl fun a _ _ _ _ A => Yl rfl (Zc A 7 rfl)
  ·intro vs w' hg ht;obtain ⟨(r38 : vs 0 = _), q39, (r40 : vs 2 = _), q41, q37, q42, (r43 : vs 6 = _), (r44 : vs 7 = _), q9, (r10 : vs 9 = _), (r11 : vs 10 = _), -⟩ := ht;simp only [Yc, Act.put, List.setIfInBounds_toArray, List.set_cons_zero, List.set_cons_succ, r38, r40, r43, r44, r10, r11];clear r38 r40 r43 r44 r10 r11;simp only [Nat.reduceAdd, Nat.zero_add] at q9 ⊢;obtain ⟨aw, cw, hvw⟩ := Z3.form q9;rw [hvw] at q9 ⊢;have hY6 := (hg.block _ (Za hY5)).trans hY5;have hD6 := (hg.block _ (Za hD5)).trans hD5;have hS6 := hS5.grow hg;have gw6 := gw5.trans hg;have hd6 := hd5.grow hg;clear hg q39 q41 q37 q42 hY5 hD5 hS5 gw5 hd5 hvw;generalize vs 1 = n1;generalize vs 3 = n3;generalize vs 4 = n4;generalize vs 5 = n5;obtain ⟨y0, y1, y2, y3⟩ := Z7 hY6 rfl rfl rfl rfl;obtain ⟨p0, p1, p2, p3⟩ := Z7 hD6 rfl rfl rfl rfl;go_wp2_with fail;refine (SD (fun b => b < w'.heap.size) s d _ ad c w' (fun b h => h) hS6.now (V6 hd6) HIV.out.at' hdd).mono ?_;generalize s.doS d = B at *;rintro r w7 ⟨v7, rfl, hS7, g7⟩;obtain ⟨b7, e7, l7, m7, i7, j7, hv7, -, -, -⟩ := hS7.form;subst hv7;have g8 := Zd w7 (.cells #[.slice b7 B.st.dk.blocks.length e7, .slice l7 B.st.dk.late.length m7, .slice i7 B.st.idx.length j7, .int .i64 B.st.next] 33);have hX8 := Zj w7 #[.slice b7 B.st.dk.blocks.length e7, .slice l7 B.st.dk.late.length m7, .slice i7 B.st.idx.length j7, .int .i64 B.st.next] 33;have hB8 := (hS7.grow g8).any;have hw8 := Z3.grow q9 (g7.trans g8);have gw8 := gw6.trans (g7.trans g8)
   clear y0 y1 y2 y3 p0 p1 p2 p3 hY6 hD6 hS6 gw6 hd6 q9 hS7 g7 g8;obtain ⟨x0, x1, x2, x3⟩ := Z7 hX8 rfl rfl rfl rfl;have c1 : (B.e == D.e) = true := by rw [HK1.out]; simp
   have c2 : (B.n == D.n) = true := by rw [HK2.out]; simp
   go_wp2_with fail;obtain ⟨X, hX⟩ : ∃ X, X = w7.heap.size := ⟨_, rfl⟩;rw [← hX] at hX8 x0 x1 x2 x3 ⊢;clear hX;generalize World.alloc w7 _ = W8 at *;refine (SR (fun b => b < W8.heap.size) B.st _ W8 (fun b h => h) hB8.now HDI.out.at').mono ?_;rintro r w9 ⟨v9, rfl, h9, g9⟩;obtain ⟨a9, c9, rfl⟩ := Z3.form h9;have hX9 := (g9.block _ (Za hX8)).trans hX8;have hB9 := hB8.grow g9;have hw9 := Z3.grow hw8 g9;have gw9 := gw8.trans g9;clear x0 x1 x2 x3 hX8 hB8 hw8 gw8 g9;go_wp2_with fail;refine (Za8 _ _ B.st.recs D.l _ _ w9 h9 hw9 (by have := Jf HDI.out.at'; omega) (by have := HDL.out; omega)).mono ?_;rw [HK3.out];rintro r wA ⟨rfl, gA⟩;have hXA := (gA.block _ (Za hX9)).trans hX9;have hBA := hB9.grow gA;have hwA := Z3.grow hw9 gA;have gwA := gw9.trans gA;clear hX9 hB9 hw9 gw9 gA h9;obtain ⟨x0, x1⟩ := Xz hXA rfl rfl;go_wp2_with fail;obtain ⟨vb, vl, vi, hvv, hbA, hlA, -⟩ := hBA.now;cases hvv;refine (SM (fun b => b < wA.heap.size) B.st.dk _ wA (fun b h => h) ⟨_, _, rfl, hbA, hlA⟩ (HDI.out.at'.ok.disk.mono (by omega))).mono ?_;have HMA : Hid ((Yy B.st.dk).At) := Vu HDI.out.at'.ok.disk;have HM6 : Hid ((Yy B.st.dk).recs.length ≤ 6) := Jf HMA.out;generalize Yy B.st.dk = M at *;rintro r wC ⟨vC, rfl, hC, gC⟩;obtain ⟨bC, eC, lC, mC, iC, jC, hvC, -, -, -⟩ := hC.form;subst hvC;have hwC := Z3.grow hwA gC;have gwC := gwA.trans gC;clear x0 x1 hXA hBA hwA gwA gC hbA hlA;go_wp2_with fail;refine (SR (fun b => b < wC.heap.size) M _ wC (fun b h => h) hC.any.now HMA.out).mono ?_;rintro r wD ⟨vD, rfl, hDr, gD⟩
   obtain ⟨aD, cD, rfl⟩ := Z3.form hDr;have hwD := Z3.grow hwC gD;have gwD := gwC.trans gD;clear hC hwC gwC gD;go_wp2_with fail;refine (Za8 _ _ M.recs D.l _ _ wD hDr hwD (by have := HM6.out; omega) (by have := HDL.out; omega)).mono ?_;rw [HK4.out];rintro r wE ⟨rfl, gE0⟩;have gE := gwD.trans gE0;clear hDr hwD gwD gE0;go_wp2_with fail;go_ret;exact ⟨rfl, gE⟩
 ·have d1 : (E == 0) = false := by simp [he]
  have hwr : Yj d ≠ 0 := by rw [← HE.out]; exact he
  have HDW : Hid _ := Zu0 (s := s) hwr;obtain ⟨y0, y1, y2, y3⟩ := Z7 hY5 rfl rfl rfl rfl;obtain ⟨p0, p1, p2, p3⟩ := Z7 hD5 rfl rfl rfl rfl;clear he hwr;go_wp2_with fail;refine (SD (fun b => b < w4.heap.size) s d _ ad c w4 (fun b h => h) hS5.now (V6 hd5) HIV.out.at' hdd).mono ?_;rw [HDW.out.1, HDW.out.2, ← HE.out];rintro r w7 ⟨v7, rfl, hS7, g7⟩;obtain ⟨b7, e7, l7, m7, i7, j7, hv7, -, -, -⟩ := hS7.form;subst hv7;generalize (s.doS d).st = Q at *;have g8 := Zd w7 (.cells #[.slice b7 Q.dk.blocks.length e7, .slice l7 Q.dk.late.length m7, .slice i7 Q.idx.length j7, .int .i64 Q.next] 33);have hD8 := ((g7.trans g8).block _ (Za hD5)).trans hD5;have gw8 := gw5.trans (g7.trans g8);clear y0 y1 y2 y3 p0 p1 p2 p3 hY5 hD5 hS5 gw5 hd5 hS7 g7 g8 HDW;obtain ⟨p0, p1, p2, p3⟩ := Z7 hD8 rfl rfl rfl rfl;go_wp2_with fail;generalize World.alloc w7 _ = W8 at *;refine (Zby d ad c W8 hdd).mono ?_;rw [← HE.out];rintro r w9 ⟨rfl, g9⟩;have gE := gw8.trans g9;clear p0 p1 p2 p3 hD8 gw8 g9;go_wp2_with fail;go_ret;exact ⟨rfl, gE⟩
theorem Zxo (g j : Nat) : (⟨g, 0, none⟩ : Addr).add j = ⟨g, j, none⟩ := by
 unfold Addr.add;split
 ·rename_i h; rw [h]
 ·rw [Nat.zero_add]
theorem Zh0 (AL : Zfv) (SG : Zp7) (SL : Zki) (l : List Sp) (most : Int) (v : Value) (w : World) (hl : K7 (fun b => b < w.heap.size) w v l) (hm : l.length ≤ 140737488355328) (hdl : ∀ x ∈ l, x.deed.data.length ≤ 140737488355328) :
  Calls Tryz.prog 5 #[v, .int .i64 most] w fun r w' => r = .returned (.bool true) ∧ Zo w w' := by
 obtain ⟨ao, cp, rfl⟩ := hl.form;go_enter Tryz.func5, Tryz.ntmps5;go_wp2_with fail;refine (AL _).mono ?_;rintro r w1 ⟨rfl, g1⟩;by_cases h1 : most < 1
 ·go_wp2_with fail;go_ret;exact ⟨rfl, g1⟩
 ·by_cases h2 : 100 < most
  ·go_wp2_with fail;go_ret;exact ⟨rfl, g1⟩
  ·go_wp2_with fail;refine (Zip (fun b => b < w.heap.size) l _ w1 (fun b h => Nat.lt_of_lt_of_le h g1.size) (hl.grow g1) hm hdl).mono ?_;have HAT : Hid ((Vc (l.take 100)).1.At) := Zpn _ _ Zbb;generalize Vc (l.take 100) = P at *;obtain ⟨s, es, ns⟩ := P;simp only at HAT ⊢;rintro r w2 ⟨v2, ev, nv, rfl, hS2, he2, hn2, g2⟩;obtain ⟨b1, e1, l1, m1, i1, j1, hv2, -, -, -⟩ := hS2.form;subst hv2;obtain ⟨ae, ce, rfl⟩ := Z4 he2;obtain ⟨an, cn, rfl⟩ := Z4 hn2;have g3 := Zd w2 (.cells #[.slice b1 s.dk.blocks.length e1, .slice l1 s.dk.late.length m1, .slice i1 s.idx.length j1, .int .i64 s.next] 33);have hY3 := Zj w2 #[.slice b1 s.dk.blocks.length e1, .slice l1 s.dk.late.length m1, .slice i1 s.idx.length j1, .int .i64 s.next] 33;have hS3 := (hS2.grow g3).any;have gw3 := g1.trans (g2.trans g3);clear g1 g2 g3 hS2 he2 hn2;obtain ⟨K, hK⟩ : ∃ K, K = Jp s.recs 255 := ⟨_, rfl⟩;have HK : Hid _ := hK;have hK6 : K.length ≤ 6 := by rw [hK]; exact Nat.le_trans (Zrk _ _) (Jf HAT.out)
   have HKI : Hid ((∀ x ∈ K, 1 ≤ x ∧ x ≤ 255 ∧ (Q8 s.recs x).e = 0) ∧ K.Pairwise (· < ·)) := by rw [hK]; exact Zdx s.recs 255
   clear hK;go_wp2_with fail;obtain ⟨G, hG⟩ : ∃ G, G = w2.heap.size := ⟨_, rfl⟩;rw [← hG] at hY3 ⊢;clear hG;generalize World.alloc w2 _ = W at *;obtain ⟨ii, hifi, hzi0, hzi1, hzi2⟩ := info_parts Zcp;have HF0 : Hid (K.filter (fun x => decide ((1 : Int) ≤ x)) = K.drop 0) := by show _ = _; rw [List.drop_zero]; exact Zl8 fun x hx => (HKI.out.1 x hx).1
   go_loopw [8, 9, 30] (fun av fv i wr => ∃ (j n : Nat) (fr : Int), j ≤ n ∧ i = .int .i64 (j : Int) ∧ n ≤ K.length ∧ fv = .int .i64 fr ∧ Hid (K.filter (fun x => decide (fr ≤ x)) = K.drop n) ∧ wr.ownsRow W.heap.size 3 1 av n ((K.take n).map iv) ∧ Zo W wr) (fun _ _ i _ => 9 - (intOf i).toNat)
   case atStart => exact ⟨0, 0, 1, by omega, rfl, by omega, rfl, HF0, World.ownsRow_nil _ _ _ _, Zo.refl _⟩
   case round =>
    obtain ⟨j, n, fr, hjn, rfl, hnK, rfl, HF, hrow, hgr⟩ := hrel;obtain ⟨aa, ca, rfl⟩ := Z4 hrow;have hYr := (hgr.block _ (Za hY3)).trans hY3;obtain ⟨y0, y1, y2, y3⟩ := Z7 hYr rfl rfl rfl rfl;have hj9 : (j : Int) < 9 := by omega
    go_wp2_with fail;refine (SL (fun b => b < wr.heap.size) s fr most _ wr (fun b h => h) (hS3.grow hgr).now HAT.out).mono ?_;have hlist : Xr s.recs fr most 255 = (K.drop n).take most.toNat := by rw [Zco _ _ _ (by omega), ← HK.out, HF.out]
    rw [hlist];obtain ⟨p, hp⟩ : ∃ p, p = (K.drop n).take most.toNat := ⟨_, rfl⟩;rw [← hp];have HP : Hid _ := hp;clear hp hlist;rintro r w4 ⟨v4, rfl, hp4, g4⟩;have hgr4 := hgr.trans g4;have hrow4 := Z6 hrow g4;have hpl : p.length = min most.toNat (K.length - n) := by rw [HP.out]; simp
    by_cases h0 : p.length = 0
    ·obtain rfl : n = K.length := by omega
     obtain ⟨ap, cpp, rfl⟩ := Z4 hp4;rw [h0] at hp4 ⊢;rw [List.take_length] at hrow4;have hY4 := (g4.block _ (Za hYr)).trans hYr;clear y0 y1 y2 y3 hYr hrow hgr g4 hp4 hpl HF HF0 hj9;obtain ⟨y0, y1, y2, y3⟩ := Z7 hY4 rfl rfl rfl rfl;go_wp2_with fail;refine (SL (fun b => b < w4.heap.size) s 1 1000 _ w4 (fun b h => h) (hS3.grow hgr4).now HAT.out).mono ?_;have hall : Xr s.recs 1 1000 255 = K := by
      rw [Zco _ _ _ (by omega), ← HK.out, Zl8 (fun x hx => (HKI.out.1 x hx).1)];exact List.take_of_length_le (by show K.length ≤ 1000; omega)
     rw [hall];clear hall;rintro r w5 ⟨v5, rfl, hp5, g5⟩;obtain ⟨a5, c5, rfl⟩ := Z4 hp5;have hY5 := (g5.block _ (Za hY4)).trans hY4;have hrow5 := Z6 hrow4 g5;have hgr5 := hgr4.trans g5;clear y0 y1 y2 y3 hY4 hrow4 hgr4 g5;go_wp2_with fail;obtain ⟨wo, rfl⟩ : ∃ wo : World, wo = wr := ⟨_, rfl⟩;go_loopw [63] (fun i wq => ∃ k : Nat, k ≤ K.length ∧ i = .int .i64 (k : Int) ∧ Zo w5 wq) (fun i _ => K.length - (intOf i).toNat)
     case atStart => exact ⟨0, by omega, rfl, Zo.refl _⟩
     case round =>
      obtain ⟨k, hk, rfl, hgq⟩ := hrel;obtain ⟨wq, rfl⟩ : ∃ wq : World, wq = wr := ⟨_, rfl⟩;have hYq := (hgq.block _ (Za hY5)).trans hY5;have gwq := hgr5.trans hgq;by_cases hlt : k < K.length
      ·obtain ⟨go, co, ho, -, -⟩ := Zdu hp5 (by omega);cases ho;obtain ⟨ga, cga, hoa, -, -⟩ := Zdu hrow5 (by omega);cases hoa;have o0 : wq.cell? ⟨go, k, none⟩ = some (.int .i64 K[k]) := by
        rw [(Z6 hp5 hgq).cellAt k (by omega)]; exact Zpx hlt
       obtain ⟨y0, y1, y2, y3⟩ := Z7 hYq rfl rfl rfl rfl;have HGE : Hid ((Q8 s.recs K[k]).e = 0) := (HKI.out.1 _ (List.getElem_mem hlt)).2.2;have HA0 : Hid (∀ w', Zo wq w' → w'.cell? ⟨ga, k, none⟩ = some (.int .i64 K[k])) := fun w' hg' => by
        rw [(Z6 (Z6 hrow5 hgq) hg').cellAt k (by omega)]; exact Zpx hlt
       generalize K[k] = x at *;go_wp2_with fail;refine (SG (fun b => b < wq.heap.size) s x _ wq (fun b h => h) (hS3.grow gwq).now HAT.out).mono ?_;rw [HGE.out];generalize (Q8 s.recs x).data = dt at *;rintro r w6 ⟨u6, rfl, hu6, g6⟩;obtain ⟨a6, c6, rfl⟩ := hu6.form;have o1 := HA0.out w6 g6;have hgq6 := hgq.trans g6;clear y0 y1 y2 y3 hYq o0 hu6 g6 hgq gwq;go_wp2_with fail;go_roundw
       case rel => exact ⟨k + 1, by omega, by go_num, hgq6⟩
       case measure => simp [intOf]; omega
      ·have gE := gw3.trans gwq;clear hYq;go_wp2_with fail;go_ret;exact ⟨rfl, gE⟩
    ·obtain ⟨gp, cpp, rfl, hgp1, hgp2⟩ := Zdu hp4 (by omega);obtain ⟨q, hq⟩ : ∃ q, p.length = q + 1 := ⟨p.length - 1, by omega⟩;have HPQ : Hid (K.take (n + (q + 1)) = K.take n ++ p) := by
      show _ = _;rw [List.take_add, ← hq, HP.out]
      congr 1
      rw [List.length_take, List.length_drop];by_cases e : most.toNat ≤ K.length - n
      ·rw [Nat.min_eq_left e]
      ·rw [Nat.min_eq_right (by omega), List.take_of_length_le (by simp), List.take_of_length_le (by simp; omega)]
     have hnq : n + (q + 1) ≤ K.length := by omega
     have hpm : ((q : Int) + 1) ≤ most := by omega
     have hlast : p[q]'(by omega) = K[n + q]'(by omega) := by
      have h1 : (K.take (n + (q + 1)))[n + q]'(by simp; omega) = K[n + q]'(by omega) := List.getElem_take;rw [← h1];simp only [HPQ.out];rw [List.getElem_append_right (by simp; omega)]
      congr 1
      simp; omega
     have hbd := HKI.out.1 _ (List.getElem_mem (show n + q < K.length by omega));have HFN : Hid (K.filter (fun x => decide (K[n + q]'(by omega) + 1 ≤ x)) = K.drop (n + (q + 1))) := by
      have h := Zru HKI.out.2 (n := n + (q + 1)) (by omega) hnq;exact h
     have hpc : ∀ (t : Nat) u, (p.map iv)[t]? = some u → w4.cell? ((⟨gp, 0, none⟩ : Addr).add t) = some u := fun t u ht => by
      have htl : t < p.length := by
       rcases Nat.lt_or_ge t p.length with h | h
       ·exact h
       ·rw [List.getElem?_eq_none (by simpa using h)] at ht; cases ht
      rw [Zxo, hp4.cellAt t (by omega)]; exact ht
     have hcq : w4.cell? ⟨gp, q, none⟩ = some (.int .i64 (K[n + q]'(by omega))) := by
      rw [hp4.cellAt q (by omega), Zpx (by omega), hlast]
     have hne : some gp ≠ (Value.slice aa n ca).ownBlock := fun e => by
      have := (hrow.lt gp e.symm).2; omega
     have HHK : Hid _ := hbd.2.2;have hb1 := hbd.1;have hb2 := hbd.2.1;generalize K[n + q]'(by omega) = x at *;rw [hq] at hp4 ⊢;have hml : (p.map iv).length = (q + 1) * 1 := by simp [hq]
     clear y0 y1 y2 y3 hYr hbd hlast hpl h0 HF HF0 hp4;go_wp2_with (at_builtin; refine wpList_append_own _ rfl (.tmp 43) (.tmp 44) 36 rfl W.heap.size 3 ii (.int .i64 0) 1 8 Tryz.underlying36 hifi hzi0 hzi1 hzi2 rfl (by decide) (.slice aa n ca) _ _ rfl hrow4 ⟨gp, 0, none⟩ (q + 1) cpp (p.map iv) rfl hml hpc (by intro u hu; obtain ⟨z, _, rfl⟩ := List.mem_map.1 hu; rfl) (by unfold maxLen; omega) (by omega) hgr4.size ?_; intro v5 w5 hown5 hgrow5 _; have hg5 : Zo W w5 := Z8 hgr4 hgrow5 (fun k hk => (hrow4.lt k hk).1); have hc5 : w5.cell? ⟨gp, q, none⟩ = some (.int .i64 x) := (by rw [← hcq]; unfold World.cell?; rw [hgrow5.block gp hgp2 hne]); have hrow5 : w5.ownsRow W.heap.size 3 1 v5 (n + (q + 1)) ((K.take (n + (q + 1))).map iv) := (by rw [HPQ.out, List.map_append]; exact hown5); have hsl := Z4 hrow5; obtain ⟨a5, c5, hv5⟩ := hsl; subst hv5; clear hgrow5 hown5 hrow4 hpc hcq hgr4);go_roundw
     case rel => exact ⟨j + 1, n + (q + 1), x + 1, by omega, by go_num, hnq, by go_num, HFN, hrow5, hg5⟩
     case measure => simp [intOf]; omega
end Go.Proofs.YtpdnapbchcdhlabGreat
