import Derived.Test.YtpdnapbchcdhlabGreatRStepC
import Derived.Lib.SlBytesConst
set_option maxHeartbeats 8000000
namespace Go.Proofs.YtpdnapbchcdhlabGreat
set_option maxRecDepth 100000
open Go.RowKit
open Plain Reg
theorem Zjl (AL : Zfv) (SB : Zfu) (SM : Zd7) (SR : Za4) (l : List Sp) (d : Dd) (bits : Int) (v : Value) (ad : Option Addr) (c : Nat) (w : World) (hl : K7 (fun b => b < w.heap.size) w v l) (hd : Z1 (fun b => b < w.heap.size) w (.slice ad d.data.length c) d.data) (hm : l.length ≤ 140737488355328) (hdl : ∀ x ∈ l, x.deed.data.length ≤ 140737488355328) (hdd : d.data.length ≤ 140737488355328) :
  Calls Tryz.prog 6 #[v, .agg #[.int .i64 d.kind, .int .i64 d.key, .int .i64 d.num, .slice ad d.data.length c], .int .i64 bits] w fun r w' => r = .returned (.bool true) ∧ Zo w w' := by
 obtain ⟨ao, cp, rfl⟩ := hl.form;have g0 := Zd w (.cells #[.int .i64 d.kind, .int .i64 d.key, .int .i64 d.num, .slice ad d.data.length c] 25);have hD0 := Zj w #[.int .i64 d.kind, .int .i64 d.key, .int .i64 d.num, .slice ad d.data.length c] 25;go_enter Tryz.func6, Tryz.ntmps6;go_wp2_with fail;refine (AL _).mono ?_;rintro r w1 ⟨rfl, g1⟩;have hD1 := (g1.block _ (Za hD0)).trans hD0;have gw1 := g0.trans g1;clear g0 g1 hD0;go_wp2_with fail;refine (Ze9 (fun b => b < w.heap.size) l _ w1 (fun b h => Nat.lt_of_lt_of_le h gw1.size) (hl.grow gw1) hm hdl).mono ?_;have HIV : Hid ((Kf 100 Yw l).Inv) := Zdg 100 Yw l Zcn;generalize Kf 100 Yw l = s at *;rintro r w2 ⟨v2, rfl, hS2, g2⟩;obtain ⟨b1, e1, l1, m1, i1, j1, hv2, -, -, -⟩ := hS2.form;subst hv2;have g3 := Zd w2 (.cells #[.slice b1 s.dk.blocks.length e1, .slice l1 s.dk.late.length m1, .slice i1 s.idx.length j1, .int .i64 s.next] 33);have hY3 := Zj w2 #[.slice b1 s.dk.blocks.length e1, .slice l1 s.dk.late.length m1, .slice i1 s.idx.length j1, .int .i64 s.next] 33;have hS3 := (hS2.grow g3).any;have hD3 := ((g2.trans g3).block _ (Za hD1)).trans hD1;have gw3 := gw1.trans (g2.trans g3);have hd3 := V6 (hd.grow gw3);clear hS2 g2 hD1 gw1 g3;obtain ⟨y0, y1, y2, y3⟩ := Z7 hY3 rfl rfl rfl rfl;obtain ⟨p0, p1, p2, p3⟩ := Z7 hD3 rfl rfl rfl rfl;go_wp2_with fail;obtain ⟨G, hG⟩ : ∃ G, G = w2.heap.size := ⟨_, rfl⟩;rw [← hG] at hY3 y0 y1 y2 y3 ⊢;clear hG;generalize World.alloc w2 _ = w3 at *
 refine (SB (fun b => b < w3.heap.size) s d _ ad c w3 (fun b h => h) hS3.now hd3 HIV.out.at' hdd).mono ?_;have HBE : Hid ((s.begin d).e ≠ 0 → (s.begin d).st = s) := fun h => (Zez h).1
 have HFN : Hid ((s.begin d).st.dk.Fine 2) := (K4 HIV.out.at'.ok).disk;have HHM : Hid ((s.begin d).e = 0 → Yj d = 0 ∧ ((s.begin d).st.dk.keep bits).Good ∧ ((Yy ((s.begin d).st.dk.keep bits)).recs = s.recs ∨ Vr (Yy ((s.begin d).st.dk.keep bits)).recs (doR s.recs d).l = true)) := fun h => ⟨(Zht h).1, Zhd HIV.out h bits⟩
 generalize s.begin d = B at *;rintro r w4 ⟨v4, rfl, hS4, g4⟩;obtain ⟨b5, e5, l5, m5, i5, j5, hv4, u1, u2, -⟩ := hS4.form;subst hv4;have g5 := Zd w4 (.cells #[.slice b5 B.st.dk.blocks.length e5, .slice l5 B.st.dk.late.length m5, .slice i5 B.st.idx.length j5, .int .i64 B.st.next] 33);have hX5 := Zj w4 #[.slice b5 B.st.dk.blocks.length e5, .slice l5 B.st.dk.late.length m5, .slice i5 B.st.idx.length j5, .int .i64 B.st.next] 33;have gg := g4.trans g5;have hY5 := (gg.block _ (Za hY3)).trans hY3;have hD5 := (gg.block _ (Za hD3)).trans hD3;have hS5 := hS3.grow gg;have hB5 := (hS4.grow g5).any;have gw5 := gw3.trans gg;have hd5 := hd.grow gw5;clear y0 y1 y2 y3 p0 p1 p2 p3 g4 g5 gg hS4 hS3 hY3 hD3 gw3 hd3 u1 u2;by_cases he : B.e = 0
 ·obtain ⟨hwd, hgood, hor⟩ := HHM.out he;have d1 : (B.e == 0) = true := by simp [he]
  have hkb := Kk hwd;have hvr := Zp6 HIV.out.at';have hr6 := Jf HIV.out.at';have HVR : Hid _ := hvr;have HKB : Hid _ := hkb;have HR6 : Hid _ := hr6;have HOR : Hid _ := hor;have HGD : Hid _ := hgood;obtain ⟨D, hDD⟩ : ∃ D, D = doR s.recs d := ⟨_, rfl⟩;have HDD : Hid _ := hDD;have HDL : Hid (D.l.length ≤ 7) := by rw [hDD]; have := Zp3 s.recs d; exact Nat.le_trans this (by omega)
  clear hkb hvr hr6 hor hgood hDD hwd he HHM HBE;go_wp2_with fail;obtain ⟨X, hX⟩ : ∃ X, X = w4.heap.size := ⟨_, rfl⟩;rw [← hX] at hX5 ⊢;clear hX;generalize World.alloc w4 _ = W at *;refine Zz [ex (.agg #[.slice b1 s.dk.blocks.length e1, .slice l1 s.dk.late.length m1, .slice i1 s.idx.length j1, .int .i64 s.next]), ((fun v w' => Yz (fun _ => True) w' v s.recs)), ex (.agg #[.int .i64 d.kind, .int .i64 d.key, .int .i64 d.num, .slice ad d.data.length c]), ((fun v w' => ∃ u, v = .tuple #[u, .int .i64 D.n, .int .i64 D.e] ∧ Yz (fun _ => True) w' u D.l)), ((fun v w' => ∃ u, v = .tuple #[u, .int .i64 D.n, .int .i64 D.e] ∧ Yz (fun _ => True) w' u D.l)), ((fun v w' => Yz (fun _ => True) w' v D.l)), ex (.int .i64 D.n), ex (.int .i64 D.e), ((fun v w' => Yz (fun _ => True) w' v D.l)), ex (.int .i64 D.n), ex (.int .i64 D.e)] (by kernel_rfl) (by kernel_rfl) ⟨Zf _, (fun _ _ _ hg h => Z3.grow h hg), Zf _, (fun _ _ _ hg h => h.imp fun _ x => ⟨x.1, Z3.grow x.2 hg⟩), (fun _ _ _ hg h => h.imp fun _ x => ⟨x.1, Z3.grow x.2 hg⟩), (fun _ _ _ hg h => Z3.grow h hg), Zf _, Zf _, (fun _ _ _ hg h => Z3.grow h hg), Zf _, Zf _, trivial⟩ ?_ ?_
  ·refine ⟨?_, ?_, ?_, ?_, ?_, ?_, ?_, ?_, ?_, ?_, ?_, trivial⟩
   ·refine Zb rfl fun a _ _ _ B A => ?_;have e7 : a (.tmp 7) = .pointer (some ⟨G, 0, none⟩) := Zq A 7 rfl;have hh := (B.block _ (Za hY5)).trans hY5;obtain ⟨z0, z1, z2, z3⟩ := Z7 hh rfl rfl rfl rfl;refine Zi ?_ rfl;clear A B hh;go_simp;all_goals go_arith
   ·refine Zb rfl fun a B _ _ C A => ?_;have e32 : a (.tmp 32) = _ := Zc A 0 rfl;refine Yi (f := 20) (args := #[.agg #[.slice b1 s.dk.blocks.length e1, .slice l1 s.dk.late.length m1, .slice i1 s.idx.length j1, .int .i64 s.next]]) ?_ ((Q6 (fun b => b < B.heap.size) s _ B (fun b h => h) (hS5.grow C).now (by have := Zak HIV.out.at'; omega)).mono ?_)
    ·clear A C;go_simp;all_goals go_arith
    ·rintro e w2 ⟨v2, rfl, hE, g2⟩;exact ⟨_, rfl, g2, Jn hE⟩
   ·refine Zb rfl fun a _ _ _ B A => ?_;have e4 : a (.tmp 4) = .pointer (some ⟨w.heap.size, 0, none⟩) := Zq A 4 rfl;have hh := (B.block _ (Za hD5)).trans hD5;obtain ⟨z0, z1, z2, z3⟩ := Z7 hh rfl rfl rfl rfl;refine Zi ?_ rfl;clear A B hh;go_simp;all_goals go_arith
   ·refine Zb rfl fun a B _ _ C A => ?_;have e33 : ((fun v B => Yz (fun _ => True) B v s.recs)) (a (.tmp 33)) B := Zc A 1 rfl;have e34 : a (.tmp 34) = _ := Zc A 2 rfl;replace e33 := Z3.caps e33 (by decide);refine Yi (f := 28) (args := #[a (.tmp 33), .agg #[.int .i64 d.kind, .int .i64 d.key, .int .i64 d.num, .slice ad d.data.length c]]) ?_ ((Zjt (fun b => True ∧ b < B.heap.size) s.recs d _ ad c B (fun b h => h.2) e33 ((V6 (hd5.grow C)).mono (fun b h => ⟨trivial, h⟩)) (by have := HR6.out; omega) HVR.out HKB.out.1 HKB.out.2.1).mono ?_)
    ·clear A C e33;go_simp;all_goals go_arith
    ·rw [← HDD.out];rintro e w2 ⟨v2, rfl, hE, g2⟩;exact ⟨_, rfl, g2, v2, rfl, Jn hE⟩
   ·refine Zb rfl fun a B _ _ _ A => ?_;have e : ((fun v B => ∃ u, v = .tuple #[u, .int .i64 D.n, .int .i64 D.e] ∧ Yz (fun _ => True) B u D.l)) (a (.tmp 35)) B := Zc A 3 rfl;exact Zn rfl e
   ·refine Zb rfl fun a B _ _ C A => ?_;have e31 : ((fun v B => ∃ u, v = .tuple #[u, .int .i64 D.n, .int .i64 D.e] ∧ Yz (fun _ => True) B u D.l)) (a (.tmp 31)) B := Zc A 4 rfl;obtain ⟨u, e31, hu⟩ := e31;refine Zi (v := u) ?_ hu;clear A C hu;go_simp;all_goals go_arith
   ·refine Zb rfl fun a B _ _ C A => ?_;have e31 : ((fun v B => ∃ u, v = .tuple #[u, .int .i64 D.n, .int .i64 D.e] ∧ Yz (fun _ => True) B u D.l)) (a (.tmp 31)) B := Zc A 4 rfl;obtain ⟨u, e31, hu⟩ := e31;refine Zi ?_ rfl;clear A C hu;go_simp;all_goals go_arith
   ·refine Zb rfl fun a B _ _ C A => ?_;have e31 : ((fun v B => ∃ u, v = .tuple #[u, .int .i64 D.n, .int .i64 D.e] ∧ Yz (fun _ => True) B u D.l)) (a (.tmp 31)) B := Zc A 4 rfl;obtain ⟨u, e31, hu⟩ := e31;refine Zi ?_ rfl;clear A C hu;go_simp;all_goals go_arith
   ·refine Zb rfl fun a B _ _ _ A => ?_;have e : ((fun v B => Yz (fun _ => True) B v D.l)) (a (.tmp 36)) B := Zc A 5 rfl;exact Yl rfl e
   ·exact Zb rfl fun a _ _ _ _ A => Yl rfl (Zc A 6 rfl)
   ·exact Zb rfl fun a _ _ _ _ A => Yl rfl (Zc A 7 rfl)
  ·intro vs w' hg ht;obtain ⟨(r32 : vs 0 = _), q33, (r34 : vs 2 = _), q35, q31, q36, (r37 : vs 6 = _), (r38 : vs 7 = _), q11, (r12 : vs 9 = _), (r13 : vs 10 = _), -⟩ := ht;simp only [Yc, Act.put, List.setIfInBounds_toArray, List.set_cons_zero, List.set_cons_succ, r32, r34, r37, r38, r12, r13];clear r32 r34 r37 r38 r12 r13;simp only [Nat.reduceAdd, Nat.zero_add] at q11 ⊢;obtain ⟨aw, cw, hvw⟩ := Z3.form q11;rw [hvw] at q11 ⊢;have hX6 := (hg.block _ (Za hX5)).trans hX5;have hY6 := (hg.block _ (Za hY5)).trans hY5;have hS6 := hS5.grow hg;have hB6 := hB5.grow hg;have gw6 := gw5.trans hg;clear hg q33 q35 q31 q36 hX5 hY5 hD5 hS5 hB5 gw5 hd5 hvw;generalize vs 1 = n1;generalize vs 3 = n3;generalize vs 4 = n4;generalize vs 5 = n5;obtain ⟨x0, x1⟩ := Xz hX6 rfl rfl;go_wp2_with fail;obtain ⟨vb, vl, vi, hvv, hb6, hl6, -⟩ := hB6.now;cases hvv;refine (Zfo (fun b => b < w'.heap.size) 2 B.st.dk bits _ w' (fun b h => h) ⟨_, _, rfl, hb6, hl6⟩ HFN.out (by omega)).mono ?_;obtain ⟨KD, hKD⟩ : ∃ KD, KD = B.st.dk.keep bits := ⟨_, rfl⟩;rw [← hKD] at HOR HGD ⊢;clear hKD;rintro r w7 ⟨v7, rfl, h7, g7⟩;obtain ⟨b7, e7, l7, m7, rfl, h7b, h7l⟩ := h7.form;have hY7 := (g7.block _ (Za hY6)).trans hY6;have hS7 := hS6.grow g7;have hw7 := Z3.grow q11 g7;have gw7 := gw6.trans g7;clear x0 x1 hX6 hY6 hS6 hB6 hb6 hl6 gw6 g7 h7 q11;go_wp2_with fail
   refine (SM (fun b => b < w7.heap.size) KD _ w7 (fun b h => h) ⟨_, _, rfl, h7b.capd.mono (fun b h => h.2), h7l.capd.mono (fun b h => h.2)⟩ (HGD.out.fine.mono (by omega))).mono ?_;have HMA : Hid ((Yy KD).At) := Vu HGD.out.fine;have HM6 : Hid ((Yy KD).recs.length ≤ 6) := Jf HMA.out;generalize Yy KD = M at *;rintro r w8 ⟨v8, rfl, h8, g8⟩;obtain ⟨b8, e8, l8, m8, i8, j8, hv8, -, -, -⟩ := h8.form;subst hv8;have hY8 := (g8.block _ (Za hY7)).trans hY7;have hS8 := hS7.grow g8;have hw8 := Z3.grow hw7 g8;have gw8 := gw7.trans g8;clear hY7 hS7 hw7 gw7 g8 h7b h7l;go_wp2_with fail;refine (SR (fun b => b < w8.heap.size) M _ w8 (fun b h => h) h8.any.now HMA.out).mono ?_;rintro r w9 ⟨v9, rfl, h9, g9⟩;obtain ⟨a9, c9, rfl⟩ := Z3.form h9;have hY9 := (g9.block _ (Za hY8)).trans hY8;have hS9 := hS8.grow g9;have hw9 := Z3.grow hw8 g9;have gw9 := gw8.trans g9;have hm9 := Jn h9;clear hY8 hS8 hw8 gw8 g9 h8 h9;obtain ⟨y0, y1, y2, y3⟩ := Z7 hY9 rfl rfl rfl rfl;go_wp2_with fail;refine (Q6 (fun b => b < w9.heap.size) s _ w9 (fun b h => h) hS9.now (by have := Zak HIV.out.at'; omega)).mono ?_;rintro r wA ⟨vA, rfl, hA, gA⟩;obtain ⟨aA, cA, rfl⟩ := Z3.form hA;have hwA := Z3.grow hw9 gA;have hmA := Z3.grow hm9 gA;have gwA := gw9.trans gA;clear y0 y1 y2 y3 hY9 hS9 hw9 gw9 gA hm9;go_wp2_with fail;refine (Za8 _ _ M.recs s.recs _ _ wA hmA hA (by have := HM6.out; omega) (by have := HR6.out; omega)).mono ?_;by_cases hsr : Vr M.recs s.recs = true
   ·rw [hsr];rintro r wB ⟨rfl, gB⟩;have gE := gwA.trans gB;clear hwA hmA gwA gB hA hsr;go_wp2_with fail;go_ret;exact ⟨rfl, gE⟩
   ·have hsw : Vr M.recs D.l = true := by
     rcases HOR.out with h | h
     ·rw [h] at hsr; exact absurd (J5 _) hsr
     ·rw [HDD.out]; exact h
    have hsf : Vr M.recs s.recs = false := by simpa using hsr
    rw [hsf];rintro r wB ⟨rfl, gB⟩;have hwB := Z3.grow hwA gB;have hmB := Z3.grow hmA gB;have gwB := gwA.trans gB;clear hwA hmA gwA gB hA hsr hsf;go_wp2_with fail;refine (Za8 _ _ M.recs D.l _ _ wB hmB hwB (by have := HM6.out; omega) (by have := HDL.out; omega)).mono ?_;rw [hsw];rintro r wC ⟨rfl, gC⟩;have gE := gwB.trans gC;clear hwB hmB gwB gC hsw;go_wp2_with fail;go_ret;exact ⟨rfl, gE⟩
 ·have HST : Hid (B.st = s) := HBE.out he;have d1 : (B.e == 0) = false := by simp [he]
  obtain ⟨y0, y1, y2, y3⟩ := Z7 hY5 rfl rfl rfl rfl;obtain ⟨x0, x1, x2, x3⟩ := Z7 hX5 rfl rfl rfl rfl;go_wp2_with fail;refine (Ko B.st s _ _ _ _ _ hB5 hS5 (by rw [HFN.out.len]; omega) (by have := HFN.out.few; omega) (by rw [HST.out]; have := Zak HIV.out.at'; omega)).mono ?_;have hsm : B.st.same s = true := by rw [HST.out]; exact St.same_refl s
  rw [hsm];rintro r w6 ⟨rfl, g6⟩;have gE := gw5.trans g6;clear y0 y1 y2 y3 x0 x1 x2 x3 hX5 hY5 hD5 hS5 hB5 hd5 g6;go_wp2_with fail;go_ret;exact ⟨rfl, gE⟩
def dS : Dd := ⟨1, 7, 0, [97, 98]⟩
def rS : Rec := ⟨2, 7, 1, [97, 98]⟩
theorem Zsq : Yj dS = 0 := by decide
theorem Zzc : doR [] dS = ⟨[rS], 1, 0⟩ := rfl
theorem Zjx : Yw.idx = [] := by
 rw [Zcn.idx];cases h : Ye Yw.dk 6 with
 | nil => rfl
 | cons x l =>
  exfalso;have hx : x ∈ Ye Yw.dk 6 := by rw [h]; simp
  obtain ⟨p, hp, hk, -⟩ := (Q9 _ _ 6).1 hx;have hd : Yw.dk = Dk.new := by show Dk.new.keep 0 = _; exact Zgv.keep0
  rw [hd] at hk;have : ∀ q : Fin 6, (Dk.new.tell ((q.val : Nat) : Int)).kind = 1 := by decide +kernel
  exact hk (this ⟨p, hp⟩)
theorem Zuf : Yw.dk = Dk.new := Zgv.keep0
theorem Zue : Yw.recs = [] := by unfold St.recs; rw [Zjx]; rfl
theorem Zd6 : Yw.begin dS = ⟨⟨Dk.new.pairD 0 rS, [⟨rS, 0⟩], 0⟩, 1, 0⟩ := by
 unfold St.begin;rw [Zue, Zjx, Zzc, Zuf, if_neg (by rw [Zsq]; simp), if_neg (by simp), if_neg (by decide)];rfl
theorem Zhm : (Yw.doS dS).e = 0 ∧ (Yw.doS dS).n = 1 ∧ (Yw.doS dS).st.recs = [rS] ∧ (Yw.doS dS).st.idx = [⟨rS, 0⟩] := by
 unfold St.doS;rw [Zd6];exact ⟨rfl, rfl, rfl, rfl⟩
theorem Zxb : (Yw.begin dS).st.dk.late.length = 2 := by
 rw [Zd6];have h := Zlo Kd (p := 0) (by omega) (r := rS) (by decide);show (Dk.new.pairD ((0 : Nat) : Int) rS).late.length = 2;rw [h]; rfl
theorem Zxe : (Yy (Yw.begin dS).st.dk).recs = [] := by
 have hm : (Yw.begin dS).st.dk.keep 0 = Dk.new := by
  rw [Zd6];show (Dk.new.pairD ((0 : Nat) : Int) rS).keep 0 = _;rw [Zix Kd (by omega) (by decide), Zdh, Zdh, Zcr _ Kd]
 unfold Yy St.recs;rw [hm];show (Ye Dk.new 6).map Ent.rc = [];have h1 := Zcn.idx;rw [Zjx, Zuf] at h1;rw [← h1]; rfl
theorem Zui : (Yy (Yw.doS dS).st.dk).recs = [rS] := by
 have hi := Zhl Zcn dS;unfold St.recs;rw [hi.good.mounted, ← hi.idx, Zhm.2.2.2]; rfl
theorem Zyo : Q8 [rS] 7 = ⟨1, 0, [97, 98]⟩ := rfl
theorem Zw8 : (Xr [rS] 1 9 255).length = 1 := by decide +kernel
theorem Zmd (a b c d : Value) (w : World) : (Instr.field 33 (.agg #[a, b, c, d]) 1).run Tryz.prog w = .ok c w := by
 kernel_rfl
theorem Zeh (SN : Zvj) (SO : Zvi) (SM : Zd7) (SR : Za4) (SB : Zfu) (SD : Zxr) (SG : Zp7) (SL : Zki) : Zfv := by
 intro w;go_enter Tryz.func25, Tryz.ntmps25;go_wp2_with fail;refine (SN (fun b => b < w.heap.size) w (fun b h => h)).mono ?_;rintro r w1 ⟨v1, rfl, h1, g1⟩;obtain ⟨b1, e1, l1, m1, i1, j1, hv1, -, -, -⟩ := h1.form;subst hv1;have HA1 : Hid (Yw.At) := Zbb;obtain ⟨X, hX⟩ : ∃ X, X = Yw.doS dS := ⟨_, rfl⟩;obtain ⟨Y, hY⟩ : ∃ Y, Y = Yw.begin dS := ⟨_, rfl⟩;have HX : Hid (X.e = 0 ∧ X.n = 1 ∧ X.st.recs = [rS] ∧ X.st.idx = [⟨rS, 0⟩] ∧ (Yy X.st.dk).recs = [rS] ∧ X.st.At) := by rw [hX]; exact ⟨Zhm.1, Zhm.2.1, Zhm.2.2.1, Zhm.2.2.2, Zui, (Zhl Zcn dS).at'⟩
 have HY : Hid (Y.e = 0 ∧ Y.st.dk.late.length = 2 ∧ (Yy Y.st.dk).recs = [] ∧ Y.st.dk.Fine 2) := by rw [hY]; exact ⟨by rw [Zd6], Zxb, Zxe, (K4 Zbb.ok).disk⟩
 have HXX : Hid _ := hX;have HYY : Hid _ := hY;clear hX hY;generalize Yw = s at *;have kc := Lib.run_convert_bytes_const (P := Tryz.prog) (w1.alloc (.cells #[.slice b1 s.dk.blocks.length e1, .slice l1 s.dk.late.length m1, .slice i1 s.idx.length j1, .int .i64 s.next] 33)) 23 5 #[.int .u8 97, .int .u8 98] 2 2 Tryz.underlying23 Tryz.underlying5;rw [World.size_alloc] at kc;have ga := Zd w1 (.cells #[.slice b1 s.dk.blocks.length e1, .slice l1 s.dk.late.length m1, .slice i1 s.idx.length j1, .int .i64 s.next] 33);have hYa := Zj w1 #[.slice b1 s.dk.blocks.length e1, .slice l1 s.dk.late.length m1, .slice i1 s.idx.length j1, .int .i64 s.next] 33;have hSa := (h1.grow ga).any;have gwa := g1.trans ga;clear h1 g1 ga;go_wp2_with fail;clear kc;have gB := Zu (w1.alloc (.cells #[.slice b1 s.dk.blocks.length e1, .slice l1 s.dk.late.length m1, .slice i1 s.idx.length j1, .int .i64 s.next] 33)) (.cells #[.int .u8 97, .int .u8 98] 5 (2, 3)) (.cells #[.int .i64 1, .int .i64 7, .int .i64 0, .slice (some ⟨w1.heap.size + 1, 0, none⟩) 2 2] 25);have hb0 : ((w1.alloc (.cells #[.slice b1 s.dk.blocks.length e1, .slice l1 s.dk.late.length m1, .slice i1 s.idx.length j1, .int .i64 s.next] 33)).alloc (.cells #[.int .u8 97, .int .u8 98] 5 (2, 3))).heap[w1.heap.size + 1]? = some (.cells #[.int .u8 97, .int .u8 98] 5 (2, 3)) := by
  have e : w1.heap.size + 1 = (w1.alloc (.cells #[.slice b1 s.dk.blocks.length e1, .slice l1 s.dk.late.length m1, .slice i1 s.idx.length j1, .int .i64 s.next] 33)).heap.size := by simp
  rw [e];exact Array.getElem?_push_size
 have hD0 := Zj ((w1.alloc (.cells #[.slice b1 s.dk.blocks.length e1, .slice l1 s.dk.late.length m1, .slice i1 s.idx.length j1, .int .i64 s.next] 33)).alloc (.cells #[.int .u8 97, .int .u8 98] 5 (2, 3))) #[.int .i64 1, .int .i64 7, .int .i64 0, .slice (some ⟨w1.heap.size + 1, 0, none⟩) 2 2] 25;have hb1 := ((Zd ((w1.alloc (.cells #[.slice b1 s.dk.blocks.length e1, .slice l1 s.dk.late.length m1, .slice i1 s.idx.length j1, .int .i64 s.next] 33)).alloc (.cells #[.int .u8 97, .int .u8 98] 5 (2, 3))) (.cells #[.int .i64 1, .int .i64 7, .int .i64 0, .slice (some ⟨w1.heap.size + 1, 0, none⟩) 2 2] 25)).block _ (Za hb0)).trans hb0;rw [World.size_alloc, World.size_alloc] at hD0;have hY0 := (gB.block _ (Za hYa)).trans hYa;have hS0 := hSa.grow gB;have gw0 := gwa.trans gB;clear hb0 hYa hSa gwa gB;generalize World.alloc (World.alloc (World.alloc w1 _) _) _ = W at *;obtain ⟨N, hN⟩ : ∃ N, N = w1.heap.size := ⟨_, rfl⟩;rw [← hN] at hb1 hD0 hY0 ⊢;clear hN;have hd : Z1 (fun b => b < W.heap.size) W (.slice (some ⟨N + 1, 0, none⟩) 2 2) [97, 98] := by
  refine .inr ⟨N + 1, 0, 2, Za hb1, rfl, Nat.le_refl _, fun i hi => ?_⟩;have hi2 : i < 2 := hi
  match i, hi2 with
  | 0, _ => exact Ze hb1 0 _ rfl
  | 1, _ => exact Ze hb1 1 _ rfl
 refine (SD (fun b => b < W.heap.size) s dS _ (some ⟨N + 1, 0, none⟩) 2 W (fun b h => h) hS0.now hd HA1.out (by decide)).mono ?_;rw [← HXX.out, HX.out.1, HX.out.2.1];rintro r w2 ⟨v2, rfl, h2, g2⟩;obtain ⟨b2, e2, l2, m2, i2, j2, hv2, -, -, -⟩ := h2.form;subst hv2;have g3 := Zd w2 (.cells #[.slice b2 X.st.dk.blocks.length e2, .slice l2 X.st.dk.late.length m2, .slice i2 X.st.idx.length j2, .int .i64 X.st.next] 33);have hX3 := Zj w2 #[.slice b2 X.st.dk.blocks.length e2, .slice l2 X.st.dk.late.length m2, .slice i2 X.st.idx.length j2, .int .i64 X.st.next] 33;have gg := g2.trans g3;have hXs := (h2.grow g3).any;have hY3 := (gg.block _ (Za hY0)).trans hY0;have hD3 := (gg.block _ (Za hD0)).trans hD0;have hS3 := hS0.grow gg;have hd3 := hd.grow gg;have gw3 := gw0.trans gg;clear h2 g2 g3 gg hY0 hD0 hS0 gw0 hd hb1;obtain ⟨y0, y1, y2, y3⟩ := Z7 hY3 rfl rfl rfl rfl;obtain ⟨p0, p1, p2, p3⟩ := Z7 hD3 rfl rfl rfl rfl;go_wp2_with fail;obtain ⟨XB, hXB⟩ : ∃ XB, XB = w2.heap.size := ⟨_, rfl⟩;rw [← hXB] at hX3 ⊢;clear hXB;generalize World.alloc w2 _ = w3 at *;refine (SB (fun b => b < w3.heap.size) s dS _ (some ⟨N + 1, 0, none⟩) 2 w3 (fun b h => h) hS3.now (V6 hd3) HA1.out (by decide)).mono ?_;rw [← HYY.out, HY.out.1];obtain ⟨yn, hyn⟩ : ∃ yn, yn = Y.n := ⟨_, rfl⟩;rw [← hyn];clear hyn;rintro r w4 ⟨v4, rfl, h4, g4⟩;obtain ⟨b4, e4, l4, m4, i4, j4, hv4, -, -, -⟩ := h4.form;subst hv4
 have g5 := Zd w4 (.cells #[.slice b4 Y.st.dk.blocks.length e4, .slice l4 Y.st.dk.late.length m4, .slice i4 Y.st.idx.length j4, .int .i64 Y.st.next] 33);have hZ5 := Zj w4 #[.slice b4 Y.st.dk.blocks.length e4, .slice l4 Y.st.dk.late.length m4, .slice i4 Y.st.idx.length j4, .int .i64 Y.st.next] 33;have gg := g4.trans g5;have hYs := (h4.grow g5).any;have hX5 := (gg.block _ (Za hX3)).trans hX3;have hXs5 := hXs.grow gg;have gw5 := gw3.trans gg;clear y0 y1 y2 y3 p0 p1 p2 p3 h4 g4 g5 gg hY3 hD3 hS3 gw3 hd3 hX3 hXs;obtain ⟨x0, x1, x2, x3⟩ := Z7 hX5 rfl rfl rfl rfl;go_wp2_with fail;obtain ⟨ZB, hZB⟩ : ∃ ZB, ZB = w4.heap.size := ⟨_, rfl⟩;rw [← hZB] at hZ5 ⊢;clear hZB;generalize World.alloc w4 _ = w5 at *;refine (SG (fun b => b < w5.heap.size) X.st 7 _ w5 (fun b h => h) hXs5.now HX.out.2.2.2.2.2).mono ?_;rw [HX.out.2.2.1, Zyo];rintro r w6 ⟨u6, hr6, hu6, g6⟩;obtain ⟨a6, c6, rfl⟩ : ∃ a c, u6 = .slice a 2 c := hu6.form;obtain rfl : r = .returned (.tuple #[.slice a6 2 c6, .int .i64 0]) := hr6;have hX6 := (g6.block _ (Za hX5)).trans hX5;have hZ6 := (g6.block _ (Za hZ5)).trans hZ5;have hXs6 := hXs5.grow g6;have hYs6 := hYs.grow g6;have gw6 := gw5.trans g6;clear x0 x1 x2 x3 hX5 hZ5 hXs5 hYs gw5 g6;obtain ⟨z0, z1⟩ := Xz hZ6 rfl rfl;go_wp2_with fail;obtain ⟨vb, vl, vi, hvv, hb6, hl6, -⟩ := hYs6.now;cases hvv;refine (SM (fun b => b < w6.heap.size) Y.st.dk _ w6 (fun b h => h) ⟨_, _, rfl, hb6, hl6⟩ HY.out.2.2.2).mono ?_;have HMA : Hid ((Yy Y.st.dk).At) := Vu HY.out.2.2.2
 have HMR : Hid ((Yy Y.st.dk).recs = []) := HY.out.2.2.1;generalize Yy Y.st.dk = M at *;rintro r w7 ⟨v7, rfl, h7, g7⟩;obtain ⟨b7, e7, l7, m7, i7, j7, hv7, -, -, -⟩ := h7.form;subst hv7;have g8 := Zd w7 (.cells #[.slice b7 M.dk.blocks.length e7, .slice l7 M.dk.late.length m7, .slice i7 M.idx.length j7, .int .i64 M.next] 33);have hM8 := Zj w7 #[.slice b7 M.dk.blocks.length e7, .slice l7 M.dk.late.length m7, .slice i7 M.idx.length j7, .int .i64 M.next] 33;have gg := g7.trans g8;have hMs := (h7.grow g8).any;have hX8 := (gg.block _ (Za hX6)).trans hX6;have hZ8 := (gg.block _ (Za hZ6)).trans hZ6;have hXs8 := hXs6.grow gg;have hu8 := Z0 hu6.p gg;have gw8 := gw6.trans gg;have rs8 := Zgf _ _ _ hu8;clear z0 z1 hX6 hZ6 hXs6 hYs6 gw6 hb6 hl6 h7 g7 g8 gg hu6;have hlt := HY.out.2.1;have z1 := Ze hZ8 1 _ rfl;rw [hlt] at z1;obtain ⟨k0, k1, k2, k3⟩ := Z7 hM8 rfl rfl rfl rfl;clear hlt;go_wp2_with fail;generalize World.alloc w7 _ = w8 at *;refine (SR (fun b => b < w8.heap.size) M _ w8 (fun b h => h) hMs.now HMA.out).mono ?_;rw [HMR.out];rintro r w9 ⟨v9, rfl, h9, g9⟩;obtain ⟨a9, c9, rfl⟩ : ∃ a c, v9 = .slice a 0 c := Z3.form h9;have hX9 := (g9.block _ (Za hX8)).trans hX8;have hXs9 := hXs8.grow g9;have gw9 := gw8.trans g9;clear z1 k0 k1 k2 k3 hM8 hMs hX8 hZ8 hXs8 gw8 h9 g9 hu8 rs8;obtain ⟨x0, x1⟩ := Xz hX9 rfl rfl;go_wp2_with fail;obtain ⟨vb, vl, vi, hvv, hb9, hl9, -⟩ := hXs9.now;cases hvv
 refine (SM (fun b => b < w9.heap.size) X.st.dk _ w9 (fun b h => h) ⟨_, _, rfl, hb9, hl9⟩ (HX.out.2.2.2.2.2.ok.disk.mono (by omega))).mono ?_;have HNA : Hid ((Yy X.st.dk).At) := Vu HX.out.2.2.2.2.2.ok.disk;have HNR : Hid ((Yy X.st.dk).recs = [rS]) := HX.out.2.2.2.2.1;generalize Yy X.st.dk = M2 at *;rintro r wA ⟨vA, rfl, hA, gA⟩;obtain ⟨bA, eA, lA, mA, iA, jA, hvA, -, -, -⟩ := hA.form;subst hvA;have hXA := (gA.block _ (Za hX9)).trans hX9;have hXsA := hXs9.grow gA;have gwA := gw9.trans gA;clear x0 x1 hX9 hXs9 gw9 gA hb9 hl9;go_wp2_with fail;refine (SR (fun b => b < wA.heap.size) M2 _ wA (fun b h => h) hA.any.now HNA.out).mono ?_;rw [HNR.out];rintro r wB ⟨vB, rfl, hB, gB⟩;obtain ⟨aB, cB, rfl⟩ : ∃ a c, vB = .slice a 1 c := Z3.form hB;have hXB := (gB.block _ (Za hXA)).trans hXA;have hXsB := hXsA.grow gB;have gwB := gwA.trans gB;clear hA hXA hXsA gwA gB hB;obtain ⟨x0, x1, x2, x3⟩ := Z7 hXB rfl rfl rfl rfl;go_wp2_with fail;refine (SL (fun b => b < wB.heap.size) X.st 1 9 _ wB (fun b h => h) hXsB.now HX.out.2.2.2.2.2).mono ?_;rw [HX.out.2.2.1, Zw8];rintro r wC ⟨vC, rfl, hC, gC⟩;obtain ⟨aC, cC, rfl⟩ := Z4 hC;have hXC := (gC.block _ (Za hXB)).trans hXB;have hXsC := hXsB.grow gC;have gwC := gwB.trans gC;clear x0 x1 x2 x3 hXB hXsB gwB gC hC;obtain ⟨x0, x1, x2, x3⟩ := Z7 hXC rfl rfl rfl rfl;go_wp2_with fail;refine (SO (fun b => b < wC.heap.size) X.st _ wC (fun b h => h) hXsC.now HX.out.2.2.2.2.2).mono ?_;rintro r wD ⟨vD, rfl, hDs, gD⟩
 obtain ⟨bD, eD, lD, mD, iD, jD, hvD, -, -, -⟩ := hDs.form;subst hvD;have gE := gwC.trans gD;have HID : Hid (X.st.idx = [⟨rS, 0⟩]) := HX.out.2.2.2.1;rw [HID.out];simp only [List.length_cons, List.length_nil, Nat.zero_add];clear x0 x1 x2 x3 hXC hXsC gwC gD hDs;generalize X.st = Q at *;have hfi := Zmd;go_wp2_with fail;go_ret;exact ⟨rfl, gE⟩
def Vi (x y : Int) : Int := if x < y then -1 else if y < x then 1 else 0
def Zes (x y : Ent) : Int := if Vi x.rc.key y.rc.key ≠ 0 then Vi x.rc.key y.rc.key else if Vi x.rc.ver y.rc.ver ≠ 0 then Vi x.rc.ver y.rc.ver else Vi x.pair y.pair
theorem Zaa (x y : Int) : Vi x y = 0 ↔ x = y := by unfold Vi; split <;> (try split) <;> omega
theorem Zkb (x y : Int) : Vi x y < 0 ↔ x < y := by unfold Vi; split <;> (try split) <;> omega
theorem Zkc (x y : Int) : 0 < Vi x y ↔ y < x := by unfold Vi; split <;> (try split) <;> omega
theorem Zpt (x y : Ent) : (decide (Zes x y < 0)) = Y1 x y := by
 rw [Bool.eq_iff_iff, decide_eq_true_eq];unfold Zes Y1;by_cases hk : x.rc.key = y.rc.key
 ·rw [if_neg (by simpa using (Zaa _ _).2 hk), if_pos hk];by_cases hv : x.rc.ver = y.rc.ver
  ·rw [if_neg (by simpa using (Zaa _ _).2 hv), if_pos hv, Zkb, decide_eq_true_eq]
  ·rw [if_pos (fun h => hv ((Zaa _ _).1 h)), if_neg hv, Zkb, decide_eq_true_eq]
 ·rw [if_pos (fun h => hk ((Zaa _ _).1 h)), if_neg hk, Zkb, decide_eq_true_eq]
theorem Zwy (x y : Ent) : (decide (0 < Zes x y)) = Y1 y x := by
 rw [Bool.eq_iff_iff, decide_eq_true_eq];unfold Zes Y1;by_cases hk : x.rc.key = y.rc.key
 ·rw [if_neg (by simpa using (Zaa _ _).2 hk), if_pos hk.symm];by_cases hv : x.rc.ver = y.rc.ver
  ·rw [if_neg (by simpa using (Zaa _ _).2 hv), if_pos hv.symm, Zkc, decide_eq_true_eq]
  ·rw [if_pos (fun h => hv ((Zaa _ _).1 h)), if_neg (fun h => hv h.symm), Zkc, decide_eq_true_eq]
 ·rw [if_pos (fun h => hk ((Zaa _ _).1 h)), if_neg (fun h => hk h.symm), Zkc, decide_eq_true_eq]
theorem Zqc {P : Program} {w w' : World} {R : Value → World → Prop} {o : Oper} {ev : Operand → Value} {v : Value} (h : (execOp ev o).run P w = .ok (.value v) w') (hg : Zo w w') (hv : R v w') : upon P w R ((execOp ev o).run P w) := by
 rw [h]; exact ⟨hg, hv⟩
theorem Zbc (x : Int) (w : World) : Calls Tryz.prog 152 #[.int .i64 x] w fun e w' => e = .returned (.bool false) ∧ w' = w := by
 have d0 : (x != x) = false := by simp
 go_enter Tryz.func152, Tryz.ntmps152;go_wp2_with fail;go_ret;exact ⟨rfl, rfl⟩
theorem Zka (x y : Int) (w : World) : Calls Tryz.prog 123 #[.int .i64 x, .int .i64 y] w fun e w' => e = .returned (.int .i64 (Vi x y)) ∧ w' = w := by
 by_cases h1 : x < y
 ·have HC : Hid (Vi x y = -1) := by show _ = _; unfold Vi; rw [if_pos h1]
  rw [HC.out];go_enter Tryz.func123, Tryz.ntmps123;go_wp2_with fail;refine (Zbc _ _).mono ?_;rintro e w1 ⟨rfl, rfl⟩;go_wp2_with fail;refine (Zbc _ _).mono ?_;rintro e w1 ⟨rfl, rfl⟩;go_wp2_with fail;go_ret;exact ⟨rfl, rfl⟩
 ·by_cases h2 : y < x
  ·have HC : Hid (Vi x y = 1) := by show _ = _; unfold Vi; rw [if_neg h1, if_pos h2]
   rw [HC.out];go_enter Tryz.func123, Tryz.ntmps123;go_wp2_with fail;refine (Zbc _ _).mono ?_;rintro e w1 ⟨rfl, rfl⟩;go_wp2_with fail;refine (Zbc _ _).mono ?_;rintro e w1 ⟨rfl, rfl⟩;go_wp2_with fail;go_ret;exact ⟨rfl, rfl⟩
  ·have HC : Hid (Vi x y = 0) := by show _ = _; unfold Vi; rw [if_neg h1, if_neg h2]
   rw [HC.out];go_enter Tryz.func123, Tryz.ntmps123;go_wp2_with fail;refine (Zbc _ _).mono ?_;rintro e w1 ⟨rfl, rfl⟩;go_wp2_with fail;refine (Zbc _ _).mono ?_;rintro e w1 ⟨rfl, rfl⟩;go_wp2_with fail;go_ret;exact ⟨rfl, rfl⟩
def orN : List Int → Int
 | [] => 0
 | v :: l => if v ≠ 0 then v else orN l
theorem Zyg (vs : List Int) (b cap : Nat) (w : World) (hn : vs.length ≤ 1000) (hc : ∀ (j : Nat) (h : j < vs.length), w.cell? ⟨b, j, none⟩ = some (.int .i64 vs[j])) :
  Calls Tryz.prog 122 #[.slice (some ⟨b, 0, none⟩) vs.length cap] w fun e w' => e = .returned (.int .i64 (orN vs)) ∧ Zo w w' := by
 obtain ⟨R, hR⟩ : ∃ R, R = orN vs := ⟨_, rfl⟩;rw [← hR];have HR : Hid _ := hR;clear hR;go_enter Tryz.func122, Tryz.ntmps122;go_wp2_with fail;go_loopw [8] (fun i wr => ∃ k : Nat, k ≤ vs.length ∧ i = .int .i64 k ∧ R = orN (vs.drop k) ∧ Zo w wr) (fun i _ => vs.length - (intOf i).toNat)
 case atStart => exact ⟨0, Nat.zero_le _, rfl, HR.out, Zo.refl _⟩
 case round =>
  obtain ⟨k, hk, rfl, hRk, hg⟩ := hrel;have HK : Hid (R = orN (vs.drop k)) := hRk;clear hRk;by_cases hlt : k < vs.length
  ·have q0 := (Below.cell hg (Zs (hc k hlt))).trans (hc k hlt);have HX : Hid (R = if vs[k] ≠ 0 then vs[k] else orN (vs.drop (k + 1))) := by show R = _; rw [HK.out, List.drop_eq_getElem_cons hlt]; rfl
   generalize vs[k] = x at *;clear HK;by_cases hx : x = 0
   ·have HY : Hid (R = orN (vs.drop (k + 1))) := by show R = _; rw [HX.out, if_neg (by simpa using hx)]
    have d0 : (x != 0) = false := by simp [hx]
    clear HX hx;go_wp2_with fail;go_roundw
    case rel => exact ⟨k + 1, by omega, by go_num, HY.out, hg⟩
    case measure => simp [intOf]; omega
   ·have HY : Hid (R = x) := by show R = _; rw [HX.out, if_pos hx]
    have d0 : (x != 0) = true := by simp [hx]
    clear HX hx;go_wp2_with fail;go_ret;exact ⟨by rw [HY.out]; rfl, hg⟩
  ·have HY : Hid (R = 0) := by show R = _; rw [HK.out, List.drop_eq_nil_of_le (by omega)]; rfl
   clear HK;go_wp2_with fail;go_ret;exact ⟨by rw [HY.out]; rfl, hg⟩
theorem Zua (x y : Ent) : orN [Vi x.rc.key y.rc.key, Vi x.rc.ver y.rc.ver, Vi x.pair y.pair] = Zes x y := by
 unfold Zes;simp only [orN];split
 ·rfl
 ·split
  ·rfl
  ·split
   ·rfl
   ·rename_i h; exact (Decidable.of_not_not h).symm
def Zo1 (n0 n1 n2 : Int) (v : Value) (w : World) : Prop := ∃ g, v = .slice (some ⟨g, 0, none⟩) 3 3 ∧ w.heap[g]? = some (.cells #[.int .i64 n0, .int .i64 n1, .int .i64 n2] 3 (0, 0))
theorem Zqi (n0 n1 n2 : Int) : Xt (Zo1 n0 n1 n2) := by
 rintro v w w' hg ⟨g, h1, h2⟩; exact ⟨g, h1, (hg.block _ (Za h2)).trans h2⟩
theorem Zcm (x y : Ent) (a0 a1 : Option Addr) (c0 c1 : Nat) (w : World) :
  Calls Tryz.prog 83 #[.agg #[.int .i64 x.rc.kind, .int .i64 x.rc.key, .int .i64 x.rc.ver, .slice a0 x.rc.data.length c0, .int .i64 x.pair], .agg #[.int .i64 y.rc.kind, .int .i64 y.rc.key, .int .i64 y.rc.ver, .slice a1 y.rc.data.length c1, .int .i64 y.pair]] w fun e w' => e = .returned (.int .i64 (Zes x y)) ∧ Zo w w' := by
 have g0 := Zu w (.cells #[.int .i64 x.rc.kind, .int .i64 x.rc.key, .int .i64 x.rc.ver, .slice a0 x.rc.data.length c0, .int .i64 x.pair] 54) (.cells #[.int .i64 y.rc.kind, .int .i64 y.rc.key, .int .i64 y.rc.ver, .slice a1 y.rc.data.length c1, .int .i64 y.pair] 54);have hx0 := Zj w #[.int .i64 x.rc.kind, .int .i64 x.rc.key, .int .i64 x.rc.ver, .slice a0 x.rc.data.length c0, .int .i64 x.pair] 54;have hy0 := Zj (w.alloc (.cells #[.int .i64 x.rc.kind, .int .i64 x.rc.key, .int .i64 x.rc.ver, .slice a0 x.rc.data.length c0, .int .i64 x.pair] 54)) #[.int .i64 y.rc.kind, .int .i64 y.rc.key, .int .i64 y.rc.ver, .slice a1 y.rc.data.length c1, .int .i64 y.pair] 54;have hx1 := ((Zd (w.alloc (.cells #[.int .i64 x.rc.kind, .int .i64 x.rc.key, .int .i64 x.rc.ver, .slice a0 x.rc.data.length c0, .int .i64 x.pair] 54)) (.cells #[.int .i64 y.rc.kind, .int .i64 y.rc.key, .int .i64 y.rc.ver, .slice a1 y.rc.data.length c1, .int .i64 y.pair] 54)).block _ (Za hx0)).trans hx0;rw [World.size_alloc] at hy0;clear hx0;obtain ⟨R, hR⟩ : ∃ R, R = Zes x y := ⟨_, rfl⟩;rw [← hR];have HR : Hid _ := hR;clear hR;go_enter Tryz.func83, Tryz.ntmps83;go_wp2_with fail;generalize World.alloc (World.alloc w _) _ = W at *
 refine Zz [ex (.pointer (some ⟨w.heap.size, 0, none⟩)), ex (.pointer (some ⟨w.heap.size, 1, none⟩)), ex (.int .i64 x.rc.key), ex (.pointer (some ⟨w.heap.size + 1, 0, none⟩)), ex (.pointer (some ⟨w.heap.size + 1, 1, none⟩)), ex (.int .i64 y.rc.key), ex (.int .i64 (Vi x.rc.key y.rc.key)), ex (.pointer (some ⟨w.heap.size, 0, none⟩)), ex (.pointer (some ⟨w.heap.size, 2, none⟩)), ex (.int .i64 x.rc.ver), ex (.pointer (some ⟨w.heap.size + 1, 0, none⟩)), ex (.pointer (some ⟨w.heap.size + 1, 2, none⟩)), ex (.int .i64 y.rc.ver), ex (.int .i64 (Vi x.rc.ver y.rc.ver)), ex (.pointer (some ⟨w.heap.size, 4, none⟩)), ex (.int .i64 x.pair), ex (.pointer (some ⟨w.heap.size + 1, 4, none⟩)), ex (.int .i64 y.pair), ex (.int .i64 (Vi x.pair y.pair)), ((Zo1 (Vi x.rc.key y.rc.key) (Vi x.rc.ver y.rc.ver) (Vi x.pair y.pair))), ex (.int .i64 R), ex (.int .i64 R)] (by kernel_rfl) (by kernel_rfl) ⟨Zf _, Zf _, Zf _, Zf _, Zf _, Zf _, Zf _, Zf _, Zf _, Zf _, Zf _, Zf _, Zf _, Zf _, Zf _, Zf _, Zf _, Zf _, Zf _, Zqi _ _ _, Zf _, Zf _, trivial⟩ ?_ ?_
 ·refine ⟨?_, ?_, ?_, ?_, ?_, ?_, ?_, ?_, ?_, ?_, ?_, ?_, ?_, ?_, ?_, ?_, ?_, ?_, ?_, ?_, ?_, ?_, trivial⟩
  ·refine Zb rfl fun a _ _ _ B A => ?_;have e2 : a (.tmp 2) = .pointer (some ⟨w.heap.size, 0, none⟩) := Zq A 2 rfl;refine Zi ?_ rfl;clear A B;go_simp;all_goals go_arith
  ·refine Zb rfl fun a _ _ _ B A => ?_;have e5 : a (.tmp 5) = _ := Zc A 0 rfl;refine Zi ?_ rfl;clear A B;go_simp;all_goals go_arith
  ·refine Zb rfl fun a _ _ _ B A => ?_;have e6 : a (.tmp 6) = _ := Zc A 1 rfl;have h1 := Ze ((B.block _ (Za hx1)).trans hx1) 1 _ rfl;refine Zi ?_ rfl;clear A B;go_simp;all_goals go_arith
  ·refine Zb rfl fun a _ _ _ B A => ?_;have e3 : a (.tmp 3) = .pointer (some ⟨w.heap.size + 1, 0, none⟩) := Zq A 3 rfl;refine Zi ?_ rfl;clear A B;go_simp;all_goals go_arith
  ·refine Zb rfl fun a _ _ _ B A => ?_;have e8 : a (.tmp 8) = _ := Zc A 3 rfl;refine Zi ?_ rfl;clear A B;go_simp;all_goals go_arith
  ·refine Zb rfl fun a _ _ _ B A => ?_;have e9 : a (.tmp 9) = _ := Zc A 4 rfl;have h1 := Ze ((B.block _ (Za hy0)).trans hy0) 1 _ rfl;refine Zi ?_ rfl;clear A B;go_simp;all_goals go_arith
  ·refine Zb rfl fun a B _ _ C A => ?_;have e7 : a (.tmp 7) = _ := Zc A 2 rfl;have e10 : a (.tmp 10) = _ := Zc A 5 rfl;refine Yi (f := 123) (args := #[.int .i64 x.rc.key, .int .i64 y.rc.key]) ?_ ((Zka _ _ B).mono ?_)
   ·clear A C;go_simp;all_goals go_arith
   ·rintro e w2 ⟨rfl, rfl⟩;exact ⟨_, rfl, Zo.refl _, rfl⟩
  ·refine Zb rfl fun a _ _ _ B A => ?_;have e2 : a (.tmp 2) = .pointer (some ⟨w.heap.size, 0, none⟩) := Zq A 2 rfl;refine Zi ?_ rfl;clear A B;go_simp;all_goals go_arith
  ·refine Zb rfl fun a _ _ _ B A => ?_;have e12 : a (.tmp 12) = _ := Zc A 7 rfl;refine Zi ?_ rfl;clear A B;go_simp;all_goals go_arith
  ·refine Zb rfl fun a _ _ _ B A => ?_;have e13 : a (.tmp 13) = _ := Zc A 8 rfl;have h1 := Ze ((B.block _ (Za hx1)).trans hx1) 2 _ rfl;refine Zi ?_ rfl;clear A B;go_simp;all_goals go_arith
  ·refine Zb rfl fun a _ _ _ B A => ?_;have e3 : a (.tmp 3) = .pointer (some ⟨w.heap.size + 1, 0, none⟩) := Zq A 3 rfl;refine Zi ?_ rfl;clear A B;go_simp;all_goals go_arith
  ·refine Zb rfl fun a _ _ _ B A => ?_;have e15 : a (.tmp 15) = _ := Zc A 10 rfl;refine Zi ?_ rfl;clear A B;go_simp;all_goals go_arith
  ·refine Zb rfl fun a _ _ _ B A => ?_;have e16 : a (.tmp 16) = _ := Zc A 11 rfl;have h1 := Ze ((B.block _ (Za hy0)).trans hy0) 2 _ rfl;refine Zi ?_ rfl;clear A B;go_simp;all_goals go_arith
  ·refine Zb rfl fun a B _ _ C A => ?_;have e14 : a (.tmp 14) = _ := Zc A 9 rfl;have e17 : a (.tmp 17) = _ := Zc A 12 rfl;refine Yi (f := 123) (args := #[.int .i64 x.rc.ver, .int .i64 y.rc.ver]) ?_ ((Zka _ _ B).mono ?_)
   ·clear A C;go_simp;all_goals go_arith
   ·rintro e w2 ⟨rfl, rfl⟩;exact ⟨_, rfl, Zo.refl _, rfl⟩
  ·refine Zb rfl fun a _ _ _ B A => ?_;have e2 : a (.tmp 2) = .pointer (some ⟨w.heap.size, 0, none⟩) := Zq A 2 rfl;refine Zi ?_ rfl;clear A B;go_simp;all_goals go_arith
  ·refine Zb rfl fun a _ _ _ B A => ?_;have e19 : a (.tmp 19) = _ := Zc A 14 rfl;have h1 := Ze ((B.block _ (Za hx1)).trans hx1) 4 _ rfl;refine Zi ?_ rfl;clear A B;go_simp;all_goals go_arith
  ·refine Zb rfl fun a _ _ _ B A => ?_;have e3 : a (.tmp 3) = .pointer (some ⟨w.heap.size + 1, 0, none⟩) := Zq A 3 rfl;refine Zi ?_ rfl;clear A B;go_simp;all_goals go_arith
  ·refine Zb rfl fun a _ _ _ B A => ?_;have e21 : a (.tmp 21) = _ := Zc A 16 rfl;have h1 := Ze ((B.block _ (Za hy0)).trans hy0) 4 _ rfl;refine Zi ?_ rfl;clear A B;go_simp;all_goals go_arith
  ·refine Zb rfl fun a B _ _ C A => ?_;have e20 : a (.tmp 20) = _ := Zc A 15 rfl;have e22 : a (.tmp 22) = _ := Zc A 17 rfl;refine Yi (f := 123) (args := #[.int .i64 x.pair, .int .i64 y.pair]) ?_ ((Zka _ _ B).mono ?_)
   ·clear A C;go_simp;all_goals go_arith
   ·rintro e w2 ⟨rfl, rfl⟩;exact ⟨_, rfl, Zo.refl _, rfl⟩
  ·refine Zb rfl fun a w' _ _ B A => ?_;have e11 : a (.tmp 11) = _ := Zc A 6 rfl;have e18 : a (.tmp 18) = _ := Zc A 13 rfl;have e23 : a (.tmp 23) = _ := Zc A 18 rfl;refine Zqc (v := .slice (some ⟨w'.heap.size, 0, none⟩) 3 3) (w' := w'.alloc (.cells #[.int .i64 (Vi x.rc.key y.rc.key), .int .i64 (Vi x.rc.ver y.rc.ver), .int .i64 (Vi x.pair y.pair)] 3)) ?_ (Zd _ _) ⟨_, rfl, Zj _ _ _⟩;clear A B;go_simp;all_goals go_arith
  ·refine Zb rfl fun a B _ _ C A => ?_;have e24 : ((Zo1 (Vi x.rc.key y.rc.key) (Vi x.rc.ver y.rc.ver) (Vi x.pair y.pair))) (a (.tmp 24)) B := Zc A 19 rfl;obtain ⟨g, h24, h3⟩ := e24;refine Yi (f := 122) (args := #[.slice (some ⟨g, 0, none⟩) 3 3]) ?_ ((Zyg [Vi x.rc.key y.rc.key, Vi x.rc.ver y.rc.ver, Vi x.pair y.pair] g 3 B (by simp) (fun j hj => by
    have hj3 : j < 3 := hj
    match j, hj3 with
    | 0, _ => exact Ze h3 0 _ rfl
    | 1, _ => exact Ze h3 1 _ rfl
    | 2, _ => exact Ze h3 2 _ rfl)).mono ?_)
   ·clear A C h3;go_simp;all_goals go_arith
   ·rw [Zua, ← HR.out];rintro e w2 ⟨rfl, g2⟩;exact ⟨_, rfl, g2, rfl⟩
  ·exact Zb rfl fun a _ _ _ _ A => Yl rfl (Zc A 20 rfl)
 ·intro vs w' hg ht;obtain ⟨(r5 : vs 0 = _), (r6 : vs 1 = _), (r7 : vs 2 = _), (r8 : vs 3 = _), (r9 : vs 4 = _), (r10 : vs 5 = _), (r11 : vs 6 = _), (r12 : vs 7 = _), (r13 : vs 8 = _), (r14 : vs 9 = _), (r15 : vs 10 = _), (r16 : vs 11 = _), (r17 : vs 12 = _), (r18 : vs 13 = _), (r19 : vs 14 = _), (r20 : vs 15 = _), (r21 : vs 16 = _), (r22 : vs 17 = _), (r23 : vs 18 = _), q24, (r25 : vs 20 = _), (r4 : vs 21 = _), -⟩ := ht;simp only [Yc, Act.put, List.setIfInBounds_toArray, List.set_cons_zero, List.set_cons_succ, r5, r6, r7, r8, r9, r10, r11, r12, r13, r14, r15, r16, r17, r18, r19, r20, r21, r22, r23, r25, r4];clear r5 r6 r7 r8 r9 r10 r11 r12 r13 r14 r15 r16 r17 r18 r19 r20 r21 r22 r23 r25 r4;have gE := g0.trans hg;clear q24 hg hx1 hy0 g0;go_wp2_with fail;go_ret;exact ⟨rfl, gE⟩
end Go.Proofs.YtpdnapbchcdhlabGreat
