import Derived.Test.YtikhknkpndhakabGreatSDo
import Derived.Test.YtikhknkpndhakabGreatStoreC
import Derived.Lib.SlBytesConst
set_option maxHeartbeats 8000000
namespace Go.Proofs.YtikhknkpndhakabGreat
set_option maxRecDepth 100000
open Go.RowKit
open Plain Reg
theorem Z6.any {S : Nat → Prop} {s : St} {v : Value} {w : World} (h : Z6 S s v w) : Z6 (fun _ => True) s v w := h.mono fun _ _ => trivial
theorem Z6.now {s : St} {v : Value} {w : World} (h : Z6 (fun _ => True) s v w) : Z6 (fun b => b < w.heap.size) s v w := h.capd.mono fun _ h => h.2
theorem bytes_now {S : Nat → Prop} {w : World} {v : Value} {l : List UInt8} (h : Zz S w v l) : Zz (fun b => b < w.heap.size) w v l := h.caps.mono fun _ h => h.2
theorem Zxq : Zv0 := fun S w hS => Zpi S w hS
theorem Zxp : Zvz := fun S s v w hS hs hA => Zho S 0 s v w hS hs hA.ok.disk (by omega) hA.ok.right
theorem Zwd : Zoj := fun S d v w hS hd hF => Zfe S 2 d v w hS hd.p hF (by omega)
theorem Zr0 : Zh7 := fun S s v w _ hs hA => (Zau S s v w hs (by have := hA.ok.len; omega) (fun r hr => (Vy (Zdj hA.ok.right hA.ok.len)).2 r hr |>.2.2)).mono fun _ _ ⟨v', _, h1, h2, h3⟩ => ⟨v', h1, h2.recs S, h3⟩
theorem Zwe : Zok := fun S s d v ad c w hS hs hd hA hdl => Zfh S 0 s d v ad c w hS hs hd hA.ok (by omega) hdl
theorem sDo : Zxk := fun S s d v ad c w hS hs hd hA hdl => Zsl S 0 s d v ad c w hS hs hd hA.ok (by omega) hdl
theorem Zw8 : Ztu := fun S s key v w _ hs hA => Zhq S s key v w hs hA.ok.right hA.ok.len
theorem Zvw : Znm := fun S s fr most v w _ hs hA => Zpk S s fr most v w hs hA.ok.right hA.ok.len
def dS : Dd := ⟨1, 7, 0, [97, 98]⟩
def rS : Rec := ⟨2, 7, 1, [97, 98]⟩
theorem Zrc : Yn dS = 0 := by decide
theorem Zxf : doR [] dS = ⟨[rS], 1, 0⟩ := rfl
theorem Zir : Xo.idx = [] := by
 rw [Zek.idx];cases h : Yd Xo.dk 6 with
 | nil => rfl
 | cons x l =>
  exfalso;have hx : x ∈ Yd Xo.dk 6 := by rw [h]; simp
  obtain ⟨p, hp, hk, -⟩ := (Q4 _ _ 6).1 hx;have hd : Xo.dk = Dk.new := by show Dk.new.keep 0 = _; exact Zfp.keep0
  rw [hd] at hk;have : ∀ q : Fin 6, (Dk.new.tell ((q.val : Nat) : Int)).kind = 1 := by decide +kernel
  exact hk (this ⟨p, hp⟩)
theorem Zsx : Xo.dk = Dk.new := Zfp.keep0
theorem Zsw : Xo.recs = [] := by unfold St.recs; rw [Zir]; rfl
theorem Zdc : Xo.begin dS = ⟨⟨Dk.new.pairD 0 rS, [⟨rS, 0⟩], 0⟩, 1, 0⟩ := by
 unfold St.begin;rw [Zsw, Zir, Zxf, Zsx, if_neg (by rw [Zrc]; simp), if_neg (by simp), if_neg (by decide)];rfl
theorem Zge : (Xo.doS dS).e = 0 ∧ (Xo.doS dS).n = 1 ∧ (Xo.doS dS).st.recs = [rS] ∧ (Xo.doS dS).st.idx = [⟨rS, 0⟩] := by
 unfold St.doS;rw [Zdc];exact ⟨rfl, rfl, rfl, rfl⟩
theorem Zvd : (Xo.begin dS).st.dk.late.length = 2 := by
 rw [Zdc];have h := Zkd V5 (p := 0) (by omega) (r := rS) (by decide);show (Dk.new.pairD ((0 : Nat) : Int) rS).late.length = 2;rw [h]; rfl
theorem Zvh : (Xv (Xo.begin dS).st.dk).recs = [] := by
 have hm : (Xo.begin dS).st.dk.keep 0 = Dk.new := by
  rw [Zdc];show (Dk.new.pairD ((0 : Nat) : Int) rS).keep 0 = _;rw [Zpp V5 (by omega) (by decide), Zcr, Zcr, Zb6 _ V5]
 unfold Xv St.recs;rw [hm];show (Yd Dk.new 6).map Ent.rc = [];have h1 := Zek.idx;rw [Zir, Zsx] at h1;rw [← h1]; rfl
theorem Zsz : (Xv (Xo.doS dS).st.dk).recs = [rS] := by
 have hi := Zti Zek dS;unfold St.recs;rw [hi.good.mounted, ← hi.idx, Zge.2.2.2]; rfl
theorem Zws : Kg [rS] 7 = ⟨1, 0, [97, 98]⟩ := rfl
theorem Zvb : (Q8 [rS] 1 9 255).length = 1 := by decide +kernel
theorem Zkw (a b c d : Value) (w : World) : (Instr.field 33 (.agg #[a, b, c, d]) 1).run Tryz.prog w = .ok c w := by
 kernel_rfl
theorem Zo4 (SN : Zv0) (SO : Zvz) (SM : Zoj) (SR : Zh7) (SB : Zok) (SD : Zxk) (SG : Ztu) (SL : Znm) : Zol := by
 intro w;go_enter Tryz.func25, Tryz.ntmps25;go_wp2_with fail;refine (SN (fun b => b < w.heap.size) w (fun b h => h)).mono ?_;rintro r w1 ⟨v1, rfl, h1, g1⟩;obtain ⟨b1, e1, l1, m1, i1, j1, hv1, -, -, -⟩ := h1.form;subst hv1;have HA1 : Hid (Xo.At) := Zel;obtain ⟨X, hX⟩ : ∃ X, X = Xo.doS dS := ⟨_, rfl⟩;obtain ⟨Y, hY⟩ : ∃ Y, Y = Xo.begin dS := ⟨_, rfl⟩;have HX : Hid (X.e = 0 ∧ X.n = 1 ∧ X.st.recs = [rS] ∧ X.st.idx = [⟨rS, 0⟩] ∧ (Xv X.st.dk).recs = [rS] ∧ X.st.At) := by rw [hX]; exact ⟨Zge.1, Zge.2.1, Zge.2.2.1, Zge.2.2.2, Zsz, (Zti Zek dS).at'⟩
 have HY : Hid (Y.e = 0 ∧ Y.st.dk.late.length = 2 ∧ (Xv Y.st.dk).recs = [] ∧ Y.st.dk.Fine 2) := by rw [hY]; exact ⟨by rw [Zdc], Zvd, Zvh, (Zan Zel.ok).disk⟩
 have HXX : Hid _ := hX;have HYY : Hid _ := hY;clear hX hY;generalize Xo = s at *;have kc := Lib.run_convert_bytes_const (P := Tryz.prog) (w1.alloc (.cells #[.slice b1 s.dk.blocks.length e1, .slice l1 s.dk.late.length m1, .slice i1 s.idx.length j1, .int .i64 s.next] 33)) 23 5 #[.int .u8 97, .int .u8 98] 2 2 Tryz.underlying23 Tryz.underlying5;rw [World.size_alloc] at kc;have ga := Zb w1 (.cells #[.slice b1 s.dk.blocks.length e1, .slice l1 s.dk.late.length m1, .slice i1 s.idx.length j1, .int .i64 s.next] 33);have hYa := Zl w1 #[.slice b1 s.dk.blocks.length e1, .slice l1 s.dk.late.length m1, .slice i1 s.idx.length j1, .int .i64 s.next] 33;have hSa := (h1.grow ga).any;have gwa := g1.trans ga;clear h1 g1 ga;go_wp2_with fail;clear kc;have gB := Zr (w1.alloc (.cells #[.slice b1 s.dk.blocks.length e1, .slice l1 s.dk.late.length m1, .slice i1 s.idx.length j1, .int .i64 s.next] 33)) (.cells #[.int .u8 97, .int .u8 98] 5 (2, 3)) (.cells #[.int .i64 1, .int .i64 7, .int .i64 0, .slice (some ⟨w1.heap.size + 1, 0, none⟩) 2 2] 25);have hb0 : ((w1.alloc (.cells #[.slice b1 s.dk.blocks.length e1, .slice l1 s.dk.late.length m1, .slice i1 s.idx.length j1, .int .i64 s.next] 33)).alloc (.cells #[.int .u8 97, .int .u8 98] 5 (2, 3))).heap[w1.heap.size + 1]? = some (.cells #[.int .u8 97, .int .u8 98] 5 (2, 3)) := by
  have e : w1.heap.size + 1 = (w1.alloc (.cells #[.slice b1 s.dk.blocks.length e1, .slice l1 s.dk.late.length m1, .slice i1 s.idx.length j1, .int .i64 s.next] 33)).heap.size := by simp
  rw [e];exact Array.getElem?_push_size
 have hD0 := Zl ((w1.alloc (.cells #[.slice b1 s.dk.blocks.length e1, .slice l1 s.dk.late.length m1, .slice i1 s.idx.length j1, .int .i64 s.next] 33)).alloc (.cells #[.int .u8 97, .int .u8 98] 5 (2, 3))) #[.int .i64 1, .int .i64 7, .int .i64 0, .slice (some ⟨w1.heap.size + 1, 0, none⟩) 2 2] 25;have hb1 := ((Zb ((w1.alloc (.cells #[.slice b1 s.dk.blocks.length e1, .slice l1 s.dk.late.length m1, .slice i1 s.idx.length j1, .int .i64 s.next] 33)).alloc (.cells #[.int .u8 97, .int .u8 98] 5 (2, 3))) (.cells #[.int .i64 1, .int .i64 7, .int .i64 0, .slice (some ⟨w1.heap.size + 1, 0, none⟩) 2 2] 25)).block _ (Za hb0)).trans hb0;rw [World.size_alloc, World.size_alloc] at hD0;have hY0 := (gB.block _ (Za hYa)).trans hYa;have hS0 := hSa.grow gB;have gw0 := gwa.trans gB;clear hb0 hYa hSa gwa gB;generalize World.alloc (World.alloc (World.alloc w1 _) _) _ = W at *;obtain ⟨N, hN⟩ : ∃ N, N = w1.heap.size := ⟨_, rfl⟩;rw [← hN] at hb1 hD0 hY0 ⊢;clear hN;have hd : Zz (fun b => b < W.heap.size) W (.slice (some ⟨N + 1, 0, none⟩) 2 2) [97, 98] := by
  refine .inr ⟨N + 1, 0, 2, Za hb1, rfl, Nat.le_refl _, fun i hi => ?_⟩;have hi2 : i < 2 := hi
  match i, hi2 with
  | 0, _ => exact Ze hb1 0 _ rfl
  | 1, _ => exact Ze hb1 1 _ rfl
 refine (SD (fun b => b < W.heap.size) s dS _ (some ⟨N + 1, 0, none⟩) 2 W (fun b h => h) hS0.now hd HA1.out (by decide)).mono ?_;rw [← HXX.out, HX.out.1, HX.out.2.1];rintro r w2 ⟨v2, rfl, h2, g2⟩;obtain ⟨b2, e2, l2, m2, i2, j2, hv2, -, -, -⟩ := h2.form;subst hv2;have g3 := Zb w2 (.cells #[.slice b2 X.st.dk.blocks.length e2, .slice l2 X.st.dk.late.length m2, .slice i2 X.st.idx.length j2, .int .i64 X.st.next] 33);have hX3 := Zl w2 #[.slice b2 X.st.dk.blocks.length e2, .slice l2 X.st.dk.late.length m2, .slice i2 X.st.idx.length j2, .int .i64 X.st.next] 33;have gg := g2.trans g3;have hXs := (h2.grow g3).any;have hY3 := (gg.block _ (Za hY0)).trans hY0;have hD3 := (gg.block _ (Za hD0)).trans hD0;have hS3 := hS0.grow gg;have hd3 := hd.grow gg;have gw3 := gw0.trans gg;clear h2 g2 g3 gg hY0 hD0 hS0 gw0 hd hb1;obtain ⟨y0, y1, y2, y3⟩ := Ye hY3 rfl rfl rfl rfl;obtain ⟨p0, p1, p2, p3⟩ := Ye hD3 rfl rfl rfl rfl;go_wp2_with fail;obtain ⟨XB, hXB⟩ : ∃ XB, XB = w2.heap.size := ⟨_, rfl⟩;rw [← hXB] at hX3 ⊢;clear hXB;generalize World.alloc w2 _ = w3 at *;refine (SB (fun b => b < w3.heap.size) s dS _ (some ⟨N + 1, 0, none⟩) 2 w3 (fun b h => h) hS3.now (bytes_now hd3) HA1.out (by decide)).mono ?_;rw [← HYY.out, HY.out.1];obtain ⟨yn, hyn⟩ : ∃ yn, yn = Y.n := ⟨_, rfl⟩;rw [← hyn];clear hyn;rintro r w4 ⟨v4, rfl, h4, g4⟩;obtain ⟨b4, e4, l4, m4, i4, j4, hv4, -, -, -⟩ := h4.form;subst hv4
 have g5 := Zb w4 (.cells #[.slice b4 Y.st.dk.blocks.length e4, .slice l4 Y.st.dk.late.length m4, .slice i4 Y.st.idx.length j4, .int .i64 Y.st.next] 33);have hZ5 := Zl w4 #[.slice b4 Y.st.dk.blocks.length e4, .slice l4 Y.st.dk.late.length m4, .slice i4 Y.st.idx.length j4, .int .i64 Y.st.next] 33;have gg := g4.trans g5;have hYs := (h4.grow g5).any;have hX5 := (gg.block _ (Za hX3)).trans hX3;have hXs5 := hXs.grow gg;have gw5 := gw3.trans gg;clear y0 y1 y2 y3 p0 p1 p2 p3 h4 g4 g5 gg hY3 hD3 hS3 gw3 hd3 hX3 hXs;obtain ⟨x0, x1, x2, x3⟩ := Ye hX5 rfl rfl rfl rfl;go_wp2_with fail;obtain ⟨ZB, hZB⟩ : ∃ ZB, ZB = w4.heap.size := ⟨_, rfl⟩;rw [← hZB] at hZ5 ⊢;clear hZB;generalize World.alloc w4 _ = w5 at *;refine (SG (fun b => b < w5.heap.size) X.st 7 _ w5 (fun b h => h) hXs5.now HX.out.2.2.2.2.2).mono ?_;rw [HX.out.2.2.1, Zws];rintro r w6 ⟨u6, hr6, hu6, g6⟩;obtain ⟨a6, c6, rfl⟩ : ∃ a c, u6 = .slice a 2 c := hu6.form;obtain rfl : r = .returned (.tuple #[.slice a6 2 c6, .int .i64 0]) := hr6;have hX6 := (g6.block _ (Za hX5)).trans hX5;have hZ6 := (g6.block _ (Za hZ5)).trans hZ5;have hXs6 := hXs5.grow g6;have hYs6 := hYs.grow g6;have gw6 := gw5.trans g6;clear x0 x1 x2 x3 hX5 hZ5 hXs5 hYs gw5 g6;obtain ⟨z0, z1⟩ := X4 hZ6 rfl rfl;go_wp2_with fail;obtain ⟨vb, vl, vi, hvv, hb6, hl6, -⟩ := hYs6.now;cases hvv;refine (SM (fun b => b < w6.heap.size) Y.st.dk _ w6 (fun b h => h) ⟨_, _, rfl, hb6, hl6⟩ HY.out.2.2.2).mono ?_;have HMA : Hid ((Xv Y.st.dk).At) := K6 HY.out.2.2.2
 have HMR : Hid ((Xv Y.st.dk).recs = []) := HY.out.2.2.1;generalize Xv Y.st.dk = M at *;rintro r w7 ⟨v7, rfl, h7, g7⟩;obtain ⟨b7, e7, l7, m7, i7, j7, hv7, -, -, -⟩ := h7.form;subst hv7;have g8 := Zb w7 (.cells #[.slice b7 M.dk.blocks.length e7, .slice l7 M.dk.late.length m7, .slice i7 M.idx.length j7, .int .i64 M.next] 33);have hM8 := Zl w7 #[.slice b7 M.dk.blocks.length e7, .slice l7 M.dk.late.length m7, .slice i7 M.idx.length j7, .int .i64 M.next] 33;have gg := g7.trans g8;have hMs := (h7.grow g8).any;have hX8 := (gg.block _ (Za hX6)).trans hX6;have hZ8 := (gg.block _ (Za hZ6)).trans hZ6;have hXs8 := hXs6.grow gg;have hu8 := Z3 hu6.p gg;have gw8 := gw6.trans gg;have rs8 := Zr1 _ _ _ hu8;clear z0 z1 hX6 hZ6 hXs6 hYs6 gw6 hb6 hl6 h7 g7 g8 gg hu6;have hlt := HY.out.2.1;have z1 := Ze hZ8 1 _ rfl;rw [hlt] at z1;obtain ⟨k0, k1, k2, k3⟩ := Ye hM8 rfl rfl rfl rfl;clear hlt;go_wp2_with fail;generalize World.alloc w7 _ = w8 at *;refine (SR (fun b => b < w8.heap.size) M _ w8 (fun b h => h) hMs.now HMA.out).mono ?_;rw [HMR.out];rintro r w9 ⟨v9, rfl, h9, g9⟩;obtain ⟨a9, c9, rfl⟩ : ∃ a c, v9 = .slice a 0 c := Yj.form h9;have hX9 := (g9.block _ (Za hX8)).trans hX8;have hXs9 := hXs8.grow g9;have gw9 := gw8.trans g9;clear z1 k0 k1 k2 k3 hM8 hMs hX8 hZ8 hXs8 gw8 h9 g9 hu8 rs8;obtain ⟨x0, x1⟩ := X4 hX9 rfl rfl;go_wp2_with fail;obtain ⟨vb, vl, vi, hvv, hb9, hl9, -⟩ := hXs9.now;cases hvv
 refine (SM (fun b => b < w9.heap.size) X.st.dk _ w9 (fun b h => h) ⟨_, _, rfl, hb9, hl9⟩ (HX.out.2.2.2.2.2.ok.disk.mono (by omega))).mono ?_;have HNA : Hid ((Xv X.st.dk).At) := K6 HX.out.2.2.2.2.2.ok.disk;have HNR : Hid ((Xv X.st.dk).recs = [rS]) := HX.out.2.2.2.2.1;generalize Xv X.st.dk = M2 at *;rintro r wA ⟨vA, rfl, hA, gA⟩;obtain ⟨bA, eA, lA, mA, iA, jA, hvA, -, -, -⟩ := hA.form;subst hvA;have hXA := (gA.block _ (Za hX9)).trans hX9;have hXsA := hXs9.grow gA;have gwA := gw9.trans gA;clear x0 x1 hX9 hXs9 gw9 gA hb9 hl9;go_wp2_with fail;refine (SR (fun b => b < wA.heap.size) M2 _ wA (fun b h => h) hA.any.now HNA.out).mono ?_;rw [HNR.out];rintro r wB ⟨vB, rfl, hB, gB⟩;obtain ⟨aB, cB, rfl⟩ : ∃ a c, vB = .slice a 1 c := Yj.form hB;have hXB := (gB.block _ (Za hXA)).trans hXA;have hXsB := hXsA.grow gB;have gwB := gwA.trans gB;clear hA hXA hXsA gwA gB hB;obtain ⟨x0, x1, x2, x3⟩ := Ye hXB rfl rfl rfl rfl;go_wp2_with fail;refine (SL (fun b => b < wB.heap.size) X.st 1 9 _ wB (fun b h => h) hXsB.now HX.out.2.2.2.2.2).mono ?_;rw [HX.out.2.2.1, Zvb];rintro r wC ⟨vC, rfl, hC, gC⟩;obtain ⟨aC, cC, rfl⟩ := Z1 hC;have hXC := (gC.block _ (Za hXB)).trans hXB;have hXsC := hXsB.grow gC;have gwC := gwB.trans gC;clear x0 x1 x2 x3 hXB hXsB gwB gC hC;obtain ⟨x0, x1, x2, x3⟩ := Ye hXC rfl rfl rfl rfl;go_wp2_with fail;refine (SO (fun b => b < wC.heap.size) X.st _ wC (fun b h => h) hXsC.now HX.out.2.2.2.2.2).mono ?_;rintro r wD ⟨vD, rfl, hDs, gD⟩
 obtain ⟨bD, eD, lD, mD, iD, jD, hvD, -, -, -⟩ := hDs.form;subst hvD;have gE := gwC.trans gD;have HID : Hid (X.st.idx = [⟨rS, 0⟩]) := HX.out.2.2.2.1;rw [HID.out];simp only [List.length_cons, List.length_nil, Nat.zero_add];clear x0 x1 x2 x3 hXC hXsC gwC gD hDs;generalize X.st = Q at *;have hfi := Zkw;go_wp2_with fail;go_ret;exact ⟨rfl, gE⟩
end Go.Proofs.YtikhknkpndhakabGreat
