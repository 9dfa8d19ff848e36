import Derived.Test.YtpdnapbchcdhlabGreatSRec
set_option maxHeartbeats 8000000
namespace Go.Proofs.YtpdnapbchcdhlabGreat
set_option maxRecDepth 100000
open Go.RowKit Go.Deep
open Plain Reg
theorem Zt2 (S : Nat → Prop) (n : Nat) (s : St) (d : Dd) (v : Value) (ad : Option Addr) (c : Nat) (w : World) (hS : ∀ b, S b → b < w.heap.size) (hs : Z5 S s v w) (hd : Z1 S w (.slice ad d.data.length c) d.data) (hO : s.Ok n) (hn : n ≤ 900) (hdl : d.data.length ≤ 140737488355328) :
  Calls Tryz.prog 16 #[v, .agg #[.int .i64 d.kind, .int .i64 d.key, .int .i64 d.num, .slice ad d.data.length c]] w fun r w' => ∃ v', r = .returned (.tuple #[v', .int .i64 (s.doS d).n, .int .i64 (s.doS d).e]) ∧ Z5 (Zy S w.heap.size) (s.doS d).st v' w' ∧ Zo w w' := by
 obtain ⟨ab, cb, al, cl, ai, ci, rfl, -, -, -⟩ := hs.form;have g0 := (Zu w (.cells #[.slice ab s.dk.blocks.length cb, .slice al s.dk.late.length cl, .slice ai s.idx.length ci, .int .i64 s.next] 33) (.cells #[.int .i64 d.kind, .int .i64 d.key, .int .i64 d.num, .slice ad d.data.length c] 25)).trans (Zd _ Xc);have hs0 := Zj w #[.slice ab s.dk.blocks.length cb, .slice al s.dk.late.length cl, .slice ai s.idx.length ci, .int .i64 s.next] 33;have hd0 := Zj (w.alloc (.cells #[.slice ab s.dk.blocks.length cb, .slice al s.dk.late.length cl, .slice ai s.idx.length ci, .int .i64 s.next] 33)) #[.int .i64 d.kind, .int .i64 d.key, .int .i64 d.num, .slice ad d.data.length c] 25;have hz0 := Zj ((w.alloc (.cells #[.slice ab s.dk.blocks.length cb, .slice al s.dk.late.length cl, .slice ai s.idx.length ci, .int .i64 s.next] 33)).alloc (.cells #[.int .i64 d.kind, .int .i64 d.key, .int .i64 d.num, .slice ad d.data.length c] 25)) #[.slice none 0 0, .slice none 0 0, .slice none 0 0, .int .i64 0] 33;have hs1 := ((Zu (w.alloc (.cells #[.slice ab s.dk.blocks.length cb, .slice al s.dk.late.length cl, .slice ai s.idx.length ci, .int .i64 s.next] 33)) (.cells #[.int .i64 d.kind, .int .i64 d.key, .int .i64 d.num, .slice ad d.data.length c] 25) Xc).block _ (Za hs0)).trans hs0
 have hd1 := ((Zd ((w.alloc (.cells #[.slice ab s.dk.blocks.length cb, .slice al s.dk.late.length cl, .slice ai s.idx.length ci, .int .i64 s.next] 33)).alloc (.cells #[.int .i64 d.kind, .int .i64 d.key, .int .i64 d.num, .slice ad d.data.length c] 25)) Xc).block _ (Za hd0)).trans hd0;rw [World.size_alloc] at hd1;rw [World.size_alloc, World.size_alloc] at hz0;clear hs0 hd0;obtain ⟨B, hB⟩ : ∃ B, B = s.begin d := ⟨_, rfl⟩;obtain ⟨R, hR⟩ : ∃ R, R = s.doS d := ⟨_, rfl⟩;rw [← hR];have HR : Hid (R = if B.e = 0 then ⟨⟨B.st.dk.flush, B.st.idx, B.st.next⟩, B.n, 0⟩ else B) := by show R = _; rw [hR, hB]; rfl
 have HOB : Hid (B.st.Ok (n + 2)) := by rw [hB]; exact K4 hO
 have HB : Hid _ := hB;clear hR hB;go_enter Tryz.func16, Tryz.ntmps16;obtain ⟨d0, d1, d2, d3⟩ := Z7 hd1 rfl rfl rfl rfl;obtain ⟨s0, s1, s2, s3⟩ := Z7 hs1 rfl rfl rfl rfl;go_wp2_with fail;obtain ⟨W, hW⟩ : ∃ W, W = ((w.alloc (.cells #[.slice ab s.dk.blocks.length cb, .slice al s.dk.late.length cl, .slice ai s.idx.length ci, .int .i64 s.next] 33)).alloc (.cells #[.int .i64 d.kind, .int .i64 d.key, .int .i64 d.num, .slice ad d.data.length c] 25)).alloc Xc := ⟨_, rfl⟩;rw [← hW] at g0 hs1 hd1 hz0 d0 d1 d2 d3 s0 s1 s2 s3 ⊢;clear hW;have HWZ : Hid (w.heap.size + 2 < W.heap.size) := Za hz0;refine (Zgm S n s d _ ad c W (fun b h => Nat.lt_of_lt_of_le (hS b h) g0.size) (hs.grow g0) (hd.grow g0) hO hn hdl).mono ?_;rw [← HB.out];rintro r w1 ⟨v1, rfl, h1, g1⟩;obtain ⟨b1, e1, l1, m1, i1, j1, hv, k1, k2, k3⟩ := h1.capd.form;subst hv;have g2 := Zd w1 (.cells #[.slice b1 B.st.dk.blocks.length e1, .slice l1 B.st.dk.late.length m1, .slice i1 B.st.idx.length j1, .int .i64 B.st.next] 33);have hX := Zj w1 #[.slice b1 B.st.dk.blocks.length e1, .slice l1 B.st.dk.late.length m1, .slice i1 B.st.idx.length j1, .int .i64 B.st.next] 33;have hz3 := ((g1.trans g2).block _ (Za hz0)).trans hz0;have gw3 := (g0.trans g1).trans g2;have u1 := k1.grow g2;have u2 := k2.grow g2;have u3 := k3.grow g2;have HG : Hid (w.heap.size + 2 < w1.heap.size) := Nat.lt_of_lt_of_le HWZ.out g1.size;clear hs1 hd1 hz0 g0 g1 g2 d0 d1 d2 d3 s0 s1 s2 s3 h1 hs k1 k2 k3;obtain ⟨x0, x1, x2, x3⟩ := Z7 hX rfl rfl rfl rfl
 have HSG : Hid (∀ b, S b → b < w1.heap.size) := fun b h => by have := hS b h; have := HG.out; omega
 by_cases he : B.e = 0
 ·have dE : (B.e == 0) = true := by simp [he]
  obtain ⟨FD, hFD⟩ : ∃ FD, FD = B.st.dk.flush := ⟨_, rfl⟩;obtain rfl : R = ⟨⟨FD, B.st.idx, B.st.next⟩, B.n, 0⟩ := by rw [HR.out, if_pos he, hFD]
  have HFD : Hid _ := hFD;have HE0 : Hid (B.e = 0) := he;clear HR he hFD;go_wp2_with fail;clear dE;have cs := Zx;obtain ⟨W3, hW3⟩ : ∃ W3, W3 = w1.alloc (.cells #[.slice b1 B.st.dk.blocks.length e1, .slice l1 B.st.dk.late.length m1, .slice i1 B.st.idx.length j1, .int .i64 B.st.next] 33) := ⟨_, rfl⟩;rw [← hW3] at hX hz3 gw3 u1 u2 u3 x0 x1 x2 x3 ⊢;clear hW3;obtain ⟨G, hG⟩ : ∃ G, G = w1.heap.size := ⟨_, rfl⟩;rw [← hG] at hX HG HSG u1 u2 u3 x0 x1 x2 x3 ⊢;clear hG;have HW3 : Hid (G < W3.heap.size) := Za hX;have HFF : Hid _ := HOB.out.disk;refine (Zon B.st.dk _ _ W3 u1.p u2.p (by rw [HFF.out.len]; omega) (by rw [HFF.out.len]; omega) (by have := HFF.out.few; omega) HFF.out.b16 HFF.out.l16 HFF.out.pl).mono ?_;rw [← HFD.out];rintro r w4 ⟨v4, rfl, hQ, g4⟩;have h4 := hQ.s S;obtain ⟨b4, e4, l4, m4, rfl, h4b, h4l⟩ := h4.form;have hs4 := (g4.block _ (Za hX)).trans hX;have hz4 := (g4.block _ (Za hz3)).trans hz3;have gw4 := gw3.trans g4;have u34 := u3.grow g4;clear x0 x1 x2 x3 hX hz3 gw3 g4 u1 u2 u3 h4 hQ;have hns3 : ¬ Zy S W3.heap.size G := Yq HSG.out HW3.out;have hnz3 : ¬ Zy S W3.heap.size (w.heap.size + 2) := Yq (fun b h => by have := hS b h; omega) (by have := HG.out; have := HW3.out; omega);have hnz1 : ¬ (Zy S W.heap.size (w.heap.size + 2) ∧ w.heap.size + 2 < G) := fun h => Yq (fun b h => by have := hS b h; omega) HWZ.out h.1
  obtain ⟨ht1, ht2⟩ := Zcv hs4 (.slice b4 FD.blocks.length e4) (.slice l4 FD.late.length m4);have hz5 := (ht2.block _ (Za hz4) (by have := HG.out; omega)).trans hz4;have gw5 := ht2.grow gw4 (by have := HG.out; omega);have p1 := h4b.but ht2 hns3;have p2 := h4l.but ht2 hns3;have p3 := u34.but ht2 (fun h => Nat.lt_irrefl _ h.2);obtain ⟨y0, y1, y2, y3⟩ := Z7 hs4 rfl rfl rfl rfl;have f0 := Zr hs4 0;have f1 := Zr hs4 1;obtain ⟨t0, t1, t2, t3⟩ := Z7 ht1 rfl rfl rfl rfl;obtain ⟨hq1, hq2⟩ := Ym hz5 (.slice b4 FD.blocks.length e4) (.slice l4 FD.late.length m4) (.slice i1 B.st.idx.length j1) (.int .i64 B.st.next);obtain ⟨z0, z1, z2, z3⟩ := Z7 hz5 rfl rfl rfl rfl;obtain ⟨o0, o1, o2, o3⟩ := Yt hz5;obtain ⟨x0, x1, x2, x3⟩ := Z7 hq1 rfl rfl rfl rfl;have gE := hq2.grow gw5 (by omega);have hE : Z5 (Zy S w.heap.size) ⟨FD, B.st.idx, B.st.next⟩ (.agg #[.slice b4 FD.blocks.length e4, .slice l4 FD.late.length m4, .slice i1 B.st.idx.length j1, .int .i64 B.st.next]) _ := ⟨_, _, _, rfl, (p1.but hq2 hnz3).mono (Ya (by have := HG.out; have := HW3.out; omega)), (p2.but hq2 hnz3).mono (Ya (by have := HG.out; have := HW3.out; omega)), (p3.but hq2 hnz1).mono (fun b h => Ya (by have := HWZ.out; omega) b h.1)⟩;clear hq1 hq2 hz5 gw5 p1 p2 p3 ht1 ht2 hs4 hz4 gw4 h4b h4l u34;go_wp2_with fail
  exact bodyPost_ret (v := .tuple #[.agg #[.slice b4 FD.blocks.length e4, .slice l4 FD.late.length m4, .slice i1 B.st.idx.length j1, .int .i64 B.st.next], .int .i64 B.n, .int .i64 B.e]) (by simp [results, Tryz.results16, go_sem, x0, x1, x2, x3]) rfl ⟨_, by rw [HE0.out], hE, gE⟩
 ·have dE : (B.e == 0) = false := by simp [he]
  have cs := Zx;obtain rfl : R = B := by rw [HR.out, if_neg he]
  clear HR he HB;have hnz : ¬ (Zy S W.heap.size (w.heap.size + 2) ∧ w.heap.size + 2 < w1.heap.size) := fun h => Yq (fun b h => by have := hS b h; omega) HWZ.out h.1
  obtain ⟨hq1, hq2⟩ := Ym hz3 (.slice b1 R.st.dk.blocks.length e1) (.slice l1 R.st.dk.late.length m1) (.slice i1 R.st.idx.length j1) (.int .i64 R.st.next);obtain ⟨z0, z1, z2, z3⟩ := Z7 hz3 rfl rfl rfl rfl;obtain ⟨o0, o1, o2, o3⟩ := Yt hz3;obtain ⟨t0, t1, t2, t3⟩ := Z7 hq1 rfl rfl rfl rfl;have gE := hq2.grow gw3 (by omega);have hE : Z5 (Zy S w.heap.size) R.st (.agg #[.slice b1 R.st.dk.blocks.length e1, .slice l1 R.st.dk.late.length m1, .slice i1 R.st.idx.length j1, .int .i64 R.st.next]) _ := ⟨_, _, _, rfl, (u1.but hq2 hnz).mono (fun b h => Ya (by have := HWZ.out; omega) b h.1), (u2.but hq2 hnz).mono (fun b h => Ya (by have := HWZ.out; omega) b h.1), (u3.but hq2 hnz).mono (fun b h => Ya (by have := HWZ.out; omega) b h.1)⟩;clear hq1 hq2 hz3 gw3 u1 u2 u3 hX;go_wp2_with fail;exact bodyPost_ret (v := .tuple #[.agg #[.slice b1 R.st.dk.blocks.length e1, .slice l1 R.st.dk.late.length m1, .slice i1 R.st.idx.length j1, .int .i64 R.st.next], .int .i64 R.n, .int .i64 R.e]) (by simp [results, Tryz.results16, go_sem, t0, t1, t2, t3]) rfl ⟨_, rfl, hE, gE⟩
variable {T : TypeId} {ds xs zs : List Int} {m : Nat}
theorem Zup (x y : Int) (w : World) (h : ¬ x < y) : Calls Tryz.prog 131 #[.int .i64 x, .int .i64 y] w fun e w' => e = .returned (.bool false) ∧ w' = w := by
 go_enter Tryz.func131, Tryz.ntmps131;go_wp2_with fail;refine (Zbc _ _).mono ?_;rintro e w1 ⟨rfl, rfl⟩;go_wp2_with fail;go_ret;exact ⟨by show Ending.returned (.bool (decide (x < y))) = _; rw [decide_eq_false (by omega)], rfl⟩
def Ze3 (ao : Option Addr) (xs : List Int) (w : World) : Prop := ∀ (j : Nat) (h : j < xs.length), ∃ g, ao = some ⟨g, 0, none⟩ ∧ w.cell? ⟨g, j, none⟩ = some (.int .i64 xs[j])
theorem Zt6 {w : World} {B n cap : Nat} {ao : Option Addr} (h : w.ownsRow B T 1 (.slice ao n cap) n (xs.map (Value.int .i64))) : Ze3 ao xs w := fun j hj => by
 rcases h.2 with ⟨e, h0⟩ | ⟨q, cap', cur, e, _⟩
 ·have := h.1;simp at this; omega
 ·cases e;have hn : xs.length = n := by have := h.1; simp at this; exact this
  exact ⟨q, rfl, by rw [h.cellAt j (by omega)]; simp [hj]⟩
theorem Zof (xs : List Int) (ao : Option Addr) (cap : Nat) (w : World) (hn : xs.length ≤ 12) (hs : xs.Pairwise (· ≤ ·)) (hc : Ze3 ao xs w) :
  Calls Tryz.prog 125 #[.slice ao xs.length cap, .int .i64 0, .int .i64 (xs.length : Int)] w fun e w' => e = .returned (.tuple #[]) ∧ Zo w w' := by
 go_enter Tryz.func125, Tryz.ntmps125;go_wp2_with fail;go_loopw [6] (fun i wr => ∃ k : Nat, (k + 1 ≤ xs.length ∨ k = 0) ∧ i = .int .i64 ((k : Int) + 1) ∧ Zo w wr) (fun i _ => xs.length - (intOf i).toNat)
 case atStart => exact ⟨0, .inr rfl, rfl, Zo.refl _⟩
 case round =>
  obtain ⟨m, hk2, rfl, hG⟩ := hrel;by_cases hlt : m + 1 < xs.length
  ·have d0 : (m : Int) + 1 < (xs.length : Int) := by omega
   obtain ⟨g, hgo, q1⟩ := hc (m + 1) hlt;obtain ⟨g', e', p1⟩ := hc m (by omega);rw [hgo] at e';cases e';subst hgo;have q0 := (Below.cell hG (Zs q1)).trans q1;have p0 := (Below.cell hG (Zs p1)).trans p1;have HL : Hid (¬ xs[m + 1] < xs[m]) := by
    have := List.pairwise_iff_getElem.1 hs m (m + 1) (by omega) hlt (by omega);show ¬ _;omega
   generalize xs[m + 1] = y at *;generalize xs[m] = x at *;clear q1 p1;go_wp2_with fail;obtain ⟨wo, rfl⟩ : ∃ wo : World, wo = wr := ⟨_, rfl⟩;go_loopw [7] (fun i wq => i = .int .i64 ((m : Int) + 1) ∧ wo = wq) (fun _ _ => 0)
   case atStart => exact ⟨rfl, rfl⟩
   case round =>
    obtain ⟨rfl, hww⟩ := hrel;subst hww;go_wp2_with fail;refine Zz [ex (.int .i64 ((m : Int) + 1)), ex (.int .i64 0), ex (.bool true), ex (.bool true), ex (.slice (some ⟨g, 0, none⟩) xs.length cap), ex (.int .i64 ((m : Int) + 1)), ex (.pointer (some ⟨g, m + 1, none⟩)), ex (.int .i64 y), ex (.slice (some ⟨g, 0, none⟩) xs.length cap), ex (.int .i64 ((m : Int) + 1)), ex (.int .i64 (m : Int)), ex (.pointer (some ⟨g, m, none⟩)), ex (.int .i64 x), ex (.bool false), ex (.bool false)] (by kernel_rfl) (by kernel_rfl) ⟨Zf _, Zf _, Zf _, Zf _, Zf _, Zf _, Zf _, Zf _, Zf _, Zf _, Zf _, Zf _, Zf _, Zf _, Zf _, trivial⟩ ?_ ?_
    ·refine ⟨?_, ?_, ?_, ?_, ?_, ?_, ?_, ?_, ?_, ?_, ?_, ?_, ?_, ?_, ?_, trivial⟩
     ·exact Zb rfl fun a _ _ _ _ A => Zn rfl (Zq A 7 rfl)
     ·exact Zb rfl fun a _ _ _ _ A => Zn rfl (Zq A 1 rfl)
     ·refine Zb rfl fun a _ _ _ B A => ?_;have e16 : a (.tmp 16) = _ := Zc A 0 rfl;have e17 : a (.tmp 17) = _ := Zc A 1 rfl;refine Zi ?_ rfl;clear A B;go_simp;all_goals go_arith
     ·exact Zb rfl fun a _ _ _ _ A => Zn rfl (Zc A 2 rfl)
     ·exact Zm 3 true rfl rfl rfl fun a _ _ _ _ A => Zn rfl (Zq A 0 rfl)
     ·exact Zm 3 true rfl rfl rfl fun a _ _ _ _ A => Zn rfl (Zq A 7 rfl)
     ·refine Zm 3 true rfl rfl rfl fun a _ _ _ B A => ?_;have e20 : a (.tmp 20) = _ := Zc A 4 rfl;have e21 : a (.tmp 21) = _ := Zc A 5 rfl;refine Zi ?_ rfl;clear A B;go_simp;all_goals go_arith
     ·refine Zm 3 true rfl rfl rfl fun a _ _ _ B A => ?_;have e22 : a (.tmp 22) = _ := Zc A 6 rfl;have h0 := (Below.cell B (Zs q0)).trans q0;refine Zi ?_ rfl;clear A B;go_simp;all_goals go_arith
     ·exact Zm 3 true rfl rfl rfl fun a _ _ _ _ A => Zn rfl (Zq A 0 rfl)
     ·exact Zm 3 true rfl rfl rfl fun a _ _ _ _ A => Zn rfl (Zq A 7 rfl)
     ·refine Zm 3 true rfl rfl rfl fun a _ _ _ B A => ?_;have e25 : a (.tmp 25) = _ := Zc A 9 rfl;refine Zi ?_ rfl;clear A B;go_simp;all_goals go_arith
     ·refine Zm 3 true rfl rfl rfl fun a _ _ _ B A => ?_;have e24 : a (.tmp 24) = _ := Zc A 8 rfl;have e26 : a (.tmp 26) = _ := Zc A 10 rfl;refine Zi ?_ rfl;clear A B;go_simp;all_goals go_arith
     ·refine Zm 3 true rfl rfl rfl fun a _ _ _ B A => ?_;have e27 : a (.tmp 27) = _ := Zc A 11 rfl;have h0 := (Below.cell B (Zs p0)).trans p0;refine Zi ?_ rfl;clear A B;go_simp;all_goals go_arith
     ·refine Zm 3 true rfl rfl rfl fun a B _ _ C A => ?_;have e23 : a (.tmp 23) = _ := Zc A 7 rfl;have e28 : a (.tmp 28) = _ := Zc A 12 rfl;refine Yi (f := 131) (args := #[.int .i64 y, .int .i64 x]) ?_ ((Zup y x B (by have := HL.out; omega)).mono ?_)
      ·clear A C;go_simp;all_goals go_arith
      ·rintro e w2 ⟨rfl, rfl⟩;exact ⟨_, rfl, Zo.refl _, rfl⟩
     ·refine Zb rfl fun a _ _ _ _ A => ?_;have ec : a (.tmp 19) = _ := Zc A 3 rfl;have e : a (.tmp 29) = _ := Zc A 13 rfl;exact Yu rfl ec e
    ·intro vs w' hg ht;obtain ⟨(r16 : vs 0 = _), (r17 : vs 1 = _), (r18 : vs 2 = _), (r19 : vs 3 = _), (r20 : vs 4 = _), (r21 : vs 5 = _), (r22 : vs 6 = _), (r23 : vs 7 = _), (r24 : vs 8 = _), (r25 : vs 9 = _), (r26 : vs 10 = _), (r27 : vs 11 = _), (r28 : vs 12 = _), (r29 : vs 13 = _), (r30 : vs 14 = _), -⟩ := ht;simp only [Yc, Act.put, List.setIfInBounds_toArray, List.set_cons_zero, List.set_cons_succ, r16, r17, r18, r19, r20, r21, r22, r23, r24, r25, r26, r27, r28, r29, r30];clear r16 r17 r18 r19 r20 r21 r22 r23 r24 r25 r26 r27 r28 r29 r30;have hG2 := hG.trans hg;clear hg hG p0 q0 HL;go_wp2_with fail;go_roundw
     case rel => exact ⟨m + 1, by omega, by go_num, hG2⟩
     case measure => simp [intOf]; omega
  ·have d0 : ¬ ((m : Int) + 1 < (xs.length : Int)) := by omega
   go_wp2_with fail;go_end0;exact ⟨rfl, hG⟩
theorem Zt1 (xs : List Int) (ao : Option Addr) (cap : Nat) (r : Int) (w : World) (hn : xs.length ≤ 12) (hs : xs.Pairwise (· ≤ ·)) (hc : Ze3 ao xs w) :
  Calls Tryz.prog 91 #[.slice ao xs.length cap, .int .i64 0, .int .i64 (xs.length : Int), .int .i64 r] w fun e w' => e = .returned (.tuple #[]) ∧ Zo w w' := by
 have HC : Hid (Ze3 ao xs w) := hc;clear hc;go_enter Tryz.func91, Tryz.ntmps91;go_wp2_with fail;go_loopw [1, 2] (fun i j wr => i = .int .i64 0 ∧ j = .int .i64 (xs.length : Int) ∧ w = wr) (fun _ _ _ => 0)
 case atStart => exact ⟨rfl, rfl, rfl⟩
 case round =>
  obtain ⟨rfl, rfl, hww⟩ := hrel;subst hww;have d0 : (xs.length : Int) ≤ 12 := by omega
  go_wp2_with fail;refine (Zof xs ao cap w hn hs HC.out).mono ?_;rintro e w1 ⟨rfl, hE⟩;clear HC d0;go_wp2_with fail;exact bodyPost_ret (v := .tuple #[]) (by simp [results, Tryz.results91, go_sem]) rfl ⟨rfl, hE⟩
theorem Zql (xs : List Int) (ao : Option Addr) (cap : Nat) (w : World) (hn : xs.length ≤ 6) (hs : xs.Pairwise (· ≤ ·)) (hc : Ze3 ao xs w) :
  Calls Tryz.prog 51 #[.slice ao xs.length cap] w fun e w' => e = .returned (.tuple #[]) ∧ Zo w w' := by
 have HC : Hid (Ze3 ao xs w) := hc;clear hc;have hn64 : (xs.length : Int) % 18446744073709551616 = (xs.length : Int) := by omega
 go_enter Tryz.func51, Tryz.ntmps51;go_wp2_with fail;refine (Zpw xs.length w hn).mono ?_;rintro e w1 ⟨r, rfl, rfl⟩;go_wp2_with fail;refine (Zt1 xs ao cap r w1 (by omega) hs HC.out).mono ?_;rintro e w2 ⟨rfl, hE⟩;clear HC;go_wp2_with fail;go_end0;exact ⟨rfl, hE⟩
structure Cpt (xs : List Int) (m : Nat) (ds zs : List Int) : Prop where
 len : zs.length = xs.length
 few : ds.length < m
 head : zs.take ds.length = ds
 tail : ∀ j, m ≤ j + 1 → zs[j]? = xs[j]?
 up : ds.Pairwise (· < ·)
 mem : ∀ x, x ∈ ds ↔ x ∈ xs.take m
theorem Zie (h0 : 1 ≤ m) (hm : m < xs.length) (he : xs[m] = xs[m - 1]) (x : Int) : x ∈ xs.take (m + 1) ↔ x ∈ xs.take m := by
 rw [List.take_succ_eq_append_getElem hm, List.mem_append, List.mem_singleton, he];refine ⟨fun h => h.elim (fun h => h) fun h => ?_, .inl⟩;rw [h];exact List.mem_iff_getElem.2 ⟨m - 1, by rw [List.length_take]; omega, by rw [List.getElem_take]⟩
theorem Cpt.start (h0 : 1 ≤ m) (hm : m < xs.length) (he : xs[m] = xs[m - 1]) (hu : (xs.take m).Pairwise (· < ·)) : Cpt xs (m + 1) (xs.take m) xs :=
 ⟨rfl, by rw [List.length_take]; omega, by rw [List.length_take, Nat.min_eq_left (by omega)], fun _ _ => rfl, hu, fun x => (Zie h0 hm he x).symm⟩
theorem Cpt.skip (h : Cpt xs m ds zs) (h0 : 1 ≤ m) (hm : m < xs.length) (he : xs[m] = xs[m - 1]) : Cpt xs (m + 1) ds zs :=
 ⟨h.len, Nat.lt_succ_of_lt h.few, h.head, fun j hj => h.tail j (by omega), h.up, fun x => (h.mem x).trans (Zie h0 hm he x).symm⟩
theorem Zgg (hs : xs.Pairwise (· ≤ ·)) (h0 : 1 ≤ m) (hm : m < xs.length) (he : xs[m] ≠ xs[m - 1]) : ∀ x ∈ xs.take m, x < xs[m] := fun x hx => by
 obtain ⟨i, hi, rfl⟩ := List.mem_iff_getElem.1 hx;rw [List.length_take] at hi;rw [List.getElem_take];have h1 := List.pairwise_iff_getElem.1 hs (m - 1) m (by omega) hm (by omega);by_cases e : i = m - 1
 ·subst e; omega
 ·have h2 := List.pairwise_iff_getElem.1 hs i (m - 1) (by omega) (by omega) (by omega);omega
theorem Zv2 (hs : xs.Pairwise (· ≤ ·)) (h0 : 1 ≤ m) (hm : m < xs.length) (he : xs[m] ≠ xs[m - 1]) (hu : (xs.take m).Pairwise (· < ·)) : (xs.take (m + 1)).Pairwise (· < ·) := by
 rw [List.take_succ_eq_append_getElem hm];exact List.pairwise_append.2 ⟨hu, by simp, fun x hx y hy => by rw [List.mem_singleton.1 hy]; exact Zgg hs h0 hm he x hx⟩
theorem Cpt.put (h : Cpt xs m ds zs) (hs : xs.Pairwise (· ≤ ·)) (hm : m < xs.length) (he : xs[m] ≠ xs[m - 1]) : Cpt xs (m + 1) (ds ++ [xs[m]]) (zs.set ds.length xs[m]) := by
 have hf := h.few;have hl := h.len;refine ⟨by simp [hl], by simp; omega, ?_, fun j hj => by rw [List.getElem?_set_ne (by omega)]; exact h.tail j (by omega), ?_, fun x => ?_⟩
 ·rw [List.length_append, List.length_singleton, List.take_succ_eq_append_getElem (by simp; omega), List.getElem_set_self, List.take_set, List.set_eq_of_length_le (by rw [List.length_take]; omega), h.head]
 ·refine List.pairwise_append.2 ⟨h.up, by simp, fun x hx y hy => ?_⟩;rw [List.mem_singleton.1 hy];exact Zgg hs (by omega) hm he x ((h.mem x).1 hx)
 ·rw [List.take_succ_eq_append_getElem hm, List.mem_append, List.mem_append, h.mem]
theorem Zjb {g : Nat} {f} : ∀ (vs : List Value) (o : Nat) (w : World) (cur : Array Value), w.heap[g]? = some (.cells cur T f) →
  ∃ cur', (w.setCells g o vs).heap[g]? = some (.cells cur' T f) ∧ cur'.size = cur.size ∧ (∀ i, i < o → cur'[i]? = cur[i]?) ∧ Zt g w (w.setCells g o vs)
 | [], o, w, cur, h => ⟨cur, h, rfl, fun _ _ => rfl, Zt.refl _ _⟩
 | v :: vs, o, w, cur, h => by
  obtain ⟨c', h1, h2, h3, h4⟩ := Zjb vs (o + 1) _ _ (Yg h o v);refine ⟨c', h1, by rw [h2]; simp, fun i hi => ?_, ((Zt.refl g w).set _ _ _).trans h4⟩;rw [h3 i (by omega), Array.getElem?_setIfInBounds, if_neg (by omega)]
theorem Zi5 : (Tryz.prog.info? 3).map (fun i => (i.zero, i.size, i.bytes)) = some (some (.int .i64 0), 1, 8) := by kernel_rfl
theorem Zou (w : World) (b o n c : Nat) (hc : ∀ j, j < n + 1 → (w.cell? ⟨b, o + j, none⟩).isSome = true) (hf : ∀ j, j < n + 1 → w.frozen? ⟨b, o + j, none⟩ = false) :
  ∃ vs, ∀ ty, (Builtin.clear_ #[36] ty #[.slice (some ⟨b, o, none⟩) (n + 1) c]).run Tryz.prog w = .ok (.tuple #[]) (w.setCells b o vs) := by
 obtain ⟨i0, hif, hz0, hz1, hz2⟩ := info_parts Zi5;have hv : ∀ w, (zeroValue 3).run Tryz.prog w = .ok (.int .i64 0) w := fun w => by simp [zeroValue, typeInfo, hif, hz0]
 have hzl : (Builtin.zeroCells (Value.int .i64 0).cells (n + 1)).toList.length = n + 1 := by simp [Builtin.zeroCells, Value.cells]
 have hz1 : ∀ v ∈ (Builtin.zeroCells (Value.int .i64 0).cells (n + 1)).toList, v = Value.int .i64 0 := by simp [Builtin.zeroCells, Value.cells, Nat.mod_one]
 refine ⟨(Builtin.zeroCells (Value.int .i64 0).cells (n + 1)).toList, fun ty => ?_⟩;have hst := run_storeCells_cells (P := Tryz.prog) b o (Builtin.zeroCells (Value.int .i64 0).cells (n + 1)).toList 0 w (by rw [hzl]; simpa using hc) (by rw [hzl]; simpa using hf) (by intro v hv'; rw [hz1 v hv']; rfl);simp only [Nat.add_zero] at hst;simp [Builtin.clear_, run_underlying Tryz.underlying36, hv, hst]
variable {B cap g n : Nat} {w w0 : World} {zs : List Int}
structure Vo (B g n cap : Nat) (w0 : World) (zs : List Int) (w : World) : Prop where
 row : w.ownsRow B 3 1 (.slice (some ⟨g, 0, none⟩) n cap) n (zs.map (Value.int .i64))
 grow : Zo w0 w
theorem Vo.on {w' : World} (h : Vo B g n cap w0 zs w) (hg : Zo w w') : Vo B g n cap w0 zs w' := ⟨Z6 h.row hg, h.grow.trans hg⟩
theorem Vo.len (h : Vo B g n cap w0 zs w) : zs.length = n := by have := h.row.1; simpa using this
theorem Vo.cell (h : Vo B g n cap w0 zs w) {j : Nat} {x : Int} (hx : zs[j]? = some x) : w.cell? ⟨g, j, none⟩ = some (.int .i64 x) := by
 have hj := (List.getElem?_eq_some_iff.1 hx).1;rw [h.row.cellAt j (by rw [← h.len]; omega), List.getElem?_map, hx]; rfl
theorem Vo.put (h : Vo B g n cap w0 zs w) (hB : w0.heap.size ≤ B) (j : Nat) (x : Int) : Vo B g n cap w0 (zs.set j x) (w.setCell ⟨g, j, none⟩ (.int .i64 x)) :=
 ⟨by rw [List.map_set]; exact (h.row.stored j (.int .i64 x)).1, Z2 h.grow (Nat.le_trans hB (h.row.lt g rfl).1) _⟩
theorem Vo.cut {ds : List Int} (h : Vo B g n cap w0 zs w) (hB : w0.heap.size ≤ B) (hd : zs.take ds.length = ds) (hn : ds.length ≤ n) (vs : List Value) : Vo B g ds.length cap w0 ds (w.setCells g ds.length vs) := by
 have hl := h.len;have hg := h.row.lt g rfl;rcases h.row.2 with ⟨e, h0⟩ | ⟨q, cap', cur, e, hb, hh, hnc, hcm, hsz, ht⟩
 ·cases e
 ·cases e;obtain ⟨c', h1, h2, h3, h4⟩ := Zjb vs ds.length w cur hh;refine ⟨⟨by simp, .inr ⟨g, cap, c', rfl, hb, h1, by omega, hcm, by rw [h2]; exact hsz, ?_⟩⟩, h4.grow h.grow (by omega)⟩;rw [Nat.mul_one];have e1 : c'.toList.take ds.length = cur.toList.take ds.length := by
   apply List.ext_getElem?;intro i;rw [List.getElem?_take, List.getElem?_take];by_cases hi : i < ds.length
   ·rw [if_pos hi, if_pos hi, Array.getElem?_toList, Array.getElem?_toList, h3 i hi]
   ·rw [if_neg hi, if_neg hi]
  have e2 : (cur.toList.take (n * 1)).take ds.length = (zs.map (Value.int .i64)).take ds.length := by rw [ht]
  rw [List.take_take, Nat.min_eq_left (by omega), ← List.map_take, hd] at e2;rw [e1, e2]
theorem Zmo (B : Nat) (w0 : World) (xs : List Int) (ao : Option Addr) (cap : Nat) (w : World) (hn12 : xs.length ≤ 12) (hs : xs.Pairwise (· ≤ ·)) (hB : w0.heap.size ≤ B) (hG : Zo w0 w) (hR : w.ownsRow B 3 1 (.slice ao xs.length cap) xs.length (xs.map (Value.int .i64))) :
  Calls Tryz.prog 52 #[.slice ao xs.length cap] w fun e w' => ∃ (v : Value) (ds : List Int), e = .returned v ∧ w'.ownsRow B 3 1 v ds.length (ds.map (Value.int .i64)) ∧ ds.Pairwise (· < ·) ∧ (∀ x, x ∈ ds ↔ x ∈ xs) ∧ Zo w0 w' := by
 by_cases h2 : xs.length < 2
 ·have d0 : (xs.length : Int) < 2 := by omega
  have HU : Hid (xs.Pairwise (· < ·)) := by
   show List.Pairwise _ _
   match xs, h2 with
   | [], _ => exact List.Pairwise.nil
   | [_], _ => simp
   | _ :: _ :: _, h2 => simp at h2; omega
  have HR : Hid _ := hR;clear hR;go_enter Tryz.func52, Tryz.ntmps52;go_wp2_with fail;go_ret;exact ⟨_, xs, rfl, HR.out, HU.out, fun _ => Iff.rfl, hG⟩
 ·have d0 : ¬ ((xs.length : Int) < 2) := by omega
  obtain ⟨g, rfl⟩ : ∃ g, ao = some ⟨g, 0, none⟩ := by
   rcases hR.2 with ⟨e, h0⟩ | ⟨q, cap', cur, e, _⟩
   ·omega
   ·cases e; exact ⟨q, rfl⟩
  have hcap : xs.length ≤ cap := by
   rcases hR.2 with ⟨e, h0⟩ | ⟨q, cap', cur, e, hb, hh, hnc, hcm, _⟩
   ·omega
   ·cases e; exact hnc
  have HR : Hid (Vo B g xs.length cap w0 xs w) := ⟨hR, hG⟩;clear hR hG;go_enter Tryz.func52, Tryz.ntmps52;go_wp2_with fail;go_loopw [3] (fun i wr => ∃ k : Nat, k + 1 ≤ xs.length ∧ i = .int .i64 ((k : Int) + 1) ∧ (xs.take (k + 1)).Pairwise (· < ·) ∧ Vo B g xs.length cap w0 xs wr) (fun i _ => xs.length - (intOf i).toNat)
  case atStart =>
   refine ⟨0, by omega, rfl, ?_, HR.out⟩;rw [List.take_succ_eq_append_getElem (by omega)];simp
  case round =>
   clear HR d0;obtain ⟨m, hm, rfl, hU, hI⟩ := hrel;have HU : Hid _ := hU;have HI : Hid _ := hI;clear hU hI;by_cases hlt : m + 1 < xs.length
   ·have d1 : (m : Int) + 1 < (xs.length : Int) := by omega
    have q0 := HI.out.cell (j := m + 1) (List.getElem?_eq_getElem (by omega));have p0 := HI.out.cell (j := m) (List.getElem?_eq_getElem (by omega));by_cases he : xs[m + 1]'(by omega) = xs[m]'(by omega)
    ·have HC : Hid (Cpt xs (m + 2) (xs.take (m + 1)) xs) := Cpt.start (by omega) (by omega) he HU.out;have d2 : (xs[m + 1]'(by omega) == xs[m]'(by omega)) = true := by simp [he]
     generalize xs[m + 1]'(by omega) = y at *;generalize xs[m]'(by omega) = x at *;clear he HU;go_wp2_with fail;refine Zz [ex (.slice (some ⟨g, 0, none⟩) xs.length cap), ex (.int .i64 ((m : Int) + 1)), ex (.pointer (some ⟨g, m + 1, none⟩)), ex (.int .i64 y), ex (.slice (some ⟨g, 0, none⟩) xs.length cap), ex (.int .i64 ((m : Int) + 1)), ex (.int .i64 (m : Int)), ex (.pointer (some ⟨g, m, none⟩)), ex (.int .i64 x), ex (.bool true)] (by kernel_rfl) (by kernel_rfl) ⟨Zf _, Zf _, Zf _, Zf _, Zf _, Zf _, Zf _, Zf _, Zf _, Zf _, trivial⟩ ?_ ?_
     ·refine ⟨?_, ?_, ?_, ?_, ?_, ?_, ?_, ?_, ?_, ?_, trivial⟩
      ·exact Zb rfl fun a _ _ _ _ A => Zn rfl (Zq A 0 rfl)
      ·exact Zb rfl fun a _ _ _ _ A => Zn rfl (Zq A 3 rfl)
      ·refine Zb rfl fun a _ _ _ B A => ?_;have e16 : a (.tmp 16) = _ := Zc A 0 rfl;have e17 : a (.tmp 17) = _ := Zc A 1 rfl;refine Zi ?_ rfl;clear A B;go_simp;all_goals go_arith
      ·refine Zb rfl fun a _ _ _ B A => ?_;have e18 : a (.tmp 18) = _ := Zc A 2 rfl;have h0 := (Below.cell B (Zs q0)).trans q0;refine Zi ?_ rfl;clear A B;go_simp;all_goals go_arith
      ·exact Zb rfl fun a _ _ _ _ A => Zn rfl (Zq A 0 rfl)
      ·exact Zb rfl fun a _ _ _ _ A => Zn rfl (Zq A 3 rfl)
      ·refine Zb rfl fun a _ _ _ B A => ?_;have e21 : a (.tmp 21) = _ := Zc A 5 rfl;refine Zi ?_ rfl;clear A B;go_simp;all_goals go_arith
      ·refine Zb rfl fun a _ _ _ B A => ?_;have e20 : a (.tmp 20) = _ := Zc A 4 rfl;have e22 : a (.tmp 22) = _ := Zc A 6 rfl;refine Zi ?_ rfl;clear A B;go_simp;all_goals go_arith
      ·refine Zb rfl fun a _ _ _ B A => ?_;have e23 : a (.tmp 23) = _ := Zc A 7 rfl;have h0 := (Below.cell B (Zs p0)).trans p0;refine Zi ?_ rfl;clear A B;go_simp;all_goals go_arith
      ·refine Zb rfl fun a _ _ _ B A => ?_;have e19 : a (.tmp 19) = _ := Zc A 3 rfl;have e24 : a (.tmp 24) = _ := Zc A 8 rfl;refine Zi ?_ rfl;clear A B;go_simp;all_goals go_arith
     ·intro vs w' hg ht;obtain ⟨(r16 : vs 0 = _), (r17 : vs 1 = _), (r18 : vs 2 = _), (r19 : vs 3 = _), (r20 : vs 4 = _), (r21 : vs 5 = _), (r22 : vs 6 = _), (r23 : vs 7 = _), (r24 : vs 8 = _), (r25 : vs 9 = _), -⟩ := ht;simp only [Yc, Act.put, List.setIfInBounds_toArray, List.set_cons_zero, List.set_cons_succ, r16, r17, r18, r19, r20, r21, r22, r23, r24, r25];clear r16 r17 r18 r19 r20 r21 r22 r23 r24 r25;have HI2 : Hid _ := HI.out.on hg;clear hg HI p0 q0 d2 d1;have hmc : m + 1 < cap := by omega
      have HLX : Hid ((xs.take (m + 1)).length = m + 1) := by show _ = _; rw [List.length_take]; omega
      go_wp2_with fail;obtain ⟨wo, rfl⟩ : ∃ wo : World, wo = w' := ⟨_, rfl⟩;go_loopw [3, 5] (fun i j wq => ∃ (t K : Nat) (ds zs : List Int), i = .int .i64 (K : Int) ∧ j = .int .i64 ((t : Int) + 1) ∧ ds.length = K ∧ m + 1 + t + 1 ≤ xs.length ∧ Cpt xs (m + 1 + t + 1) ds zs ∧ Vo B g xs.length cap w0 zs wq) (fun _ j _ => xs.length - (intOf j).toNat)
      case atStart => exact ⟨0, m + 1, _, xs, by go_num, rfl, HLX.out, by omega, HC.out, HI2.out⟩
      case round =>
       clear HC HI2 HLX;obtain ⟨u, K, ds, zs, rfl, rfl, hK, hun, hC, hI⟩ := hrel;have HK : Hid _ := hK;have HC : Hid _ := hC;have HI : Hid _ := hI;have hKn : K < m + 1 + u + 1 := by have := hC.few; omega
       clear hK hC hI;by_cases hl2 : m + 1 + u + 1 < xs.length
       ·have d1 : (u : Int) + 1 < ((xs.length - (m + 1) : Nat) : Int) := by omega
        have q0 := HI.out.cell (j := m + 1 + (u + 1)) ((HC.out.tail _ (by omega)).trans (List.getElem?_eq_getElem (by omega)));have p0 := HI.out.cell (j := m + 1 + u) ((HC.out.tail _ (by omega)).trans (List.getElem?_eq_getElem (by omega)));have HSK : Hid (xs[m + 1 + (u + 1)]'(by omega) = xs[m + 1 + u]'(by omega) → Cpt xs (m + 1 + (u + 1) + 1) ds zs) := fun h => HC.out.skip (by omega) (by omega) h
        have HPT : Hid (xs[m + 1 + (u + 1)]'(by omega) ≠ xs[m + 1 + u]'(by omega) → Cpt xs (m + 1 + (u + 1) + 1) (ds ++ [xs[m + 1 + (u + 1)]'(by omega)]) (zs.set ds.length (xs[m + 1 + (u + 1)]'(by omega)))) := fun h => HC.out.put hs (by omega) h
        generalize xs[m + 1 + (u + 1)]'(by omega) = y at *;generalize xs[m + 1 + u]'(by omega) = x at *;clear HC;by_cases he : y = x
        ·have HC2 : Hid _ := HSK.out he;have d2 : (y != x) = false := by simp [he]
         clear he HSK HPT;go_wp2_with fail;refine Zz [ex (.slice (some ⟨g, m + 1, none⟩) (xs.length - (m + 1)) (cap - (m + 1))), ex (.int .i64 ((u : Int) + 1)), ex (.pointer (some ⟨g, m + 1 + (u + 1), none⟩)), ex (.int .i64 y), ex (.slice (some ⟨g, m + 1, none⟩) (xs.length - (m + 1)) (cap - (m + 1))), ex (.int .i64 ((u : Int) + 1)), ex (.int .i64 (u : Int)), ex (.pointer (some ⟨g, m + 1 + u, none⟩)), ex (.int .i64 x), ex (.bool false)] (by kernel_rfl) (by kernel_rfl) ⟨Zf _, Zf _, Zf _, Zf _, Zf _, Zf _, Zf _, Zf _, Zf _, Zf _, trivial⟩ ?_ ?_
         ·refine ⟨?_, ?_, ?_, ?_, ?_, ?_, ?_, ?_, ?_, ?_, trivial⟩
          ·exact Zb rfl fun a _ _ _ _ A => Zn rfl (Zq A 4 rfl)
          ·exact Zb rfl fun a _ _ _ _ A => Zn rfl (Zq A 5 rfl)
          ·refine Zb rfl fun a _ _ _ B A => ?_;have e35 : a (.tmp 35) = _ := Zc A 0 rfl;have e36 : a (.tmp 36) = _ := Zc A 1 rfl;refine Zi ?_ rfl;clear A B;go_simp;all_goals go_arith
          ·refine Zb rfl fun a _ _ _ B A => ?_;have e37 : a (.tmp 37) = _ := Zc A 2 rfl;have h0 := (Below.cell B (Zs q0)).trans q0;refine Zi ?_ rfl;clear A B;go_simp;all_goals go_arith
          ·exact Zb rfl fun a _ _ _ _ A => Zn rfl (Zq A 4 rfl)
          ·exact Zb rfl fun a _ _ _ _ A => Zn rfl (Zq A 5 rfl)
          ·refine Zb rfl fun a _ _ _ B A => ?_;have e40 : a (.tmp 40) = _ := Zc A 5 rfl;refine Zi ?_ rfl;clear A B;go_simp;all_goals go_arith
          ·refine Zb rfl fun a _ _ _ B A => ?_;have e39 : a (.tmp 39) = _ := Zc A 4 rfl;have e41 : a (.tmp 41) = _ := Zc A 6 rfl;refine Zi ?_ rfl;clear A B;go_simp;all_goals go_arith
          ·refine Zb rfl fun a _ _ _ B A => ?_;have e42 : a (.tmp 42) = _ := Zc A 7 rfl;have h0 := (Below.cell B (Zs p0)).trans p0;refine Zi ?_ rfl;clear A B;go_simp;all_goals go_arith
          ·refine Zb rfl fun a _ _ _ B A => ?_;have e38 : a (.tmp 38) = _ := Zc A 3 rfl;have e43 : a (.tmp 43) = _ := Zc A 8 rfl;refine Zi ?_ rfl;clear A B;go_simp;all_goals go_arith
         ·intro vs w' hg ht;obtain ⟨(r35 : vs 0 = _), (r36 : vs 1 = _), (r37 : vs 2 = _), (r38 : vs 3 = _), (r39 : vs 4 = _), (r40 : vs 5 = _), (r41 : vs 6 = _), (r42 : vs 7 = _), (r43 : vs 8 = _), (r44 : vs 9 = _), -⟩ := ht;simp only [Yc, Act.put, List.setIfInBounds_toArray, List.set_cons_zero, List.set_cons_succ, r35, r36, r37, r38, r39, r40, r41, r42, r43, r44];clear r35 r36 r37 r38 r39 r40 r41 r42 r43 r44;have HI2 : Hid _ := HI.out.on hg;clear hg HI p0 q0 d2 d1;go_wp2_with fail;go_roundw
          case rel => exact ⟨u + 1, K, ds, zs, rfl, by go_num, HK.out, by omega, HC2.out, HI2.out⟩
          case measure => simp [intOf]; omega
        ·have HC2 : Hid _ := HPT.out he;have d2 : (y != x) = true := by simp [he]
         clear he HSK HPT;go_wp2_with fail;refine Zz [ex (.slice (some ⟨g, m + 1, none⟩) (xs.length - (m + 1)) (cap - (m + 1))), ex (.int .i64 ((u : Int) + 1)), ex (.pointer (some ⟨g, m + 1 + (u + 1), none⟩)), ex (.int .i64 y), ex (.slice (some ⟨g, m + 1, none⟩) (xs.length - (m + 1)) (cap - (m + 1))), ex (.int .i64 ((u : Int) + 1)), ex (.int .i64 (u : Int)), ex (.pointer (some ⟨g, m + 1 + u, none⟩)), ex (.int .i64 x), ex (.bool true)] (by kernel_rfl) (by kernel_rfl) ⟨Zf _, Zf _, Zf _, Zf _, Zf _, Zf _, Zf _, Zf _, Zf _, Zf _, trivial⟩ ?_ ?_
         ·refine ⟨?_, ?_, ?_, ?_, ?_, ?_, ?_, ?_, ?_, ?_, trivial⟩
          ·exact Zb rfl fun a _ _ _ _ A => Zn rfl (Zq A 4 rfl)
          ·exact Zb rfl fun a _ _ _ _ A => Zn rfl (Zq A 5 rfl)
          ·refine Zb rfl fun a _ _ _ B A => ?_;have e35 : a (.tmp 35) = _ := Zc A 0 rfl;have e36 : a (.tmp 36) = _ := Zc A 1 rfl;refine Zi ?_ rfl;clear A B;go_simp;all_goals go_arith
          ·refine Zb rfl fun a _ _ _ B A => ?_;have e37 : a (.tmp 37) = _ := Zc A 2 rfl;have h0 := (Below.cell B (Zs q0)).trans q0;refine Zi ?_ rfl;clear A B;go_simp;all_goals go_arith
          ·exact Zb rfl fun a _ _ _ _ A => Zn rfl (Zq A 4 rfl)
          ·exact Zb rfl fun a _ _ _ _ A => Zn rfl (Zq A 5 rfl)
          ·refine Zb rfl fun a _ _ _ B A => ?_;have e40 : a (.tmp 40) = _ := Zc A 5 rfl;refine Zi ?_ rfl;clear A B;go_simp;all_goals go_arith
          ·refine Zb rfl fun a _ _ _ B A => ?_;have e39 : a (.tmp 39) = _ := Zc A 4 rfl;have e41 : a (.tmp 41) = _ := Zc A 6 rfl;refine Zi ?_ rfl;clear A B;go_simp;all_goals go_arith
          ·refine Zb rfl fun a _ _ _ B A => ?_;have e42 : a (.tmp 42) = _ := Zc A 7 rfl;have h0 := (Below.cell B (Zs p0)).trans p0;refine Zi ?_ rfl;clear A B;go_simp;all_goals go_arith
          ·refine Zb rfl fun a _ _ _ B A => ?_;have e38 : a (.tmp 38) = _ := Zc A 3 rfl;have e43 : a (.tmp 43) = _ := Zc A 8 rfl;refine Zi ?_ rfl;clear A B;go_simp;all_goals go_arith
         ·intro vs w' hg ht;obtain ⟨(r35 : vs 0 = _), (r36 : vs 1 = _), (r37 : vs 2 = _), (r38 : vs 3 = _), (r39 : vs 4 = _), (r40 : vs 5 = _), (r41 : vs 6 = _), (r42 : vs 7 = _), (r43 : vs 8 = _), (r44 : vs 9 = _), -⟩ := ht;simp only [Yc, Act.put, List.setIfInBounds_toArray, List.set_cons_zero, List.set_cons_succ, r35, r36, r37, r38, r39, r40, r41, r42, r43, r44];clear r35 r36 r37 r38 r39 r40 r41 r42 r43 r44;have hI2 := HI.out.on hg;have q1 := (Below.cell hg (Zs q0)).trans q0;obtain ⟨z, z0⟩ : ∃ z, w'.cell? ⟨g, K, none⟩ = some (.int .i64 z) := ⟨_, hI2.cell (j := K) (List.getElem?_eq_getElem (by rw [hI2.len]; omega))⟩;have f0 := hI2.row.frozenAt K;have HI3 : Hid _ := hI2.put hB K y;clear hg HI p0 q0 d2 d1 hI2;go_wp2_with fail;go_roundw
          case rel => exact ⟨u + 1, K + 1, ds ++ [y], zs.set ds.length y, by go_num, by go_num, by simp [HK.out], by omega, HC2.out, by rw [HK.out]; exact HI3.out⟩
          case measure => simp [intOf]; omega
       ·have d1 : ¬ ((u : Int) + 1 < ((xs.length - (m + 1) : Nat) : Int)) := by omega
        have HM : Hid (∀ x, x ∈ ds ↔ x ∈ xs) := fun x => by rw [HC.out.mem, List.take_of_length_le (by omega)]
        have HUP : Hid _ := HC.out.up;obtain ⟨vs, hvs⟩ : ∃ vs, ∀ ty, (Builtin.clear_ #[36] ty #[.slice (some ⟨g, K, none⟩) (xs.length - K) (cap - K)]).run Tryz.prog wr = .ok (.tuple #[]) (wr.setCells g K vs) := by
         obtain ⟨r, hr⟩ : ∃ r, xs.length - K = r + 1 := ⟨xs.length - K - 1, by omega⟩;have hI := HI.out;have hcl := Zou wr g K r (cap - K) (fun j hj => by rw [hI.cell (j := K + j) (List.getElem?_eq_getElem (by rw [hI.len]; omega))]; rfl) (fun j _ => hI.row.frozenAt _);rw [hr];exact hcl
        have HI2 : Hid (Vo B g ds.length cap w0 ds (wr.setCells g K vs)) := by have := HI.out.cut hB HC.out.head (by rw [HK.out]; omega) vs; rw [HK.out] at this ⊢; exact this
        have hKc : K < cap := by omega
        have hKn2 : K < xs.length := by omega
        clear HI HC;go_wp2_with fail;go_ret;exact ⟨_, rfl, ds, by have := HI2.out.row; rw [HK.out] at this ⊢; exact this, HUP.out, HM.out, HI2.out.grow⟩
    ·have HU2 : Hid _ := Zv2 hs (m := m + 1) (by omega) (by omega) he HU.out;have d2 : (xs[m + 1]'(by omega) == xs[m]'(by omega)) = false := by simp [he]
     generalize xs[m + 1]'(by omega) = y at *;generalize xs[m]'(by omega) = x at *;clear he HU;go_wp2_with fail;refine Zz [ex (.slice (some ⟨g, 0, none⟩) xs.length cap), ex (.int .i64 ((m : Int) + 1)), ex (.pointer (some ⟨g, m + 1, none⟩)), ex (.int .i64 y), ex (.slice (some ⟨g, 0, none⟩) xs.length cap), ex (.int .i64 ((m : Int) + 1)), ex (.int .i64 (m : Int)), ex (.pointer (some ⟨g, m, none⟩)), ex (.int .i64 x), ex (.bool false)] (by kernel_rfl) (by kernel_rfl) ⟨Zf _, Zf _, Zf _, Zf _, Zf _, Zf _, Zf _, Zf _, Zf _, Zf _, trivial⟩ ?_ ?_
     ·refine ⟨?_, ?_, ?_, ?_, ?_, ?_, ?_, ?_, ?_, ?_, trivial⟩
      ·exact Zb rfl fun a _ _ _ _ A => Zn rfl (Zq A 0 rfl)
      ·exact Zb rfl fun a _ _ _ _ A => Zn rfl (Zq A 3 rfl)
      ·refine Zb rfl fun a _ _ _ B A => ?_;have e16 : a (.tmp 16) = _ := Zc A 0 rfl;have e17 : a (.tmp 17) = _ := Zc A 1 rfl;refine Zi ?_ rfl;clear A B;go_simp;all_goals go_arith
      ·refine Zb rfl fun a _ _ _ B A => ?_;have e18 : a (.tmp 18) = _ := Zc A 2 rfl;have h0 := (Below.cell B (Zs q0)).trans q0;refine Zi ?_ rfl;clear A B;go_simp;all_goals go_arith
      ·exact Zb rfl fun a _ _ _ _ A => Zn rfl (Zq A 0 rfl)
      ·exact Zb rfl fun a _ _ _ _ A => Zn rfl (Zq A 3 rfl)
      ·refine Zb rfl fun a _ _ _ B A => ?_;have e21 : a (.tmp 21) = _ := Zc A 5 rfl;refine Zi ?_ rfl;clear A B;go_simp;all_goals go_arith
      ·refine Zb rfl fun a _ _ _ B A => ?_;have e20 : a (.tmp 20) = _ := Zc A 4 rfl;have e22 : a (.tmp 22) = _ := Zc A 6 rfl;refine Zi ?_ rfl;clear A B;go_simp;all_goals go_arith
      ·refine Zb rfl fun a _ _ _ B A => ?_;have e23 : a (.tmp 23) = _ := Zc A 7 rfl;have h0 := (Below.cell B (Zs p0)).trans p0;refine Zi ?_ rfl;clear A B;go_simp;all_goals go_arith
      ·refine Zb rfl fun a _ _ _ B A => ?_;have e19 : a (.tmp 19) = _ := Zc A 3 rfl;have e24 : a (.tmp 24) = _ := Zc A 8 rfl;refine Zi ?_ rfl;clear A B;go_simp;all_goals go_arith
     ·intro vs w' hg ht;obtain ⟨(r16 : vs 0 = _), (r17 : vs 1 = _), (r18 : vs 2 = _), (r19 : vs 3 = _), (r20 : vs 4 = _), (r21 : vs 5 = _), (r22 : vs 6 = _), (r23 : vs 7 = _), (r24 : vs 8 = _), (r25 : vs 9 = _), -⟩ := ht;simp only [Yc, Act.put, List.setIfInBounds_toArray, List.set_cons_zero, List.set_cons_succ, r16, r17, r18, r19, r20, r21, r22, r23, r24, r25];clear r16 r17 r18 r19 r20 r21 r22 r23 r24 r25;have HI2 : Hid _ := HI.out.on hg;clear hg HI p0 q0 d2 d1;go_wp2_with fail;go_roundw
      case rel => exact ⟨m + 1, by omega, by go_num, HU2.out, HI2.out⟩
      case measure => simp [intOf]; omega
   ·have d1 : ¬ ((m : Int) + 1 < (xs.length : Int)) := by omega
    have HUP : Hid (xs.Pairwise (· < ·)) := by have := HU.out; rw [List.take_of_length_le (by omega)] at this; exact this
    clear HU;go_wp2_with fail;go_ret;exact ⟨_, rfl, xs, HI.out.row, HUP.out, fun _ => Iff.rfl, HI.out.grow⟩
end Go.Proofs.YtpdnapbchcdhlabGreat
