import Derived.Test.YtpdnapbchcdhladGreatDoorSBeg
set_option maxHeartbeats 8000000
namespace Go.Proofs.YtpdnapbchcdhladGreatDoor
set_option maxRecDepth 100000
open Go.RowKit Go.Deep
open Plain Reg
theorem Zva (S : Nat → Prop) (n : Nat) (s : St) (d : Dd) (v : Value) (ad : Option Addr) (c : Nat) (w : World) (hS : ∀ b, S b → b < w.heap.size) (hs : Zw S s v w) (hd : Z0 S w (.slice ad d.data.length c) d.data) (hO : s.Ok n) (hn : n ≤ 900) (hdl : d.data.length ≤ 140737488355328) :
  Calls Tryz.prog 18 #[v, .agg #[.int .i64 d.kind, .int .i64 d.key, .int .i64 d.num, .slice ad d.data.length c]] w fun r w' => ∃ v', r = .returned (.tuple #[v', .int .i64 (s.doS d).n, .int .i64 (s.doS d).e]) ∧ Zw (Z7 S w.heap.size) (s.doS d).st v' w' ∧ Zj w w' := by
 obtain ⟨ab, cb, al, cl, ai, ci, rfl, -, -, -⟩ := hs.form;have g0 := (Zx w (.cells #[.slice ab s.dk.blocks.length cb, .slice al s.dk.late.length cl, .slice ai s.idx.length ci, .int .i64 s.next] 30) (.cells #[.int .i64 d.kind, .int .i64 d.key, .int .i64 d.num, .slice ad d.data.length c] 40)).trans (Zd _ Yy);have hs0 := Zk w #[.slice ab s.dk.blocks.length cb, .slice al s.dk.late.length cl, .slice ai s.idx.length ci, .int .i64 s.next] 30;have hd0 := Zk (w.alloc (.cells #[.slice ab s.dk.blocks.length cb, .slice al s.dk.late.length cl, .slice ai s.idx.length ci, .int .i64 s.next] 30)) #[.int .i64 d.kind, .int .i64 d.key, .int .i64 d.num, .slice ad d.data.length c] 40;have hz0 := Zk ((w.alloc (.cells #[.slice ab s.dk.blocks.length cb, .slice al s.dk.late.length cl, .slice ai s.idx.length ci, .int .i64 s.next] 30)).alloc (.cells #[.int .i64 d.kind, .int .i64 d.key, .int .i64 d.num, .slice ad d.data.length c] 40)) #[.slice none 0 0, .slice none 0 0, .slice none 0 0, .int .i64 0] 30;have hs1 := ((Zx (w.alloc (.cells #[.slice ab s.dk.blocks.length cb, .slice al s.dk.late.length cl, .slice ai s.idx.length ci, .int .i64 s.next] 30)) (.cells #[.int .i64 d.kind, .int .i64 d.key, .int .i64 d.num, .slice ad d.data.length c] 40) Yy).block _ (Za hs0)).trans hs0
 have hd1 := ((Zd ((w.alloc (.cells #[.slice ab s.dk.blocks.length cb, .slice al s.dk.late.length cl, .slice ai s.idx.length ci, .int .i64 s.next] 30)).alloc (.cells #[.int .i64 d.kind, .int .i64 d.key, .int .i64 d.num, .slice ad d.data.length c] 40)) Yy).block _ (Za hd0)).trans hd0;rw [World.size_alloc] at hd1;rw [World.size_alloc, World.size_alloc] at hz0;clear hs0 hd0;obtain ⟨B, hB⟩ : ∃ B, B = s.begin d := ⟨_, rfl⟩;obtain ⟨R, hR⟩ : ∃ R, R = s.doS d := ⟨_, rfl⟩;rw [← hR];have HR : Hid (R = if B.e = 0 then ⟨⟨B.st.dk.flush, B.st.idx, B.st.next⟩, B.n, 0⟩ else B) := by show R = _; rw [hR, hB]; rfl
 have HOB : Hid (B.st.Ok (n + 2)) := by rw [hB]; exact Zd0 hO
 have HB : Hid _ := hB;clear hR hB;go_enter Tryz.func18, Tryz.ntmps18;obtain ⟨d0, d1, d2, d3⟩ := Z4 hd1 rfl rfl rfl rfl;obtain ⟨s0, s1, s2, s3⟩ := Z4 hs1 rfl rfl rfl rfl;go_wp2_with fail;obtain ⟨W, hW⟩ : ∃ W, W = ((w.alloc (.cells #[.slice ab s.dk.blocks.length cb, .slice al s.dk.late.length cl, .slice ai s.idx.length ci, .int .i64 s.next] 30)).alloc (.cells #[.int .i64 d.kind, .int .i64 d.key, .int .i64 d.num, .slice ad d.data.length c] 40)).alloc Yy := ⟨_, rfl⟩;rw [← hW] at g0 hs1 hd1 hz0 d0 d1 d2 d3 s0 s1 s2 s3 ⊢;clear hW;have HWZ : Hid (w.heap.size + 2 < W.heap.size) := Za hz0;refine (Zf7 S n s d _ ad c W (fun b h => Nat.lt_of_lt_of_le (hS b h) g0.size) (hs.grow g0) (hd.grow g0) hO hn hdl).mono ?_;rw [← HB.out];rintro r w1 ⟨v1, rfl, h1, g1⟩;obtain ⟨b1, e1, l1, m1, i1, j1, hv, k1, k2, k3⟩ := h1.capd.form;subst hv;have g2 := Zd w1 (.cells #[.slice b1 B.st.dk.blocks.length e1, .slice l1 B.st.dk.late.length m1, .slice i1 B.st.idx.length j1, .int .i64 B.st.next] 30);have hX := Zk w1 #[.slice b1 B.st.dk.blocks.length e1, .slice l1 B.st.dk.late.length m1, .slice i1 B.st.idx.length j1, .int .i64 B.st.next] 30;have hz3 := ((g1.trans g2).block _ (Za hz0)).trans hz0;have gw3 := (g0.trans g1).trans g2;have u1 := k1.grow g2;have u2 := k2.grow g2;have u3 := k3.grow g2;have HG : Hid (w.heap.size + 2 < w1.heap.size) := Nat.lt_of_lt_of_le HWZ.out g1.size;clear hs1 hd1 hz0 g0 g1 g2 d0 d1 d2 d3 s0 s1 s2 s3 h1 hs k1 k2 k3;obtain ⟨x0, x1, x2, x3⟩ := Z4 hX rfl rfl rfl rfl
 have HSG : Hid (∀ b, S b → b < w1.heap.size) := fun b h => by have := hS b h; have := HG.out; omega
 by_cases he : B.e = 0
 ·have dE : (B.e == 0) = true := by simp [he]
  obtain ⟨FD, hFD⟩ : ∃ FD, FD = B.st.dk.flush := ⟨_, rfl⟩;obtain rfl : R = ⟨⟨FD, B.st.idx, B.st.next⟩, B.n, 0⟩ := by rw [HR.out, if_pos he, hFD]
  have HFD : Hid _ := hFD;have HE0 : Hid (B.e = 0) := he;clear HR he hFD;go_wp2_with fail;clear dE;have cs := Zu;obtain ⟨W3, hW3⟩ : ∃ W3, W3 = w1.alloc (.cells #[.slice b1 B.st.dk.blocks.length e1, .slice l1 B.st.dk.late.length m1, .slice i1 B.st.idx.length j1, .int .i64 B.st.next] 30) := ⟨_, rfl⟩;rw [← hW3] at hX hz3 gw3 u1 u2 u3 x0 x1 x2 x3 ⊢;clear hW3;obtain ⟨G, hG⟩ : ∃ G, G = w1.heap.size := ⟨_, rfl⟩;rw [← hG] at hX HG HSG u1 u2 u3 x0 x1 x2 x3 ⊢;clear hG;have HW3 : Hid (G < W3.heap.size) := Za hX;have HFF : Hid _ := HOB.out.disk;refine (Zgy B.st.dk _ _ W3 u1.p u2.p (by rw [HFF.out.len]; omega) (by rw [HFF.out.len]; omega) (by have := HFF.out.few; omega) HFF.out.b16 HFF.out.l16 HFF.out.pl).mono ?_;rw [← HFD.out];rintro r w4 ⟨v4, rfl, hQ, g4⟩;have h4 := hQ.s S;obtain ⟨b4, e4, l4, m4, rfl, h4b, h4l⟩ := h4.form;have hs4 := (g4.block _ (Za hX)).trans hX;have hz4 := (g4.block _ (Za hz3)).trans hz3;have gw4 := gw3.trans g4;have u34 := u3.grow g4;clear x0 x1 x2 x3 hX hz3 gw3 g4 u1 u2 u3 h4 hQ;have hns3 : ¬ Z7 S W3.heap.size G := Xg HSG.out HW3.out;have hnz3 : ¬ Z7 S W3.heap.size (w.heap.size + 2) := Xg (fun b h => by have := hS b h; omega) (by have := HG.out; have := HW3.out; omega);have hnz1 : ¬ (Z7 S W.heap.size (w.heap.size + 2) ∧ w.heap.size + 2 < G) := fun h => Xg (fun b h => by have := hS b h; omega) HWZ.out h.1
  obtain ⟨ht1, ht2⟩ := Zi7 hs4 (.slice b4 FD.blocks.length e4) (.slice l4 FD.late.length m4);have hz5 := (ht2.block _ (Za hz4) (by have := HG.out; omega)).trans hz4;have gw5 := ht2.grow gw4 (by have := HG.out; omega);have p1 := h4b.but ht2 hns3;have p2 := h4l.but ht2 hns3;have p3 := u34.but ht2 (fun h => Nat.lt_irrefl _ h.2);obtain ⟨y0, y1, y2, y3⟩ := Z4 hs4 rfl rfl rfl rfl;have f0 := Zt hs4 0;have f1 := Zt hs4 1;obtain ⟨t0, t1, t2, t3⟩ := Z4 ht1 rfl rfl rfl rfl;obtain ⟨hq1, hq2⟩ := Yc hz5 (.slice b4 FD.blocks.length e4) (.slice l4 FD.late.length m4) (.slice i1 B.st.idx.length j1) (.int .i64 B.st.next);obtain ⟨z0, z1, z2, z3⟩ := Z4 hz5 rfl rfl rfl rfl;obtain ⟨o0, o1, o2, o3⟩ := Yp hz5;obtain ⟨x0, x1, x2, x3⟩ := Z4 hq1 rfl rfl rfl rfl;have gE := hq2.grow gw5 (by omega);have hE : Zw (Z7 S w.heap.size) ⟨FD, B.st.idx, B.st.next⟩ (.agg #[.slice b4 FD.blocks.length e4, .slice l4 FD.late.length m4, .slice i1 B.st.idx.length j1, .int .i64 B.st.next]) _ := ⟨_, _, _, rfl, (p1.but hq2 hnz3).mono (Z9 (by have := HG.out; have := HW3.out; omega)), (p2.but hq2 hnz3).mono (Z9 (by have := HG.out; have := HW3.out; omega)), (p3.but hq2 hnz1).mono (fun b h => Z9 (by have := HWZ.out; omega) b h.1)⟩;clear hq1 hq2 hz5 gw5 p1 p2 p3 ht1 ht2 hs4 hz4 gw4 h4b h4l u34;go_wp2_with fail
  exact bodyPost_ret (v := .tuple #[.agg #[.slice b4 FD.blocks.length e4, .slice l4 FD.late.length m4, .slice i1 B.st.idx.length j1, .int .i64 B.st.next], .int .i64 B.n, .int .i64 B.e]) (by simp [results, Tryz.results18, go_sem, x0, x1, x2, x3]) rfl ⟨_, by rw [HE0.out], hE, gE⟩
 ·have dE : (B.e == 0) = false := by simp [he]
  have cs := Zu;obtain rfl : R = B := by rw [HR.out, if_neg he]
  clear HR he HB;have hnz : ¬ (Z7 S W.heap.size (w.heap.size + 2) ∧ w.heap.size + 2 < w1.heap.size) := fun h => Xg (fun b h => by have := hS b h; omega) HWZ.out h.1
  obtain ⟨hq1, hq2⟩ := Yc hz3 (.slice b1 R.st.dk.blocks.length e1) (.slice l1 R.st.dk.late.length m1) (.slice i1 R.st.idx.length j1) (.int .i64 R.st.next);obtain ⟨z0, z1, z2, z3⟩ := Z4 hz3 rfl rfl rfl rfl;obtain ⟨o0, o1, o2, o3⟩ := Yp hz3;obtain ⟨t0, t1, t2, t3⟩ := Z4 hq1 rfl rfl rfl rfl;have gE := hq2.grow gw3 (by omega);have hE : Zw (Z7 S w.heap.size) R.st (.agg #[.slice b1 R.st.dk.blocks.length e1, .slice l1 R.st.dk.late.length m1, .slice i1 R.st.idx.length j1, .int .i64 R.st.next]) _ := ⟨_, _, _, rfl, (u1.but hq2 hnz).mono (fun b h => Z9 (by have := HWZ.out; omega) b h.1), (u2.but hq2 hnz).mono (fun b h => Z9 (by have := HWZ.out; omega) b h.1), (u3.but hq2 hnz).mono (fun b h => Z9 (by have := HWZ.out; omega) b h.1)⟩;clear hq1 hq2 hz3 gw3 u1 u2 u3 hX;go_wp2_with fail;exact bodyPost_ret (v := .tuple #[.agg #[.slice b1 R.st.dk.blocks.length e1, .slice l1 R.st.dk.late.length m1, .slice i1 R.st.idx.length j1, .int .i64 R.st.next], .int .i64 R.n, .int .i64 R.e]) (by simp [results, Tryz.results18, go_sem, t0, t1, t2, t3]) rfl ⟨_, rfl, hE, gE⟩
variable {T : TypeId} {ds xs zs : List Int} {m : Nat}
theorem Zvw (x y : Int) (w : World) (h : ¬ x < y) : Calls Tryz.prog 87 #[.int .i64 x, .int .i64 y] w fun e w' => e = .returned (.bool false) ∧ w' = w := by
 go_enter Tryz.func87, Tryz.ntmps87;go_wp2_with fail;refine (Zam _ _).mono ?_;rintro e w1 ⟨rfl, rfl⟩;go_wp2_with fail;go_ret;exact ⟨by show Ending.returned (.bool (decide (x < y))) = _; rw [decide_eq_false (by omega)], rfl⟩
def Zes (ao : Option Addr) (xs : List Int) (w : World) : Prop := ∀ (j : Nat) (h : j < xs.length), ∃ g, ao = some ⟨g, 0, none⟩ ∧ w.cell? ⟨g, j, none⟩ = some (.int .i64 xs[j])
theorem Zvf {w : World} {B n cap : Nat} {ao : Option Addr} (h : w.ownsRow B T 1 (.slice ao n cap) n (xs.map (Value.int .i64))) : Zes ao xs w := fun j hj => by
 rcases h.2 with ⟨e, h0⟩ | ⟨q, cap', cur, e, _⟩
 ·have := h.1;simp at this; omega
 ·cases e;have hn : xs.length = n := by have := h.1; simp at this; exact this
  exact ⟨q, rfl, by rw [h.cellAt j (by omega)]; simp [hj]⟩
theorem Zoq (xs : List Int) (ao : Option Addr) (cap : Nat) (w : World) (hn : xs.length ≤ 12) (hs : xs.Pairwise (· ≤ ·)) (hc : Zes ao xs w) :
  Calls Tryz.prog 81 #[.slice ao xs.length cap, .int .i64 0, .int .i64 (xs.length : Int)] w fun e w' => e = .returned (.tuple #[]) ∧ Zj w w' := by
 go_enter Tryz.func81, Tryz.ntmps81;go_wp2_with fail;go_loopw [6] (fun i wr => ∃ k : Nat, (k + 1 ≤ xs.length ∨ k = 0) ∧ i = .int .i64 ((k : Int) + 1) ∧ Zj w wr) (fun i _ => xs.length - (intOf i).toNat)
 case atStart => exact ⟨0, .inr rfl, rfl, Zj.refl _⟩
 case round =>
  obtain ⟨m, hk2, rfl, hG⟩ := hrel;by_cases hlt : m + 1 < xs.length
  ·have d0 : (m : Int) + 1 < (xs.length : Int) := by omega
   obtain ⟨g, hgo, q1⟩ := hc (m + 1) hlt;obtain ⟨g', e', p1⟩ := hc m (by omega);rw [hgo] at e';cases e';subst hgo;have q0 := (Below.cell hG (Zr q1)).trans q1;have p0 := (Below.cell hG (Zr p1)).trans p1;have HL : Hid (¬ xs[m + 1] < xs[m]) := by
    have := List.pairwise_iff_getElem.1 hs m (m + 1) (by omega) hlt (by omega);show ¬ _;omega
   generalize xs[m + 1] = y at *;generalize xs[m] = x at *;clear q1 p1;go_wp2_with fail;obtain ⟨wo, rfl⟩ : ∃ wo : World, wo = wr := ⟨_, rfl⟩;go_loopw [7] (fun i wq => i = .int .i64 ((m : Int) + 1) ∧ wo = wq) (fun _ _ => 0)
   case atStart => exact ⟨rfl, rfl⟩
   case round =>
    obtain ⟨rfl, hww⟩ := hrel;subst hww;go_wp2_with fail;refine Zz [ex (.int .i64 ((m : Int) + 1)), ex (.int .i64 0), ex (.bool true), ex (.bool true), ex (.slice (some ⟨g, 0, none⟩) xs.length cap), ex (.int .i64 ((m : Int) + 1)), ex (.pointer (some ⟨g, m + 1, none⟩)), ex (.int .i64 y), ex (.slice (some ⟨g, 0, none⟩) xs.length cap), ex (.int .i64 ((m : Int) + 1)), ex (.int .i64 (m : Int)), ex (.pointer (some ⟨g, m, none⟩)), ex (.int .i64 x), ex (.bool false), ex (.bool false)] (by kernel_rfl) (by kernel_rfl) ⟨Zg _, Zg _, Zg _, Zg _, Zg _, Zg _, Zg _, Zg _, Zg _, Zg _, Zg _, Zg _, Zg _, Zg _, Zg _, trivial⟩ ?_ ?_
    ·refine ⟨?_, ?_, ?_, ?_, ?_, ?_, ?_, ?_, ?_, ?_, ?_, ?_, ?_, ?_, ?_, trivial⟩
     ·exact Zb rfl fun a _ _ _ _ A => Zm rfl (Zp A 7 rfl)
     ·exact Zb rfl fun a _ _ _ _ A => Zm rfl (Zp A 1 rfl)
     ·refine Zb rfl fun a _ _ _ B A => ?_;have e16 : a (.tmp 16) = _ := Zc A 0 rfl;have e17 : a (.tmp 17) = _ := Zc A 1 rfl;refine Zi ?_ rfl;clear A B;go_simp;all_goals go_arith
     ·exact Zb rfl fun a _ _ _ _ A => Zm rfl (Zc A 2 rfl)
     ·exact Zl 3 true rfl rfl rfl fun a _ _ _ _ A => Zm rfl (Zp A 0 rfl)
     ·exact Zl 3 true rfl rfl rfl fun a _ _ _ _ A => Zm rfl (Zp A 7 rfl)
     ·refine Zl 3 true rfl rfl rfl fun a _ _ _ B A => ?_;have e20 : a (.tmp 20) = _ := Zc A 4 rfl;have e21 : a (.tmp 21) = _ := Zc A 5 rfl;refine Zi ?_ rfl;clear A B;go_simp;all_goals go_arith
     ·refine Zl 3 true rfl rfl rfl fun a _ _ _ B A => ?_;have e22 : a (.tmp 22) = _ := Zc A 6 rfl;have h0 := (Below.cell B (Zr q0)).trans q0;refine Zi ?_ rfl;clear A B;go_simp;all_goals go_arith
     ·exact Zl 3 true rfl rfl rfl fun a _ _ _ _ A => Zm rfl (Zp A 0 rfl)
     ·exact Zl 3 true rfl rfl rfl fun a _ _ _ _ A => Zm rfl (Zp A 7 rfl)
     ·refine Zl 3 true rfl rfl rfl fun a _ _ _ B A => ?_;have e25 : a (.tmp 25) = _ := Zc A 9 rfl;refine Zi ?_ rfl;clear A B;go_simp;all_goals go_arith
     ·refine Zl 3 true rfl rfl rfl fun a _ _ _ B A => ?_;have e24 : a (.tmp 24) = _ := Zc A 8 rfl;have e26 : a (.tmp 26) = _ := Zc A 10 rfl;refine Zi ?_ rfl;clear A B;go_simp;all_goals go_arith
     ·refine Zl 3 true rfl rfl rfl fun a _ _ _ B A => ?_;have e27 : a (.tmp 27) = _ := Zc A 11 rfl;have h0 := (Below.cell B (Zr p0)).trans p0;refine Zi ?_ rfl;clear A B;go_simp;all_goals go_arith
     ·refine Zl 3 true rfl rfl rfl fun a B _ _ C A => ?_;have e23 : a (.tmp 23) = _ := Zc A 7 rfl;have e28 : a (.tmp 28) = _ := Zc A 12 rfl;refine Yj (f := 87) (args := #[.int .i64 y, .int .i64 x]) ?_ ((Zvw y x B (by have := HL.out; omega)).mono ?_)
      ·clear A C;go_simp;all_goals go_arith
      ·rintro e w2 ⟨rfl, rfl⟩;exact ⟨_, rfl, Zj.refl _, rfl⟩
     ·refine Zb rfl fun a _ _ _ _ A => ?_;have ec : a (.tmp 19) = _ := Zc A 3 rfl;have e : a (.tmp 29) = _ := Zc A 13 rfl;exact Y3 rfl ec e
    ·intro vs w' hg ht;obtain ⟨(r16 : vs 0 = _), (r17 : vs 1 = _), (r18 : vs 2 = _), (r19 : vs 3 = _), (r20 : vs 4 = _), (r21 : vs 5 = _), (r22 : vs 6 = _), (r23 : vs 7 = _), (r24 : vs 8 = _), (r25 : vs 9 = _), (r26 : vs 10 = _), (r27 : vs 11 = _), (r28 : vs 12 = _), (r29 : vs 13 = _), (r30 : vs 14 = _), -⟩ := ht;simp only [Z8, Act.put, List.setIfInBounds_toArray, List.set_cons_zero, List.set_cons_succ, r16, r17, r18, r19, r20, r21, r22, r23, r24, r25, r26, r27, r28, r29, r30];clear r16 r17 r18 r19 r20 r21 r22 r23 r24 r25 r26 r27 r28 r29 r30;have hG2 := hG.trans hg;clear hg hG p0 q0 HL;go_wp2_with fail;go_roundw
     case rel => exact ⟨m + 1, by omega, by go_num, hG2⟩
     case measure => simp [intOf]; omega
  ·have d0 : ¬ ((m : Int) + 1 < (xs.length : Int)) := by omega
   go_wp2_with fail;go_end0;exact ⟨rfl, hG⟩
theorem Zu9 (xs : List Int) (ao : Option Addr) (cap : Nat) (r : Int) (w : World) (hn : xs.length ≤ 12) (hs : xs.Pairwise (· ≤ ·)) (hc : Zes ao xs w) :
  Calls Tryz.prog 53 #[.slice ao xs.length cap, .int .i64 0, .int .i64 (xs.length : Int), .int .i64 r] w fun e w' => e = .returned (.tuple #[]) ∧ Zj w w' := by
 have HC : Hid (Zes ao xs w) := hc;clear hc;go_enter Tryz.func53, Tryz.ntmps53;go_wp2_with fail;go_loopw [1, 2] (fun i j wr => i = .int .i64 0 ∧ j = .int .i64 (xs.length : Int) ∧ w = wr) (fun _ _ _ => 0)
 case atStart => exact ⟨rfl, rfl, rfl⟩
 case round =>
  obtain ⟨rfl, rfl, hww⟩ := hrel;subst hww;have d0 : (xs.length : Int) ≤ 12 := by omega
  go_wp2_with fail;refine (Zoq xs ao cap w hn hs HC.out).mono ?_;rintro e w1 ⟨rfl, hE⟩;clear HC d0;go_wp2_with fail;exact bodyPost_ret (v := .tuple #[]) (by simp [results, Tryz.results53, go_sem]) rfl ⟨rfl, hE⟩
theorem Zqz (xs : List Int) (ao : Option Addr) (cap : Nat) (w : World) (hn : xs.length ≤ 6) (hs : xs.Pairwise (· ≤ ·)) (hc : Zes ao xs w) :
  Calls Tryz.prog 29 #[.slice ao xs.length cap] w fun e w' => e = .returned (.tuple #[]) ∧ Zj w w' := by
 have HC : Hid (Zes ao xs w) := hc;clear hc;have hn64 : (xs.length : Int) % 18446744073709551616 = (xs.length : Int) := by omega
 go_enter Tryz.func29, Tryz.ntmps29;go_wp2_with fail;refine (Zp5 xs.length w hn).mono ?_;rintro e w1 ⟨r, rfl, rfl⟩;go_wp2_with fail;refine (Zu9 xs ao cap r w1 (by omega) hs HC.out).mono ?_;rintro e w2 ⟨rfl, hE⟩;clear HC;go_wp2_with fail;go_end0;exact ⟨rfl, hE⟩
structure Cpt (xs : List Int) (m : Nat) (ds zs : List Int) : Prop where
 len : zs.length = xs.length
 few : ds.length < m
 head : zs.take ds.length = ds
 tail : ∀ j, m ≤ j + 1 → zs[j]? = xs[j]?
 up : ds.Pairwise (· < ·)
 mem : ∀ x, x ∈ ds ↔ x ∈ xs.take m
theorem Zhx (h0 : 1 ≤ m) (hm : m < xs.length) (he : xs[m] = xs[m - 1]) (x : Int) : x ∈ xs.take (m + 1) ↔ x ∈ xs.take m := by
 rw [List.take_succ_eq_append_getElem hm, List.mem_append, List.mem_singleton, he];refine ⟨fun h => h.elim (fun h => h) fun h => ?_, .inl⟩;rw [h];exact List.mem_iff_getElem.2 ⟨m - 1, by rw [List.length_take]; omega, by rw [List.getElem_take]⟩
theorem Cpt.start (h0 : 1 ≤ m) (hm : m < xs.length) (he : xs[m] = xs[m - 1]) (hu : (xs.take m).Pairwise (· < ·)) : Cpt xs (m + 1) (xs.take m) xs :=
 ⟨rfl, by rw [List.length_take]; omega, by rw [List.length_take, Nat.min_eq_left (by omega)], fun _ _ => rfl, hu, fun x => (Zhx h0 hm he x).symm⟩
theorem Cpt.skip (h : Cpt xs m ds zs) (h0 : 1 ≤ m) (hm : m < xs.length) (he : xs[m] = xs[m - 1]) : Cpt xs (m + 1) ds zs :=
 ⟨h.len, Nat.lt_succ_of_lt h.few, h.head, fun j hj => h.tail j (by omega), h.up, fun x => (h.mem x).trans (Zhx h0 hm he x).symm⟩
theorem Zf2 (hs : xs.Pairwise (· ≤ ·)) (h0 : 1 ≤ m) (hm : m < xs.length) (he : xs[m] ≠ xs[m - 1]) : ∀ x ∈ xs.take m, x < xs[m] := fun x hx => by
 obtain ⟨i, hi, rfl⟩ := List.mem_iff_getElem.1 hx;rw [List.length_take] at hi;rw [List.getElem_take];have h1 := List.pairwise_iff_getElem.1 hs (m - 1) m (by omega) hm (by omega);by_cases e : i = m - 1
 ·subst e; omega
 ·have h2 := List.pairwise_iff_getElem.1 hs i (m - 1) (by omega) (by omega) (by omega);omega
theorem Zxb (hs : xs.Pairwise (· ≤ ·)) (h0 : 1 ≤ m) (hm : m < xs.length) (he : xs[m] ≠ xs[m - 1]) (hu : (xs.take m).Pairwise (· < ·)) : (xs.take (m + 1)).Pairwise (· < ·) := by
 rw [List.take_succ_eq_append_getElem hm];exact List.pairwise_append.2 ⟨hu, by simp, fun x hx y hy => by rw [List.mem_singleton.1 hy]; exact Zf2 hs h0 hm he x hx⟩
theorem Cpt.put (h : Cpt xs m ds zs) (hs : xs.Pairwise (· ≤ ·)) (hm : m < xs.length) (he : xs[m] ≠ xs[m - 1]) : Cpt xs (m + 1) (ds ++ [xs[m]]) (zs.set ds.length xs[m]) := by
 have hf := h.few;have hl := h.len;refine ⟨by simp [hl], by simp; omega, ?_, fun j hj => by rw [List.getElem?_set_ne (by omega)]; exact h.tail j (by omega), ?_, fun x => ?_⟩
 ·rw [List.length_append, List.length_singleton, List.take_succ_eq_append_getElem (by simp; omega), List.getElem_set_self, List.take_set, List.set_eq_of_length_le (by rw [List.length_take]; omega), h.head]
 ·refine List.pairwise_append.2 ⟨h.up, by simp, fun x hx y hy => ?_⟩;rw [List.mem_singleton.1 hy];exact Zf2 hs (by omega) hm he x ((h.mem x).1 hx)
 ·rw [List.take_succ_eq_append_getElem hm, List.mem_append, List.mem_append, h.mem]
theorem Zi5 {g : Nat} {f} : ∀ (vs : List Value) (o : Nat) (w : World) (cur : Array Value), w.heap[g]? = some (.cells cur T f) →
  ∃ cur', (w.setCells g o vs).heap[g]? = some (.cells cur' T f) ∧ cur'.size = cur.size ∧ (∀ i, i < o → cur'[i]? = cur[i]?) ∧ Zo g w (w.setCells g o vs)
 | [], o, w, cur, h => ⟨cur, h, rfl, fun _ _ => rfl, Zo.refl _ _⟩
 | v :: vs, o, w, cur, h => by
  obtain ⟨c', h1, h2, h3, h4⟩ := Zi5 vs (o + 1) _ _ (heap_set h o v);refine ⟨c', h1, by rw [h2]; simp, fun i hi => ?_, ((Zo.refl g w).set _ _ _).trans h4⟩;rw [h3 i (by omega), Array.getElem?_setIfInBounds, if_neg (by omega)]
theorem Zis : (Tryz.prog.info? 3).map (fun i => (i.zero, i.size, i.bytes)) = some (some (.int .i64 0), 1, 8) := by kernel_rfl
theorem Zo8 (w : World) (b o n c : Nat) (hc : ∀ j, j < n + 1 → (w.cell? ⟨b, o + j, none⟩).isSome = true) (hf : ∀ j, j < n + 1 → w.frozen? ⟨b, o + j, none⟩ = false) :
  ∃ vs, ∀ ty, (Builtin.clear_ #[22] ty #[.slice (some ⟨b, o, none⟩) (n + 1) c]).run Tryz.prog w = .ok (.tuple #[]) (w.setCells b o vs) := by
 obtain ⟨i0, hif, hz0, hz1, hz2⟩ := info_parts Zis;have hv : ∀ w, (zeroValue 3).run Tryz.prog w = .ok (.int .i64 0) w := fun w => by simp [zeroValue, typeInfo, hif, hz0]
 have hzl : (Builtin.zeroCells (Value.int .i64 0).cells (n + 1)).toList.length = n + 1 := by simp [Builtin.zeroCells, Value.cells]
 have hz1 : ∀ v ∈ (Builtin.zeroCells (Value.int .i64 0).cells (n + 1)).toList, v = Value.int .i64 0 := by simp [Builtin.zeroCells, Value.cells, Nat.mod_one]
 refine ⟨(Builtin.zeroCells (Value.int .i64 0).cells (n + 1)).toList, fun ty => ?_⟩;have hst := run_storeCells_cells (P := Tryz.prog) b o (Builtin.zeroCells (Value.int .i64 0).cells (n + 1)).toList 0 w (by rw [hzl]; simpa using hc) (by rw [hzl]; simpa using hf) (by intro v hv'; rw [hz1 v hv']; rfl);simp only [Nat.add_zero] at hst;simp [Builtin.clear_, run_underlying Tryz.underlying22, hv, hst]
end Go.Proofs.YtpdnapbchcdhladGreatDoor
