import Derived.Test.YtpdnapbchcdhlabGreatInv3
import Derived.Deep.AppendLies
set_option maxHeartbeats 8000000
namespace Go.Proofs.YtpdnapbchcdhlabGreat
set_option maxRecDepth 100000
open Go.RowKit
open Plain Reg
variable {S : Nat → Prop} {ad : Option Addr} {c : Nat} {v : Value} {w : World} {x : Sp}
theorem Zwl {s : St} (h : Zca S s x v ad c w) (k1 : ¬ x.kind = 1) (k2 : ¬ x.kind = 2) (k3 : ¬ x.kind = 3) (k4 : ¬ x.kind = 4) (k5 : x.kind = 5) : Kh 35 S s x v ad c w := by
 obtain ⟨ab, cb, al, cl, ai, ci, rfl, hb, hl, hi, hnz, g0, hs1, hd1, hz1, HWs⟩ := h.pre;obtain ⟨hS, hs, hd, hA, hdl⟩ := h;unfold Kh;have hns : ¬ Zy S (w.heap.size + 3) w.heap.size := Yq hS (by omega);obtain ⟨R, hR⟩ : ∃ R, R = s.step x := ⟨_, rfl⟩;rw [← hR];have HR : Hid (R = s.step x) := hR;have HAT : Hid (s.At) := hA;clear hR hA;go_enter Tryz.func35, Tryz.ntmps35;obtain ⟨d0, d1, d2, d3, d4⟩ := Q2 hd1 rfl rfl rfl rfl rfl;have d5 := Ze hd1 5 _ rfl;have d6 := Ze hd1 6 _ rfl;obtain ⟨s0, s1, s2, s3⟩ := Z7 hs1 rfl rfl rfl rfl;have q1 : (x.kind == 1) = false := by simp [k1]
 have q2 : (x.kind == 2) = false := by simp [k2]
 have q3 : (x.kind == 3) = false := by simp [k3]
 have q4 : (x.kind == 4) = false := by simp [k4]
 have q5 : (x.kind == 5) = true := by simp [k5]
 obtain ⟨CD, hCD⟩ : ∃ CD, CD = s.dk.clean := ⟨_, rfl⟩;obtain ⟨s9, hs9⟩ : ∃ s9, s9 = Yy CD := ⟨_, rfl⟩;obtain rfl : R = ⟨s9, 0, 0⟩ := by rw [HR.out, hs9, hCD]; unfold St.step; rw [if_neg k1, if_neg k2, if_neg k3, if_neg k4, if_pos k5]
 have HS9 : Hid _ := hs9;have HCD : Hid _ := hCD;have HCF : Hid (CD.Fine 0) := by rw [hCD]; exact Zid HAT.out.ok.disk
 clear HR k1 k2 k3 k4 k5 hs9 hCD;go_wp2_with fail;generalize World.alloc (World.alloc (World.alloc w _) _) _ = W at *;have hWs := HWs.out;clear HWs;refine (Znx S 0 s.dk _ W (fun b h => by have := hS b h; omega) ⟨_, _, rfl, hb.grow g0, hl.grow g0⟩ HAT.out.ok.disk (by omega)).mono ?_;rw [hWs, ← HCD.out];generalize cnt (s.dk.keep 0) 6 = CN at *;generalize X9 (s.dk.keep 0) 6 = tw at *;rintro r w1 ⟨v1, vt, rfl, h1, hvt, g1⟩;obtain ⟨b1, e1, l1, m1, rfl, h1b, h1l⟩ := h1.form;obtain ⟨at1, ct1, rfl⟩ := hvt.form;have g2 := Zu w1 (.cells #[.slice b1 CD.blocks.length e1, .slice l1 CD.late.length m1] 30) (.cells (Zbr CN) 98);have hV0 := Zj w1 #[.slice b1 CD.blocks.length e1, .slice l1 CD.late.length m1] 30;have hV := ((Zd (w1.alloc (.cells #[.slice b1 CD.blocks.length e1, .slice l1 CD.late.length m1] 30)) (.cells (Zbr CN) 98)).block _ (Za hV0)).trans hV0;have gg := g1.trans g2;have hs2 := (gg.block _ (Za hs1)).trans hs1;have hz2 := (gg.block _ (Za hz1)).trans hz1;have gw2 := g0.trans gg;have p1 := h1b.grow g2;have p2 := h1l.grow g2;clear d0 d1 d2 d3 d4 d5 d6 s0 s1 s2 s3 hs1 hd1 hz1 g0 g1 g2 gg hs hb hl hi hV0 h1 h1b h1l hvt;obtain ⟨v0, v1⟩ := Xz hV rfl rfl;go_wp2_with fail;clear v0 v1 hV;generalize World.alloc (World.alloc w1 _) _ = W2 at *;refine (Jl (fun b => Zy S (w.heap.size + 3) b ∧ b < W2.heap.size) 0 CD _ W2 (fun b h => h.2) ⟨_, _, rfl, p1.capd, p2.capd⟩ HCF.out (by omega)).mono ?_;have HW2 : Hid (w.heap.size + 3 ≤ W2.heap.size) := Za hz2;rw [← HS9.out];rintro r w3 ⟨v3, rfl, h3, g3⟩
 have hS8 : Z5 (Zy S (w.heap.size + 3)) s9 v3 w3 := h3.mono fun b h => h.elim (fun x => x.1) (fun x => .inr (Nat.le_trans HW2.out x))
 have hs8 := (g3.block _ (Za hs2)).trans hs2;have hz8 := (g3.block _ (Za hz2)).trans hz2;have gw8 := gw2.trans g3;obtain ⟨b9, e9, l9, m9, i9, j9, hv9, -, -, -⟩ := hS8.form;subst hv9;clear hs2 hz2 gw2 p1 p2 h3 g3;obtain ⟨ht1, ht2⟩ := Ym hs8 (.slice b9 s9.dk.blocks.length e9) (.slice l9 s9.dk.late.length m9) (.slice i9 s9.idx.length j9) (.int .i64 s9.next);obtain ⟨y0, y1, y2, y3⟩ := Z7 hs8 rfl rfl rfl rfl;obtain ⟨f0, f1, f2, f3⟩ := Yt hs8;obtain ⟨t0, t1, t2, t3⟩ := Z7 ht1 rfl rfl rfl rfl;have hz9 := (ht2.block _ (Za hz8) (by omega)).trans hz8;have gw9 := ht2.grow gw8 (Nat.le_refl _);have hS9 := hS8.but ht2 hns;clear ht1 ht2 hs8 hz8 gw8 hS8;obtain ⟨hq1, hq2⟩ := Ym hz9 (.slice b9 s9.dk.blocks.length e9) (.slice l9 s9.dk.late.length m9) (.slice i9 s9.idx.length j9) (.int .i64 s9.next);obtain ⟨z0, z1, z2, z3⟩ := Z7 hz9 rfl rfl rfl rfl;obtain ⟨o0, o1, o2, o3⟩ := Yt hz9;obtain ⟨x0, x1, x2, x3⟩ := Z7 hq1 rfl rfl rfl rfl;have cs := Zx;have gE := hq2.grow gw9 (by omega);have hE := (hS9.but hq2 hnz).mono (Ya (B := w.heap.size) (by omega));clear hq1 hq2 hz9 gw9 hS9;go_wp2_with fail;exact bodyPost_ret (v := .tuple #[.agg #[.slice b9 s9.dk.blocks.length e9, .slice l9 s9.dk.late.length m9, .slice i9 s9.idx.length j9, .int .i64 s9.next], .int .i64 0, .int .i64 0]) (by simp [results, Tryz.results35, go_sem, x0, x1, x2, x3]) rfl ⟨_, rfl, hE, gE⟩
theorem Zwk {s : St} (h : Zca S s x v ad c w) (k1 : ¬ x.kind = 1) (k2 : ¬ x.kind = 2) (k3 : ¬ x.kind = 3) (k4 : ¬ x.kind = 4) (k5 : ¬ x.kind = 5) (k6 : x.kind = 6) : Kh 35 S s x v ad c w := by
 obtain ⟨ab, cb, al, cl, ai, ci, rfl, hb, hl, hi, hnz, g0, hs1, hd1, hz1, HWs⟩ := h.pre;obtain ⟨hS, hs, hd, hA, hdl⟩ := h;unfold Kh;have hns : ¬ Zy S (w.heap.size + 3) w.heap.size := Yq hS (by omega);obtain ⟨R, hR⟩ : ∃ R, R = s.step x := ⟨_, rfl⟩;rw [← hR];have HR : Hid (R = s.step x) := hR;have HAT : Hid (s.At) := hA;clear hR hA;go_enter Tryz.func35, Tryz.ntmps35;obtain ⟨d0, d1, d2, d3, d4⟩ := Q2 hd1 rfl rfl rfl rfl rfl;have d5 := Ze hd1 5 _ rfl;have d6 := Ze hd1 6 _ rfl;obtain ⟨s0, s1, s2, s3⟩ := Z7 hs1 rfl rfl rfl rfl;have q1 : (x.kind == 1) = false := by simp [k1]
 have q2 : (x.kind == 2) = false := by simp [k2]
 have q3 : (x.kind == 3) = false := by simp [k3]
 have q4 : (x.kind == 4) = false := by simp [k4]
 have q5 : (x.kind == 5) = false := by simp [k5]
 have q6 : (x.kind == 6) = true := by simp [k6]
 obtain ⟨s9, hs9⟩ : ∃ s9, s9 = Yy s.dk := ⟨_, rfl⟩;obtain rfl : R = ⟨s9, 0, 0⟩ := by rw [HR.out, hs9]; unfold St.step; rw [if_neg k1, if_neg k2, if_neg k3, if_neg k4, if_neg k5, if_pos k6]
 have HS9 : Hid _ := hs9;clear HR k1 k2 k3 k4 k5 k6 hs9;go_wp2_with fail;generalize World.alloc (World.alloc (World.alloc w _) _) _ = W at *;have hWs := HWs.out;clear HWs;refine (Jl S 0 s.dk _ W (fun b h => by have := hS b h; omega) ⟨_, _, rfl, hb.grow g0, hl.grow g0⟩ HAT.out.ok.disk (by omega)).mono ?_;rw [hWs, ← HS9.out];rintro r w1 ⟨v1, rfl, hS8, g1⟩;have hs8 := (g1.block _ (Za hs1)).trans hs1;have hz8 := (g1.block _ (Za hz1)).trans hz1;have gw8 := g0.trans g1;obtain ⟨b9, e9, l9, m9, i9, j9, hv9, -, -, -⟩ := hS8.form;subst hv9;clear d0 d1 d2 d3 d4 d5 d6 s0 s1 s2 s3 hs1 hd1 hz1 g0 g1 hs hb hl hi;obtain ⟨ht1, ht2⟩ := Ym hs8 (.slice b9 s9.dk.blocks.length e9) (.slice l9 s9.dk.late.length m9) (.slice i9 s9.idx.length j9) (.int .i64 s9.next);obtain ⟨y0, y1, y2, y3⟩ := Z7 hs8 rfl rfl rfl rfl;obtain ⟨f0, f1, f2, f3⟩ := Yt hs8;obtain ⟨t0, t1, t2, t3⟩ := Z7 ht1 rfl rfl rfl rfl;have hz9 := (ht2.block _ (Za hz8) (by omega)).trans hz8;have gw9 := ht2.grow gw8 (Nat.le_refl _);have hS9 := hS8.but ht2 hns;clear ht1 ht2 hs8 hz8 gw8 hS8;obtain ⟨hq1, hq2⟩ := Ym hz9 (.slice b9 s9.dk.blocks.length e9) (.slice l9 s9.dk.late.length m9) (.slice i9 s9.idx.length j9) (.int .i64 s9.next);obtain ⟨z0, z1, z2, z3⟩ := Z7 hz9 rfl rfl rfl rfl;obtain ⟨o0, o1, o2, o3⟩ := Yt hz9;obtain ⟨x0, x1, x2, x3⟩ := Z7 hq1 rfl rfl rfl rfl;have cs := Zx;have gE := hq2.grow gw9 (by omega);have hE := (hS9.but hq2 hnz).mono (Ya (B := w.heap.size) (by omega));clear hq1 hq2 hz9 gw9 hS9;go_wp2_with fail
 exact bodyPost_ret (v := .tuple #[.agg #[.slice b9 s9.dk.blocks.length e9, .slice l9 s9.dk.late.length m9, .slice i9 s9.idx.length j9, .int .i64 s9.next], .int .i64 0, .int .i64 0]) (by simp [results, Tryz.results35, go_sem, x0, x1, x2, x3]) rfl ⟨_, rfl, hE, gE⟩
theorem Ztl {s : St} (h : Zca S s x v ad c w) (k1 : ¬ x.kind = 1) (k2 : ¬ x.kind = 2) (k3 : ¬ x.kind = 3) (k4 : ¬ x.kind = 4) (k5 : ¬ x.kind = 5) (k6 : ¬ x.kind = 6) : Kh 35 S s x v ad c w := by
 obtain ⟨ab, cb, al, cl, ai, ci, rfl, hb, hl, hi, hnz, g0, hs1, hd1, hz1, HWs⟩ := h.pre;obtain ⟨hS, hs, hd, hA, hdl⟩ := h;unfold Kh;have hns : ¬ Zy S (w.heap.size + 3) w.heap.size := Yq hS (by omega);obtain ⟨R, hR⟩ : ∃ R, R = s.step x := ⟨_, rfl⟩;rw [← hR];have HR : Hid (R = s.step x) := hR;have HAT : Hid (s.At) := hA;clear hR hA;go_enter Tryz.func35, Tryz.ntmps35;obtain ⟨d0, d1, d2, d3, d4⟩ := Q2 hd1 rfl rfl rfl rfl rfl;have d5 := Ze hd1 5 _ rfl;have d6 := Ze hd1 6 _ rfl;obtain ⟨s0, s1, s2, s3⟩ := Z7 hs1 rfl rfl rfl rfl;have q1 : (x.kind == 1) = false := by simp [k1]
 have q2 : (x.kind == 2) = false := by simp [k2]
 have q3 : (x.kind == 3) = false := by simp [k3]
 have q4 : (x.kind == 4) = false := by simp [k4]
 have q5 : (x.kind == 5) = false := by simp [k5]
 have q6 : (x.kind == 6) = false := by simp [k6]
 obtain rfl : R = ⟨s, 0, 1⟩ := by rw [HR.out]; unfold St.step; rw [if_neg k1, if_neg k2, if_neg k3, if_neg k4, if_neg k5, if_neg k6]
 clear HR k1 k2 k3 k4 k5 k6;go_upto_region 1 with fail
 generalize World.alloc (World.alloc (World.alloc w _) _) _ = W at *;have hWs := HWs.out;clear HWs;have hzX := hz1;have gwX := g0;obtain ⟨z0, z1, z2, z3⟩ := Z7 hzX rfl rfl rfl rfl;obtain ⟨f0, f1, f2, f3⟩ := Yt hzX;have cs := Zx;obtain ⟨hq1, hq2⟩ := Ym hzX (.slice ab s.dk.blocks.length cb) (.slice al s.dk.late.length cl) (.slice ai s.idx.length ci) (.int .i64 s.next);obtain ⟨x0, x1, x2, x3⟩ := Z7 hq1 rfl rfl rfl rfl;have gE := hq2.grow gwX (by omega);have hE := (hs.grow gE).mono (S' := Zy S w.heap.size) V0;clear hq1 hq2 hzX gwX;go_wp2_with fail;exact bodyPost_ret (v := .tuple #[.agg #[.slice ab s.dk.blocks.length cb, .slice al s.dk.late.length cl, .slice ai s.idx.length ci, .int .i64 s.next], .int .i64 0, .int .i64 1]) (by simp [results, Tryz.results35, go_sem, x0, x1, x2, x3]) rfl ⟨_, rfl, hE, gE⟩
theorem Zil (S : Nat → Prop) (s : St) (x : Sp) (v : Value) (ad : Option Addr) (c : Nat) (w : World) (hS : ∀ b, S b → b < w.heap.size) (hs : Z5 S s v w) (hd : Z1 S w (.slice ad x.deed.data.length c) x.deed.data) (hA : s.At) (hdl : x.deed.data.length ≤ 140737488355328) :
  Calls Tryz.prog 35 #[v, .agg #[.int .i64 x.kind, .int .i64 x.n, .int .i64 x.m, .int .i64 x.deed.kind, .int .i64 x.deed.key, .int .i64 x.deed.num, .slice ad x.deed.data.length c]] w fun r w' => ∃ v', r = .returned (.tuple #[v', .int .i64 (s.step x).n, .int .i64 (s.step x).e]) ∧ Z5 (Zy S w.heap.size) (s.step x).st v' w' ∧ Zo w w' := by
 have h : Zca S s x v ad c w := ⟨hS, hs, hd, hA, hdl⟩;by_cases k1 : x.kind = 1
 ·exact Zwp h k1
 ·by_cases k2 : x.kind = 2
  ·exact Zwo h k1 k2
  ·by_cases k3 : x.kind = 3
   ·exact Zwn h k1 k2 k3
   ·by_cases k4 : x.kind = 4
    ·exact Zwm h k1 k2 k3 k4
    ·by_cases k5 : x.kind = 5
     ·exact Zwl h k1 k2 k3 k4 k5
     ·by_cases k6 : x.kind = 6
      ·exact Zwk h k1 k2 k3 k4 k5 k6
      ·exact Ztl h k1 k2 k3 k4 k5 k6
def Zpi : Qr Sp where
 T := 70
 size := 7
 enc S w x cs := ∃ u, cs = [.int .i64 x.kind, .int .i64 x.n, .int .i64 x.m, .int .i64 x.deed.kind, .int .i64 x.deed.key, .int .i64 x.deed.num, u] ∧ Z1 S w u x.deed.data
 len := by rintro S w x cs ⟨u, rfl, _⟩; rfl
 keep := by rintro S w w' x cs ⟨u, rfl, h⟩ hk; exact ⟨u, rfl, h.keeps hk⟩
 mono := by rintro S S' w x cs ⟨u, rfl, h⟩ hS; exact ⟨u, rfl, h.mono hS⟩
 cap := by rintro S w x cs ⟨u, rfl, h⟩; exact ⟨u, rfl, h.caps⟩
 one := by
  rintro S w x cs ⟨u, rfl, h⟩ c hc;simp only [List.mem_cons, List.not_mem_nil, or_false] at hc;rcases hc with rfl | rfl | rfl | rfl | rfl | rfl | rfl
  ·rfl
  ·rfl
  ·rfl
  ·rfl
  ·rfl
  ·rfl
  ·exact h.one
abbrev K7 (S : Nat → Prop) (w : World) (v : Value) (l : List Sp) : Prop := Z3 Zpi S w v l
theorem Zkv {S : Nat → Prop} {w : World} {ao : Option Addr} {n cap : Nat} {l : List Sp} (h : K7 S w (.slice ao n cap) l) (i : Nat) (hi : i < l.length) :
  ∃ b off a c, ao = some ⟨b, off, none⟩ ∧ w.cell? ⟨b, off + i * 7, none⟩ = some (.int .i64 l[i].kind) ∧ w.cell? ⟨b, off + i * 7 + 1, none⟩ = some (.int .i64 l[i].n) ∧ w.cell? ⟨b, off + i * 7 + 2, none⟩ = some (.int .i64 l[i].m) ∧ w.cell? ⟨b, off + i * 7 + 3, none⟩ = some (.int .i64 l[i].deed.kind) ∧ w.cell? ⟨b, off + i * 7 + 4, none⟩ = some (.int .i64 l[i].deed.key) ∧ w.cell? ⟨b, off + i * 7 + 5, none⟩ = some (.int .i64 l[i].deed.num) ∧
   w.cell? ⟨b, off + i * 7 + 6, none⟩ = some (.slice a l[i].deed.data.length c) ∧ Z1 S w (.slice a l[i].deed.data.length c) l[i].deed.data := by
 obtain ⟨b, off, rfl, _, cs, ⟨u, rfl, hu⟩, hc⟩ := h.at i hi;obtain ⟨a, c, rfl⟩ := hu.form;exact ⟨b, off, a, c, rfl, hc 0 _ rfl, hc 1 _ rfl, hc 2 _ rfl, hc 3 _ rfl, hc 4 _ rfl, hc 5 _ rfl, hc 6 _ rfl, hu⟩
def Kf : Nat → St → List Sp → St
 | 0, s, _ => s
 | _ + 1, s, [] => s
 | n + 1, s, x :: l => if Kg s x = true then Kf n (s.step x).st l else s
theorem Zom (n : Nat) (s : St) : Kf n s [] = s := by cases n <;> rfl
theorem Zbb : Yw.At := Vu Kd
theorem Ze9 (S : Nat → Prop) (l : List Sp) (v : Value) (w : World) (hS : ∀ b, S b → b < w.heap.size) (hl : K7 S w v l) (hm : l.length ≤ 140737488355328) (hdl : ∀ x ∈ l, x.deed.data.length ≤ 140737488355328) :
  Calls Tryz.prog 26 #[v] w fun r w' => ∃ v', r = .returned v' ∧ Z5 (Zy S w.heap.size) (Kf 100 Yw l) v' w' ∧ Zo w w' := by
 obtain ⟨ao, cp, rfl⟩ := hl.form;have g0 := Zd w Xc;have hz0 := Zj w #[.slice none 0 0, .slice none 0 0, .slice none 0 0, .int .i64 0] 33;obtain ⟨R, hR⟩ : ∃ R, R = Kf 100 Yw l := ⟨_, rfl⟩;rw [← hR];have HR : Hid _ := hR;clear hR;go_enter Tryz.func26, Tryz.ntmps26;go_wp2_with fail;refine (Zej S (w.alloc Xc) (fun b h => by have := hS b h; simp; omega)).mono ?_;rintro r w1 ⟨v1, rfl, hS1, g1⟩;obtain ⟨b1, e1, l1, m1, i1, j1, hv1, -, -, -⟩ := hS1.form;subst hv1;rw [World.size_alloc] at hS1;obtain ⟨G, hG⟩ : ∃ G, G = w1.heap.size := ⟨_, rfl⟩;have hz1 := (g1.block _ (Za hz0)).trans hz0;have hGz : w.heap.size < G := by rw [hG]; exact Za hz1
 have g2 := Zd w1 (.cells #[.slice b1 Yw.dk.blocks.length e1, .slice l1 Yw.dk.late.length m1, .slice i1 Yw.idx.length j1, .int .i64 Yw.next] 33);have hY := Zj w1 #[.slice b1 Yw.dk.blocks.length e1, .slice l1 Yw.dk.late.length m1, .slice i1 Yw.idx.length j1, .int .i64 Yw.next] 33;have hz2 := (g2.block _ (Za hz1)).trans hz1;have gw2 := g0.trans (g1.trans g2);rw [← hG] at hY;obtain ⟨U, hU⟩ : ∃ U : Nat → Prop, U = fun b => S b ∨ (w.heap.size < b ∧ b ≠ G) := ⟨_, rfl⟩
 have hUz : ¬ U w.heap.size := by rw [hU]; rintro (h | h); exact absurd (hS _ h) (Nat.lt_irrefl _); omega
 have hUg : ¬ U G := by rw [hU]; rintro (h | h); have := hS _ h; omega; exact h.2 rfl
 have hUp : ∀ b, U b → Zy S w.heap.size b := by rw [hU]; rintro b (h | h); exact .inl h; exact .inr (by omega)
 have hUs : ∀ b, S b → U b := by rw [hU]; exact fun b h => .inl h
 have hUn : ∀ b, G < b → U b := by rw [hU]; exact fun b h => .inr (by omega)
 have hS2 : Z5 U Yw (.agg #[.slice b1 Yw.dk.blocks.length e1, .slice l1 Yw.dk.late.length m1, .slice i1 Yw.idx.length j1, .int .i64 Yw.next]) (w1.alloc (.cells #[.slice b1 Yw.dk.blocks.length e1, .slice l1 Yw.dk.late.length m1, .slice i1 Yw.idx.length j1, .int .i64 Yw.next] 33)) := (hS1.capd.grow g2).mono (by
  rw [hU, ← hG];rintro b ⟨h | h, hb⟩
  ·exact .inl h
  ·exact .inr ⟨by omega, by omega⟩)
 have HG : Hid _ := hG;have HU : Hid _ := hU;have HST : Hid (Yw.At) := Zbb;clear g0 g1 g2 hz0 hz1 hS1 hG hU;go_wp2_with fail;rw [← HG.out];have HGE : Hid (Kf (100 - 0) Yw (l.drop 0) = R) := HR.out.symm;generalize Yw = s0 at *;go_loopw [9] (fun i wr => ∃ (k : Nat) (s : St) (b1 : Option Addr) (e1 : Nat) (l1 : Option Addr) (m1 : Nat) (i1 : Option Addr) (j1 : Nat), k ≤ 100 ∧ k ≤ l.length ∧ i = .int .i64 (k : Int) ∧ Hid (Kf (100 - k) s (l.drop k) = R) ∧ Hid s.At ∧ wr.heap[w.heap.size]? = some (.cells #[.slice none 0 0, .slice none 0 0, .slice none 0 0, .int .i64 0] 33 (0, 0)) ∧ wr.heap[G]? = some (.cells #[.slice b1 s.dk.blocks.length e1, .slice l1 s.dk.late.length m1, .slice i1 s.idx.length j1, .int .i64 s.next] 33 (0, 0)) ∧ Z5 U s (.agg #[.slice b1 s.dk.blocks.length e1, .slice l1 s.dk.late.length m1, .slice i1 s.idx.length j1, .int .i64 s.next]) wr ∧ Zo w wr) (fun i _ => l.length - (intOf i).toNat)
 case atStart => exact ⟨0, s0, b1, e1, l1, m1, i1, j1, by omega, by omega, rfl, HGE, HST, hz2, hY, hS2, gw2⟩
 case round =>
  clear hz2 hY hS2 gw2 HGE HST HR;obtain ⟨k, s, b1, e1, l1, m1, i1, j1, hk1, hkl, rfl, HGE, HST, hz9, hY, hS9, gw9⟩ := hrel;obtain ⟨y0, y1, y2, y3⟩ := Z7 hY rfl rfl rfl rfl;by_cases hlt : k < l.length
  ·obtain ⟨b, off, ad, c, hao, q0, q1, q2, q3, q4, q5, q6, hbd⟩ := Zkv (hl.grow gw9) k hlt;cases hao;have HDR : Hid (l.drop k = l[k] :: l.drop (k + 1)) := List.drop_eq_getElem_cons hlt;have HDL : Hid (l[k].deed.data.length ≤ 140737488355328) := hdl _ (List.getElem_mem hlt);generalize l[k] = x at *;have g3 := Zd wr (.cells #[.int .i64 x.kind, .int .i64 x.n, .int .i64 x.m, .int .i64 x.deed.kind, .int .i64 x.deed.key, .int .i64 x.deed.num, .slice ad x.deed.data.length c] 70);have hX := Zj wr #[.int .i64 x.kind, .int .i64 x.n, .int .i64 x.m, .int .i64 x.deed.kind, .int .i64 x.deed.key, .int .i64 x.deed.num, .slice ad x.deed.data.length c] 70;have hz3 := (g3.block _ (Za hz9)).trans hz9;have hY3 := (g3.block _ (Za hY)).trans hY;have hS3 := hS9.grow g3;have hb3 := hbd.grow g3;have gw3 := gw9.trans g3;have hGr : G < wr.heap.size := Za hY;clear y0 y1 y2 y3 hz9 hS9 gw9 hY hbd;by_cases h100 : k = 100
   ·have d1 : ((k : Int) == 100) = true := by simp [h100]
    obtain rfl : s = R := by rw [← HGE.out, h100]; rfl
    have hz9 := hz3;have hS9 := hS3;have gw9 := gw3;obtain ⟨y0, y1, y2, y3⟩ := Z7 hY3 rfl rfl rfl rfl;clear HGE HST hX hz3 hS3 gw3 hY3 hb3 g3 h100;obtain ⟨z0, z1, z2, z3⟩ := Z7 hz9 rfl rfl rfl rfl;obtain ⟨o0, o1, o2, o3⟩ := Yt hz9;obtain ⟨hq1, hq2⟩ := Ym hz9 (.slice b1 s.dk.blocks.length e1) (.slice l1 s.dk.late.length m1) (.slice i1 s.idx.length j1) (.int .i64 s.next);obtain ⟨x0, x1, x2, x3⟩ := Z7 hq1 rfl rfl rfl rfl;have cs := Zx;have gE := hq2.grow gw9 (Nat.le_refl _);have hE := (hS9.but hq2 hUz).mono hUp;clear hq1 hq2 hz9 gw9 hS9;go_wp2_with fail;exact bodyPost_ret (v := .agg #[.slice b1 s.dk.blocks.length e1, .slice l1 s.dk.late.length m1, .slice i1 s.idx.length j1, .int .i64 s.next]) (by simp [results, Tryz.results26, go_sem, x0, x1, x2, x3]) rfl ⟨_, rfl, hE, gE⟩
   ·have d1 : ((k : Int) == 100) = false := by simp; omega
    obtain ⟨y0, y1, y2, y3⟩ := Z7 hY3 rfl rfl rfl rfl;obtain ⟨p0, p1, p2, p3, p4⟩ := Q2 hX rfl rfl rfl rfl rfl;have p5 := Ze hX 5 _ rfl;have p6 := Ze hX 6 _ rfl;have HG1 : Hid (R = if Kg s x = true then Kf (100 - (k + 1)) (s.step x).st (l.drop (k + 1)) else s) := by
     show R = _;rw [← HGE.out, HDR.out, show 100 - k = (100 - (k + 1)) + 1 by omega];rfl
    have HK1 : Hid (k + 1 ≤ 100) := by show _ ≤ _; omega
    clear HGE g3 h100;go_wp2_with fail;refine (Zla U 0 s x _ ad c _ hS3 HST.out.ok.disk (by omega)).mono ?_;cases hgt : Kg s x with
    | false =>
     obtain rfl : s = R := by rw [HG1.out, hgt]; rfl
     rintro r w4 ⟨rfl, g4⟩;have hz9 := (g4.block _ (Za hz3)).trans hz3;have hY4 := (g4.block _ (Za hY3)).trans hY3;have hS9 := hS3.grow g4;have gw9 := gw3.trans g4;clear y0 y1 y2 y3 p0 p1 p2 p3 p4 p5 p6 HG1 HST hX hz3 hS3 gw3 hY3 hb3 g4 hgt q0 q1 q2 q3 q4 q5 q6;obtain ⟨y0, y1, y2, y3⟩ := Z7 hY4 rfl rfl rfl rfl;clear hY4;obtain ⟨z0, z1, z2, z3⟩ := Z7 hz9 rfl rfl rfl rfl;obtain ⟨o0, o1, o2, o3⟩ := Yt hz9;obtain ⟨hq1, hq2⟩ := Ym hz9 (.slice b1 s.dk.blocks.length e1) (.slice l1 s.dk.late.length m1) (.slice i1 s.idx.length j1) (.int .i64 s.next);obtain ⟨x0, x1, x2, x3⟩ := Z7 hq1 rfl rfl rfl rfl;have cs := Zx;have gE := hq2.grow gw9 (Nat.le_refl _);have hE := (hS9.but hq2 hUz).mono hUp;clear hq1 hq2 hz9 gw9 hS9;go_wp2_with fail;exact bodyPost_ret (v := .agg #[.slice b1 s.dk.blocks.length e1, .slice l1 s.dk.late.length m1, .slice i1 s.idx.length j1, .int .i64 s.next]) (by simp [results, Tryz.results26, go_sem, x0, x1, x2, x3]) rfl ⟨_, rfl, hE, gE⟩
    | true =>
     have HG2 : Hid (Kf (100 - (k + 1)) (s.step x).st (l.drop (k + 1)) = R) := by show _ = _; rw [HG1.out, hgt, if_pos rfl]
     rintro r w4 ⟨rfl, g4⟩;have hz4 := (g4.block _ (Za hz3)).trans hz3;have hY4 := (g4.block _ (Za hY3)).trans hY3;have hX4 := (g4.block _ (Za hX)).trans hX;have hS4 := (hS3.grow g4).capd;have hb4 := ((hb3.mono hUs).grow g4).caps;have gw4 := gw3.trans g4;have hG4 : G < w4.heap.size := Za hY4;clear y0 y1 y2 y3 p0 p1 p2 p3 p4 p5 p6 HG1 hX hz3 hS3 gw3 hY3 hb3 g4 hgt q0 q1 q2 q3 q4 q5 q6;obtain ⟨y0, y1, y2, y3⟩ := Z7 hY4 rfl rfl rfl rfl;obtain ⟨p0, p1, p2, p3, p4⟩ := Q2 hX4 rfl rfl rfl rfl rfl;have p5 := Ze hX4 5 _ rfl;have p6 := Ze hX4 6 _ rfl;go_wp2_with fail;refine (Zil (fun b => U b ∧ b < w4.heap.size) s x _ ad c w4 (fun b h => h.2) hS4 hb4 HST.out HDL.out).mono ?_;have HAT : Hid ((s.step x).st.At) := Zfn HST.out;generalize s.step x = B at *;rintro r w5 ⟨v5, rfl, hS5, g5⟩;obtain ⟨b5, e5, l5, m5, i5, j5, hv5, -, -, -⟩ := hS5.form;subst hv5;have hz5 := (g5.block _ (Za hz4)).trans hz4;have hY5 := (g5.block _ (Za hY4)).trans hY4;have gw5 := gw4.trans g5;have hS6 : Z5 U B.st (.agg #[.slice b5 B.st.dk.blocks.length e5, .slice l5 B.st.dk.late.length m5, .slice i5 B.st.idx.length j5, .int .i64 B.st.next]) w5 := hS5.mono fun b h => h.elim (fun x => x.1) (fun x => hUn b (by omega))
     clear y0 y1 y2 y3 p0 p1 p2 p3 p4 p5 p6 hX4 hz4 hY4 hS4 hb4 gw4 hS5 g5 HST;obtain ⟨hp1, hp2⟩ := Ym hY5 (.slice b5 B.st.dk.blocks.length e5) (.slice l5 B.st.dk.late.length m5) (.slice i5 B.st.idx.length j5) (.int .i64 B.st.next);obtain ⟨y0, y1, y2, y3⟩ := Z7 hY5 rfl rfl rfl rfl;obtain ⟨f0, f1, f2, f3⟩ := Yt hY5;have cs := Zx;have hz6 := (hp2.block _ (Za hz5) (by intro e; omega)).trans hz5;have hS7 := hS6.but hp2 hUg;have gw6 := hp2.grow gw5 (by omega);clear hp2 hz5 hY5 gw5 hS6;go_wp2_with fail;go_roundw
     case rel => exact ⟨k + 1, B.st, b5, e5, l5, m5, i5, j5, HK1.out, by omega, by go_num, HG2, HAT, hz6, hp1, hS7, gw6⟩
     case measure => simp [intOf]; omega
  ·obtain rfl : s = R := by
    have e : l.drop k = [] := List.drop_eq_nil_of_le (by omega);rw [← HGE.out, e, Zom]
   clear HGE HST hY;obtain ⟨z0, z1, z2, z3⟩ := Z7 hz9 rfl rfl rfl rfl;obtain ⟨o0, o1, o2, o3⟩ := Yt hz9;obtain ⟨hq1, hq2⟩ := Ym hz9 (.slice b1 s.dk.blocks.length e1) (.slice l1 s.dk.late.length m1) (.slice i1 s.idx.length j1) (.int .i64 s.next);obtain ⟨x0, x1, x2, x3⟩ := Z7 hq1 rfl rfl rfl rfl;have cs := Zx;have gE := hq2.grow gw9 (Nat.le_refl _);have hE := (hS9.but hq2 hUz).mono hUp;clear hq1 hq2 hz9 gw9 hS9;go_wp2_with fail;exact bodyPost_ret (v := .agg #[.slice b1 s.dk.blocks.length e1, .slice l1 s.dk.late.length m1, .slice i1 s.idx.length j1, .int .i64 s.next]) (by simp [results, Tryz.results26, go_sem, x0, x1, x2, x3]) rfl ⟨_, rfl, hE, gE⟩
variable {U : Nat → Prop} {v : Value} {w w' : World}
def Jd (a : St × List Int × List Int) (x : Sp) : St × List Int × List Int := ((a.1.step x).st, a.2.1 ++ [(a.1.step x).e], a.2.2 ++ [(a.1.step x).n])
def Vc (l : List Sp) : St × List Int × List Int := l.foldl Jd (Yw, [], [])
theorem Zlk (l : List Sp) (k : Nat) (h : k < l.length) : Vc (l.take (k + 1)) = Jd (Vc (l.take k)) l[k] := by
 unfold Vc;rw [List.take_succ_eq_append_getElem h, List.foldl_append]; rfl
theorem Zn1 (l : List Sp) : ∀ a : St × List Int × List Int, (l.foldl Jd a).2.1.length = a.2.1.length + l.length ∧ (l.foldl Jd a).2.2.length = a.2.2.length + l.length := by
 induction l with
 | nil => intro a; simp
 | cons x l ih =>
  intro a;obtain ⟨h1, h2⟩ := ih (Jd a x);simp only [List.foldl_cons, List.length_cons];rw [h1, h2];simp [Jd];omega
theorem Zpn (l : List Sp) : ∀ a : St × List Int × List Int, a.1.At → (l.foldl Jd a).1.At := by
 induction l with
 | nil => intro a h; exact h
 | cons x l ih => intro a h; exact ih _ (Zfn h)
def iv (x : Int) : Value := .int .i64 x
theorem Zoi : (Tryz.prog.info? 39).map (fun i => (i.zero, i.size, i.bytes)) = some (some (.int .i64 0), 1, 8) := by kernel_rfl
theorem Z5.grown {s : St} {row : Option Nat} (h : Z5 U s v w) (hg : w.grownBy w' row) (hn : ∀ b, row = some b → ¬ U b) : Z5 U s v w' := by
 cases row with
 | none => exact h.grow (Z8 (Zo.refl _) hg (fun k hk => by cases hk))
 | some q => exact h.but (Zt.grown hg) (hn q rfl)
theorem Zck {base size n q : Nat} {e : TypeId} {xs : List Value} (h : w.ownsRow base e size v n xs) (hg : Zt q w w') (hq : q < base) : w'.ownsRow base e size v n xs :=
 ⟨h.1, Xq h.2 (fun x => x) fun ⟨g, cap, cur, h1, h2, h3, r⟩ => ⟨g, cap, cur, h1, h2, by rw [hg.block _ (Za h3) (by omega)]; exact h3, r⟩⟩
structure Apt (S : Nat → Prop) (B G : Nat) (U : Nat → Prop) (ev nv : Value) (w : World) : Prop where
 lt : ∀ b, U b → b < w.heap.size
 up : ∀ b, U b → Zy S B b
 z : ¬ U B
 g : ¬ U G
 s : ∀ b, S b → U b
 e : ∀ b, ev.ownBlock = some b → ¬ U b
 n : ∀ b, nv.ownBlock = some b → ¬ U b
theorem Zpu (w : World) (x : Int) (T : TypeId) : ∀ (t : Nat) u, ([.int .i64 x] : List Value)[t]? = some u → (w.alloc (.cells #[.int .i64 x] T)).cell? ((⟨w.heap.size, 0, none⟩ : Addr).add t) = some u := by
 intro t u ht
 match t, ht with
 | 0, ht => simp at ht; subst ht; simp [Addr.add]
 | t + 1, ht => simp at ht
theorem Zu8 {U : Nat → Prop} {B G n1 n2 g9 : Nat} {ev nv v : Value} {w0 w w9 : World} {o : Obj} {T1 T2 TZ TG : TypeId} {s : St} {es ns : List Value} {cz cg : Array Value} {fz fg : Nat × Nat} (hBG : B < G) (hB : w0.heap.size ≤ B) (hT : T2 ≠ T1)
  (he : w.ownsRow (G + 1) T1 1 ev n1 es) (hn : w.ownsRow (G + 1) T2 1 nv n2 ns) (hlt : ∀ b, U b → b < w.heap.size) (hUe : ∀ b, ev.ownBlock = some b → ¬ U b) (hS : Z5 U s v w) (hz : w.heap[B]? = some (.cells cz TZ fz)) (hy : w.heap[G]? = some (.cells cg TG fg)) (gw : Zo w0 w)
  (hgr : (w.alloc o).grownBy w9 ev.ownBlock) (hat : ev.ownBlock = some g9 ∨ g9 = (w.alloc o).heap.size) :
  Z5 U s v w9 ∧ w9.heap[B]? = some (.cells cz TZ fz) ∧ w9.heap[G]? = some (.cells cg TG fg) ∧ w9.ownsRow (G + 1) T2 1 nv n2 ns ∧ Zo w0 w9 ∧ ¬ U g9 ∧ w.heap.size ≤ w9.heap.size := by
 refine ⟨(hS.grow (Zd w o)).grown hgr hUe, ?_, ?_, Zas he hgr hT hn, ?_, ?_, ?_⟩
 ·exact (X4 he hgr (Kc he (by omega)) (Za hz)).trans hz
 ·exact (X4 he hgr (Kc he (by omega)) (Za hy)).trans hy
 ·exact Z8 (gw.trans (Zd w o)) hgr (fun k hk => by have := (he.lt k hk).1; omega)
 ·rcases hat with h | h
  ·exact hUe g9 h
  ·intro hu;have := hlt g9 hu;rw [h, World.size_alloc] at this;omega
 ·have := hgr.size;rw [World.size_alloc] at this;omega
theorem Zip (S : Nat → Prop) (l : List Sp) (v : Value) (w : World) (hS : ∀ b, S b → b < w.heap.size) (hl : K7 S w v l) (hm : l.length ≤ 140737488355328) (hdl : ∀ x ∈ l, x.deed.data.length ≤ 140737488355328) :
  Calls Tryz.prog 10 #[v] w fun r w' => ∃ v' ev nv, r = .returned (.tuple #[v', ev, nv]) ∧ Z5 (Zy S w.heap.size) (Vc (l.take 100)).1 v' w' ∧ w'.ownsRow w.heap.size 39 1 ev (Vc (l.take 100)).2.1.length ((Vc (l.take 100)).2.1.map iv) ∧ w'.ownsRow w.heap.size 3 1 nv (Vc (l.take 100)).2.2.length ((Vc (l.take 100)).2.2.map iv) ∧ Zo w w' := by
 obtain ⟨ao, cp, rfl⟩ := hl.form;have g0 := Zd w Xc;have hz0 := Zj w #[.slice none 0 0, .slice none 0 0, .slice none 0 0, .int .i64 0] 33;obtain ⟨R, hR⟩ : ∃ R, R = Vc (l.take 100) := ⟨_, rfl⟩;rw [← hR];have HR : Hid _ := hR;clear hR;obtain ⟨ie, hife, hze0, hze1, hze2⟩ := info_parts Zoi;obtain ⟨ii, hifi, hzi0, hzi1, hzi2⟩ := info_parts Zcp;go_enter Tryz.func10, Tryz.ntmps10;go_wp2_with fail;refine (Zej S (w.alloc Xc) (fun b h => by have := hS b h; simp; omega)).mono ?_;rintro r w1 ⟨v1, rfl, hS1, g1⟩;obtain ⟨b1, e1, l1, m1, i1, j1, hv1, -, -, -⟩ := hS1.form;subst hv1;rw [World.size_alloc] at hS1;obtain ⟨G, hG⟩ : ∃ G, G = w1.heap.size := ⟨_, rfl⟩;have hz1 := (g1.block _ (Za hz0)).trans hz0;have hGz : w.heap.size < G := by rw [hG]; exact Za hz1
 have g2 := Zd w1 (.cells #[.slice b1 Yw.dk.blocks.length e1, .slice l1 Yw.dk.late.length m1, .slice i1 Yw.idx.length j1, .int .i64 Yw.next] 33);have hY := Zj w1 #[.slice b1 Yw.dk.blocks.length e1, .slice l1 Yw.dk.late.length m1, .slice i1 Yw.idx.length j1, .int .i64 Yw.next] 33;have hz2 := (g2.block _ (Za hz1)).trans hz1;have gw2 := g0.trans (g1.trans g2);rw [← hG] at hY;have hA0 : Apt S w.heap.size G (fun b => Zy S (w.heap.size + 1) b ∧ b < G) (.slice none 0 0) (.slice none 0 0) (w1.alloc (.cells #[.slice b1 Yw.dk.blocks.length e1, .slice l1 Yw.dk.late.length m1, .slice i1 Yw.idx.length j1, .int .i64 Yw.next] 33)) :=
  ⟨fun b h => by have := h.2; rw [World.size_alloc]; omega, fun b h => h.1.elim .inl (fun x => .inr (by omega)), fun h => h.1.elim (fun x => Nat.lt_irrefl _ (hS _ x)) (fun x => by omega), fun h => Nat.lt_irrefl _ h.2, fun b h => ⟨.inl h, by have := hS b h; omega⟩, (fun b h => by cases h), (fun b h => by cases h)⟩
 have hS2 : Z5 (fun b => Zy S (w.heap.size + 1) b ∧ b < G) Yw (.agg #[.slice b1 Yw.dk.blocks.length e1, .slice l1 Yw.dk.late.length m1, .slice i1 Yw.idx.length j1, .int .i64 Yw.next]) (w1.alloc (.cells #[.slice b1 Yw.dk.blocks.length e1, .slice l1 Yw.dk.late.length m1, .slice i1 Yw.idx.length j1, .int .i64 Yw.next] 33)) := by rw [hG]; exact hS1.capd.grow g2
 have HG : Hid _ := hG;have HST : Hid (Yw.At) := Zbb;clear g0 g1 g2 hz0 hz1 hS1 hG;go_wp2_with fail;rw [← HG.out];have HPL : Hid (Vc (l.take 0) = (Yw, [], [])) := by show _ = _; rfl
 generalize Yw = s0 at *;go_loopw [6, 7, 16] (fun ev nv i wr => ∃ (k : Nat) (s : St) (es ns : List Int) (U : Nat → Prop) (b1 : Option Addr) (e1 : Nat) (l1 : Option Addr) (m1 : Nat) (i1 : Option Addr) (j1 : Nat), k ≤ 100 ∧ k ≤ l.length ∧ i = .int .i64 (k : Int) ∧ Hid (Vc (l.take k) = (s, es, ns)) ∧ Hid s.At ∧ wr.heap[w.heap.size]? = some (.cells #[.slice none 0 0, .slice none 0 0, .slice none 0 0, .int .i64 0] 33 (0, 0)) ∧ wr.heap[G]? = some (.cells #[.slice b1 s.dk.blocks.length e1, .slice l1 s.dk.late.length m1, .slice i1 s.idx.length j1, .int .i64 s.next] 33 (0, 0)) ∧ Z5 U s (.agg #[.slice b1 s.dk.blocks.length e1, .slice l1 s.dk.late.length m1, .slice i1 s.idx.length j1, .int .i64 s.next]) wr ∧ Apt S w.heap.size G U ev nv wr ∧ wr.ownsRow (G + 1) 39 1 ev es.length (es.map iv) ∧ wr.ownsRow (G + 1) 3 1 nv ns.length (ns.map iv) ∧ Zo w wr) (fun _ _ i _ => l.length - (intOf i).toNat)
 case atStart => exact ⟨0, s0, [], [], _, b1, e1, l1, m1, i1, j1, by omega, by omega, rfl, HPL, HST, hz2, hY, hS2, hA0, World.ownsRow_nil _ _ _ _, World.ownsRow_nil _ _ _ _, gw2⟩
 case round =>
  clear hz2 hY hS2 gw2 HPL HST hA0;obtain ⟨k, s, es, ns, U, b1, e1, l1, m1, i1, j1, hk1, hkl, rfl, HPL, HST, hz9, hY, hS9, hA9, he9, hn9, gw9⟩ := hrel;have hGr : G < wr.heap.size := Za hY;have HLN : Hid (es.length = k ∧ ns.length = k) := by
   have h := Zn1 (l.take k) (Yw, [], []);have e : (l.take k).foldl Jd (Yw, [], []) = (s, es, ns) := HPL.out;rw [e] at h;simp only [List.length_nil, List.length_take] at h;show _ ∧ _;omega
  obtain ⟨ae, ce, rfl⟩ := Z4 he9;obtain ⟨an, cn, rfl⟩ := Z4 hn9;obtain ⟨y0, y1, y2, y3⟩ := Z7 hY rfl rfl rfl rfl;by_cases hlt : k < l.length
  ·obtain ⟨b, off, ad, c, hao, q0, q1, q2, q3, q4, q5, q6, hbd⟩ := Zkv (hl.grow gw9) k hlt;cases hao;have HNX : Hid (Vc (l.take (k + 1)) = Jd (Vc (l.take k)) l[k]) := Zlk l k hlt;have HDL : Hid (l[k].deed.data.length ≤ 140737488355328) := hdl _ (List.getElem_mem hlt);generalize l[k] = x at *;have g3 := Zd wr (.cells #[.int .i64 x.kind, .int .i64 x.n, .int .i64 x.m, .int .i64 x.deed.kind, .int .i64 x.deed.key, .int .i64 x.deed.num, .slice ad x.deed.data.length c] 70);have hX := Zj wr #[.int .i64 x.kind, .int .i64 x.n, .int .i64 x.m, .int .i64 x.deed.kind, .int .i64 x.deed.key, .int .i64 x.deed.num, .slice ad x.deed.data.length c] 70;have hz3 := (g3.block _ (Za hz9)).trans hz9;have hY3 := (g3.block _ (Za hY)).trans hY;have hS3 := hS9.grow g3;have hb3 := hbd.grow g3;have gw3 := gw9.trans g3;have he3 := Z6 he9 g3;have hn3 := Z6 hn9 g3;have hA3 : Apt S w.heap.size G U (.slice ae es.length ce) (.slice an ns.length cn) (wr.alloc (.cells #[.int .i64 x.kind, .int .i64 x.n, .int .i64 x.m, .int .i64 x.deed.kind, .int .i64 x.deed.key, .int .i64 x.deed.num, .slice ad x.deed.data.length c] 70)) := ⟨fun b h => Nat.lt_of_lt_of_le (hA9.lt b h) g3.size, hA9.up, hA9.z, hA9.g, hA9.s, hA9.e, hA9.n⟩;clear y0 y1 y2 y3 hz9 hS9 gw9 hY hbd he9 hn9 hA9;obtain ⟨y0, y1, y2, y3⟩ := Z7 hY3 rfl rfl rfl rfl;by_cases h100 : k = 100
   ·have d1 : ((k : Int) == 100) = true := by simp [h100]
    obtain rfl : R = (s, es, ns) := by rw [HR.out, ← HPL.out, h100]
    have hz9 := hz3;have hS9 := hS3;have gw9 := gw3;have he9 := he3;have hn9 := hn3;have hA9 := hA3;obtain ⟨ev, hev⟩ : ∃ ev, ev = Value.slice ae es.length ce := ⟨_, rfl⟩;obtain ⟨nv, hnv⟩ : ∃ nv, nv = Value.slice an ns.length cn := ⟨_, rfl⟩;rw [← hev] at he9 hA9 ⊢;rw [← hnv] at hn9 hA9 ⊢;clear HPL HST hX hz3 hS3 gw3 hY3 hb3 g3 h100 he3 hn3 hA3 HLN HNX hev hnv;obtain ⟨z0, z1, z2, z3⟩ := Z7 hz9 rfl rfl rfl rfl;obtain ⟨o0, o1, o2, o3⟩ := Yt hz9;obtain ⟨hq1, hq2⟩ := Ym hz9 (.slice b1 s.dk.blocks.length e1) (.slice l1 s.dk.late.length m1) (.slice i1 s.idx.length j1) (.int .i64 s.next);obtain ⟨x0, x1, x2, x3⟩ := Z7 hq1 rfl rfl rfl rfl;have cs := Zx;have gE := hq2.grow gw9 (Nat.le_refl _);have hE := (hS9.but hq2 hA9.z).mono hA9.up;have rE := Yf (Zck he9 hq2 (by omega)) (show w.heap.size ≤ G + 1 by omega);have rN := Yf (Zck hn9 hq2 (by omega)) (show w.heap.size ≤ G + 1 by omega);have HRE : Hid _ := rE;have HRN : Hid _ := rN;clear hq1 hq2 hz9 gw9 hS9 hA9 he9 hn9 rE rN;obtain ⟨ae, ce, rfl⟩ : ∃ ae ce, ev = .slice ae es.length ce := Z4 HRE.out;obtain ⟨an, cn, rfl⟩ : ∃ an cn, nv = .slice an ns.length cn := Z4 HRN.out;go_wp2_with fail;exact bodyPost_ret (v := .tuple #[.agg #[.slice b1 s.dk.blocks.length e1, .slice l1 s.dk.late.length m1, .slice i1 s.idx.length j1, .int .i64 s.next], .slice ae es.length ce, .slice an ns.length cn]) (by simp [results, Tryz.results10, go_sem, x0, x1, x2, x3]) rfl ⟨_, _, _, rfl, hE, HRE.out, HRN.out, gE⟩
   ·have d1 : ((k : Int) == 100) = false := by simp; omega
    have HK1 : Hid (k + 1 ≤ 100) := by show _ ≤ _; omega
    obtain ⟨p0, p1, p2, p3, p4⟩ := Q2 hX rfl rfl rfl rfl rfl;have p5 := Ze hX 5 _ rfl;have p6 := Ze hX 6 _ rfl;clear g3 h100;go_wp2_with fail;generalize World.alloc wr _ = w4 at *;refine (Zil (fun b => U b ∧ b < w4.heap.size) s x _ ad c w4 (fun b h => h.2) hS3.capd ((hb3.mono hA3.s).caps) HST.out HDL.out).mono ?_;have HAT : Hid ((s.step x).st.At) := Zfn HST.out;have HN2 : Hid (Vc (l.take (k + 1)) = ((s.step x).st, es ++ [(s.step x).e], ns ++ [(s.step x).n])) := by show _ = _; rw [HNX.out, HPL.out]; rfl
    generalize s.step x = B at *;rintro r w5 ⟨v5, rfl, hS5, g5⟩;obtain ⟨b5, e5, l5, m5, i5, j5, hv5, -, -, -⟩ := hS5.form;subst hv5;have hG4 : G < w4.heap.size := Za hY3;obtain ⟨U5, hU5⟩ : ∃ U5 : Nat → Prop, U5 = fun b => U b ∨ (w4.heap.size ≤ b ∧ b < w5.heap.size) := ⟨_, rfl⟩
    have h45 := g5.size;have hS6 : Z5 U5 B.st (.agg #[.slice b5 B.st.dk.blocks.length e5, .slice l5 B.st.dk.late.length m5, .slice i5 B.st.idx.length j5, .int .i64 B.st.next]) w5 := hS5.capd.mono (by
     rw [hU5];rintro b ⟨h | h, hb⟩
     ·exact .inl h.1
     ·exact .inr ⟨h, hb⟩)
    have hA5 : Apt S w.heap.size G U5 (.slice ae es.length ce) (.slice an ns.length cn) w5 := by
     rw [hU5];have hwB : w.heap.size < w4.heap.size := by omega
     refine ⟨fun b h => h.elim (fun x => by have := hA3.lt b x; omega) (fun x => x.2), fun b h => h.elim (hA3.up b) (fun x => .inr (by omega)), fun h => h.elim hA3.z (fun x => by omega), fun h => h.elim hA3.g (fun x => by omega), fun b h => .inl (hA3.s b h), fun b h hu => hu.elim (hA3.e b h) (fun x => ?_), fun b h hu => hu.elim (hA3.n b h) (fun x => ?_)⟩
     ·have := (he3.lt b h).2; omega
     ·have := (hn3.lt b h).2; omega
    have hz5 := (g5.block _ (Za hz3)).trans hz3;have hY5 := (g5.block _ (Za hY3)).trans hY3;have gw5 := gw3.trans g5;have he5 := Z6 he3 g5;have hn5 := Z6 hn3 g5;clear y0 y1 y2 y3 p0 p1 p2 p3 p4 p5 p6 hX hz3 hY3 hS3 hb3 gw3 hS5 g5 HST HNX HPL he3 hn3 hA3 hU5 q0 q1 q2 q3 q4 q5 q6;have g6 := Zd w5 (.cells #[.slice b5 B.st.dk.blocks.length e5, .slice l5 B.st.dk.late.length m5, .slice i5 B.st.idx.length j5, .int .i64 B.st.next] 33);have hU6 := Zj w5 #[.slice b5 B.st.dk.blocks.length e5, .slice l5 B.st.dk.late.length m5, .slice i5 B.st.idx.length j5, .int .i64 B.st.next] 33;obtain ⟨u0, u1, u2, u3⟩ := Z7 hU6 rfl rfl rfl rfl;have hY6 := (g6.block _ (Za hY5)).trans hY5;have hz6 := (g6.block _ (Za hz5)).trans hz5;obtain ⟨hp1, hp2⟩ := Ym hY6 (.slice b5 B.st.dk.blocks.length e5) (.slice l5 B.st.dk.late.length m5) (.slice i5 B.st.idx.length j5) (.int .i64 B.st.next);obtain ⟨y0, y1, y2, y3⟩ := Z7 hY6 rfl rfl rfl rfl;obtain ⟨f0, f1, f2, f3⟩ := Yt hY6;have cs := Zx;have hz7 := (hp2.block _ (Za hz6) (by intro e; omega)).trans hz6;have hS7 := (hS6.grow g6).but hp2 hA5.g;have gw7 := hp2.grow (gw5.trans g6) (by omega);have he7 := Zck (Z6 he5 g6) hp2 (by omega);have hn7 := Zck (Z6 hn5 g6) hp2 (by omega);have hlt7 := Nat.le_trans g6.size hp2.size;have hA7 := hA5;clear hp2 hz5 hY5 gw5 hS6 he5 hn5 hz6 hY6 hU6 g6 hA5;go_upto_region 10 with fail
    clear y0 y1 y2 y3 f0 f1 f2 f3 cs u0 u1 u2 u3;generalize World.setCell (World.setCell (World.setCell (World.setCell (World.alloc w5 _) _ _) _ _) _ _) _ _ = W7 at *;have q8 := Zpu W7 B.e 39;have hle : es.length ≤ 100 ∧ ns.length ≤ 100 := by have := HLN.out; omega
    have hEL : Hid ((es ++ [B.e]).length = es.length + 1 ∧ (es ++ [B.e]).map iv = es.map iv ++ [.int .i64 B.e]) := by show _ ∧ _; simp [iv]
    have hNL : Hid ((ns ++ [B.n]).length = ns.length + 1 ∧ (ns ++ [B.n]).map iv = ns.map iv ++ [.int .i64 B.n]) := by show _ ∧ _; simp [iv]
    have hGW : G < W7.heap.size := Za hp1;go_wp2_with (first
     | (at_builtin; refine wpList_append_lies _ rfl (.tmp 31) (.tmp 33) 35 rfl (G + 1) 39 ie (.int .i64 0) 1 8 Tryz.underlying35 hife hze0 hze1 hze2 rfl (by decide) (.slice ae es.length ce) _ _ rfl (he7.alloc _) ⟨W7.heap.size, 0, none⟩ 1 1 [.int .i64 B.e] rfl rfl q8 (by intro u hu; simp at hu; subst hu; rfl) (by omega) (by unfold maxLen; omega) (by omega) (by simp; omega) _ rfl ?_; intro g9 c9 w9 hown9 hgr9 hat9 _hlt9; obtain ⟨hS9, hz9, hY9, hn9, gw9, hug9, hsz9⟩ := Zu8 (by omega) (Nat.le_refl _) (by decide) he7 hn7 (fun b h => Nat.lt_of_lt_of_le (hA7.lt b h) hlt7) hA7.e hS7 hz7 hp1 gw7 hgr9 hat9; have he9 : w9.ownsRow (G + 1) 39 1 (.slice (some ⟨g9, 0, none⟩) (es.length + 1) c9) (es ++ [B.e]).length ((es ++ [B.e]).map iv) := (by rw [hEL.out.1, hEL.out.2]; exact hown9); have hGW9 : G < w9.heap.size := Za hY9; have q9 := Zpu w9 B.n 3; clear hown9 hgr9 hat9 q8 he7 hn7 hS7 hz7 hp1 gw7 hGW)
     | (at_builtin; refine wpList_append_lies _ rfl (.tmp 35) (.tmp 37) 36 rfl (G + 1) 3 ii (.int .i64 0) 1 8 Tryz.underlying36 hifi hzi0 hzi1 hzi2 rfl (by decide) (.slice an ns.length cn) _ _ rfl (hn9.alloc _) ⟨w9.heap.size, 0, none⟩ 1 1 [.int .i64 B.n] rfl rfl q9 (by intro u hu; simp at hu; subst hu; rfl) (by omega) (by unfold maxLen; omega) (by omega) (by simp; omega) _ rfl ?_; intro gA cA wA hownA hgrA hatA _hltA; obtain ⟨hSA, hzA, hYA, heA, gwA, hugA, hszA⟩ := Zu8 (by omega) (Nat.le_refl _) (by decide) hn9 he9 (fun b h => Nat.lt_of_lt_of_le (hA7.lt b h) (Nat.le_trans hlt7 hsz9)) hA7.n hS9 hz9 hY9 gw9 hgrA hatA; have hnA : wA.ownsRow (G + 1) 3 1 (.slice (some ⟨gA, 0, none⟩) (ns.length + 1) cA) (ns ++ [B.n]).length ((ns ++ [B.n]).map iv) := (by rw [hNL.out.1, hNL.out.2]; exact hownA); have hAA : Apt S w.heap.size G U5 (.slice (some ⟨g9, 0, none⟩) (es.length + 1) c9) (.slice (some ⟨gA, 0, none⟩) (ns.length + 1) cA) wA := (⟨fun b h => Nat.lt_of_lt_of_le (hA7.lt b h) (Nat.le_trans hlt7 (Nat.le_trans hsz9 hszA)), hA7.up, hA7.z, hA7.g, hA7.s, (fun b h => by have e : g9 = b := Option.some.inj h; rw [← e]; exact hug9), (fun b h => by have e : gA = b := Option.some.inj h; rw [← e]; exact hugA)⟩); clear hownA hgrA hatA q9 he9 hn9 hS9 hz9 hY9 gw9 hGW9))
    go_roundw
    case rel => exact ⟨k + 1, B.st, es ++ [B.e], ns ++ [B.n], U5, b5, e5, l5, m5, i5, j5, HK1.out, by omega, by go_num, HN2, HAT, hzA, hYA, hSA, hAA, heA, hnA, gwA⟩
    case measure => simp [intOf]; omega
  ·obtain rfl : R = (s, es, ns) := by
    have e : l.take 100 = l.take k := by rw [List.take_of_length_le (by omega), List.take_of_length_le (by omega)]
    rw [HR.out, e, HPL.out]
   obtain ⟨ev, hev⟩ : ∃ ev, ev = Value.slice ae es.length ce := ⟨_, rfl⟩;obtain ⟨nv, hnv⟩ : ∃ nv, nv = Value.slice an ns.length cn := ⟨_, rfl⟩;rw [← hev] at he9 hA9 ⊢;rw [← hnv] at hn9 hA9 ⊢;clear HPL HST hY HLN hev hnv;obtain ⟨z0, z1, z2, z3⟩ := Z7 hz9 rfl rfl rfl rfl;obtain ⟨o0, o1, o2, o3⟩ := Yt hz9;obtain ⟨hq1, hq2⟩ := Ym hz9 (.slice b1 s.dk.blocks.length e1) (.slice l1 s.dk.late.length m1) (.slice i1 s.idx.length j1) (.int .i64 s.next);obtain ⟨x0, x1, x2, x3⟩ := Z7 hq1 rfl rfl rfl rfl;have cs := Zx;have gE := hq2.grow gw9 (Nat.le_refl _);have hE := (hS9.but hq2 hA9.z).mono hA9.up;have rE := Yf (Zck he9 hq2 (by omega)) (show w.heap.size ≤ G + 1 by omega);have rN := Yf (Zck hn9 hq2 (by omega)) (show w.heap.size ≤ G + 1 by omega);have HRE : Hid _ := rE;have HRN : Hid _ := rN;clear hq1 hq2 hz9 gw9 hS9 hA9 he9 hn9 rE rN;obtain ⟨ae, ce, rfl⟩ : ∃ ae ce, ev = .slice ae es.length ce := Z4 HRE.out;obtain ⟨an, cn, rfl⟩ : ∃ an cn, nv = .slice an ns.length cn := Z4 HRN.out;go_wp2_with fail;exact bodyPost_ret (v := .tuple #[.agg #[.slice b1 s.dk.blocks.length e1, .slice l1 s.dk.late.length m1, .slice i1 s.idx.length j1, .int .i64 s.next], .slice ae es.length ce, .slice an ns.length cn]) (by simp [results, Tryz.results10, go_sem, x0, x1, x2, x3]) rfl ⟨_, _, _, rfl, hE, HRE.out, HRN.out, gE⟩
variable {S : Nat → Prop} {v : Value} {w : World}
def Zvj : Prop := ∀ (S : Nat → Prop) (w : World), (∀ b, S b → b < w.heap.size) →
 Calls Tryz.prog 8 #[] w fun r w' => ∃ v', r = .returned v' ∧ Z5 (Zy S w.heap.size) Yw v' w' ∧ Zo w w'
def Zvi : Prop := ∀ (S : Nat → Prop) (s : St) (v : Value) (w : World), (∀ b, S b → b < w.heap.size) → Z5 S s v w → s.At →
 Calls Tryz.prog 15 #[v] w fun r w' => ∃ v', r = .returned v' ∧ Z5 (Zy S w.heap.size) s v' w' ∧ Zo w w'
def Zd7 : Prop := ∀ (S : Nat → Prop) (d : Dk) (v : Value) (w : World), (∀ b, S b → b < w.heap.size) → Xs S d v w → d.Fine 2 →
 Calls Tryz.prog 13 #[v] w fun r w' => ∃ v', r = .returned v' ∧ Z5 (Zy S w.heap.size) (Yy d) v' w' ∧ Zo w w'
def Za4 : Prop := ∀ (S : Nat → Prop) (s : St) (v : Value) (w : World), (∀ b, S b → b < w.heap.size) → Z5 S s v w → s.At →
 Calls Tryz.prog 23 #[v] w fun r w' => ∃ v', r = .returned v' ∧ Yz (Zy S w.heap.size) w' v' s.recs ∧ Zo w w'
def Zfu : Prop := ∀ (S : Nat → Prop) (s : St) (d : Dd) (v : Value) (ad : Option Addr) (c : Nat) (w : World), (∀ b, S b → b < w.heap.size) → Z5 S s v w → Z1 S w (.slice ad d.data.length c) d.data → s.At → d.data.length ≤ 140737488355328 →
 Calls Tryz.prog 11 #[v, .agg #[.int .i64 d.kind, .int .i64 d.key, .int .i64 d.num, .slice ad d.data.length c]] w fun r w' => ∃ v', r = .returned (.tuple #[v', .int .i64 (s.begin d).n, .int .i64 (s.begin d).e]) ∧ Z5 (Zy S w.heap.size) (s.begin d).st v' w' ∧ Zo w w'
def Zxr : Prop := ∀ (S : Nat → Prop) (s : St) (d : Dd) (v : Value) (ad : Option Addr) (c : Nat) (w : World), (∀ b, S b → b < w.heap.size) → Z5 S s v w → Z1 S w (.slice ad d.data.length c) d.data → s.At → d.data.length ≤ 140737488355328 →
 Calls Tryz.prog 16 #[v, .agg #[.int .i64 d.kind, .int .i64 d.key, .int .i64 d.num, .slice ad d.data.length c]] w fun r w' => ∃ v', r = .returned (.tuple #[v', .int .i64 (s.doS d).n, .int .i64 (s.doS d).e]) ∧ Z5 (Zy S w.heap.size) (s.doS d).st v' w' ∧ Zo w w'
def Zp7 : Prop := ∀ (S : Nat → Prop) (s : St) (key : Int) (v : Value) (w : World), (∀ b, S b → b < w.heap.size) → Z5 S s v w → s.At →
 Calls Tryz.prog 18 #[v, .int .i64 key] w fun r w' => ∃ u, r = .returned (.tuple #[u, .int .i64 (Q8 s.recs key).e]) ∧ Z1 (Zy S w.heap.size) w' u (Q8 s.recs key).data ∧ Zo w w'
def Zki : Prop := ∀ (S : Nat → Prop) (s : St) (fr most : Int) (v : Value) (w : World), (∀ b, S b → b < w.heap.size) → Z5 S s v w → s.At →
 Calls Tryz.prog 21 #[v, .int .i64 fr, .int .i64 most] w fun r w' => ∃ v', r = .returned v' ∧ w'.ownsRow w.heap.size 3 1 v' (Xr s.recs fr most 255).length ((Xr s.recs fr most 255).map iv) ∧ Zo w w'
def Zfv : Prop := ∀ w : World, Calls Tryz.prog 25 #[] w fun r w' => r = .returned (.bool true) ∧ Zo w w'
theorem Zdg : ∀ (n : Nat) (s : St) (l : List Sp), s.Inv → (Kf n s l).Inv
 | 0, s, _, h => h
 | n + 1, s, [], h => h
 | n + 1, s, x :: l, h => by
  unfold Kf;split
  ·rename_i hg; exact Zdg n _ l (Zst h hg)
  ·exact h
theorem Zak {s : St} (h : s.At) : s.idx.length ≤ 6 := by
 obtain ⟨h1, h2⟩ := (Xb _).1 h.ok.right;have hn : (s.idx.map fun x => x.pair.toNat).Nodup := by
  rw [List.nodup_iff_pairwise_ne, List.pairwise_map];refine List.Pairwise.imp_of_mem ?_ h1;intro a b ha hb hu e;have ha0 := (h2 a ha).2.2.1;have hb0 := (h2 b hb).2.2.1;exact hu.2 (by omega)
 have := Zdm _ (List.range 6) hn (fun x hx => by
  obtain ⟨e, he, rfl⟩ := List.mem_map.1 hx;have := h.ok.six e he;rw [List.mem_range];have := (h2 e he).2.2.1;omega)
 simpa using this
theorem Zp6 {s : St} (h : s.At) : ∀ r ∈ s.recs, r.ver ≤ 60000 := fun r hr => by
 obtain ⟨x, hx, rfl⟩ := List.mem_map.1 hr;exact (Va (((Xb _).1 h.ok.right).2 x hx).1).2.2.2.2.2.1
theorem Jf {s : St} (h : s.At) : s.recs.length ≤ 6 := by unfold St.recs; rw [List.length_map]; exact Zak h
theorem Zp3 (l : List Rec) (d : Dd) : (doR l d).l.length ≤ l.length + 1 := by
 unfold doR;split
 ·split
  ·rename_i i hf;simp only [List.length_append, List.length_take, List.length_drop];omega
  ·exact Nat.le_succ _
 ·split
  ·exact Nat.le_succ _
  ·split
   ·exact Nat.le_succ _
   ·simp
theorem Z5.any {s : St} (h : Z5 S s v w) : Z5 (fun _ => True) s v w := h.mono fun _ _ => trivial
theorem Z5.now {s : St} (h : Z5 (fun _ => True) s v w) : Z5 (fun b => b < w.heap.size) s v w := h.capd.mono fun _ h => h.2
theorem Jn {l : List Rec} (h : Yz S w v l) : Yz (fun _ => True) w v l := Z3.mono h fun _ _ => trivial
theorem V6 {l : List UInt8} (h : Z1 S w v l) : Z1 (fun b => b < w.heap.size) w v l := h.caps.mono fun _ h => h.2
theorem Zpx {l : List Int} {i : Nat} (h : i < l.length) : (l.map iv)[i]? = some (.int .i64 l[i]) := by simp [iv, h]
theorem Zdu {base n : Nat} {e : TypeId} {xs : List Value} (h : w.ownsRow base e 1 v n xs) (hn : 0 < n) : ∃ g c, v = .slice (some ⟨g, 0, none⟩) n c ∧ base ≤ g ∧ g < w.heap.size := by
 rcases h.2 with ⟨_, h0⟩ | ⟨g, c, cur, h1, h2, h3, _⟩
 ·omega
 ·exact ⟨g, c, h1, h2, Za h3⟩
end Go.Proofs.YtpdnapbchcdhlabGreat
namespace Go.Proofs.YtpdnapbchcdhlabGreat
set_option maxRecDepth 100000
open Plain
variable {K : List Int}
def Jp (l : List Rec) : Nat → List Int
 | 0 => []
 | k + 1 => if (Q8 l ((k : Int) + 1)).e = 0 then Jp l k ++ [(k : Int) + 1] else Jp l k
theorem Zco (l : List Rec) (fr most : Int) (hm : 0 ≤ most) : ∀ k, Xr l fr most k = ((Jp l k).filter fun x => decide (fr ≤ x)).take most.toNat
 | 0 => by simp [Xr, Jp]
 | k + 1 => by
  have ih := Zco l fr most hm k;unfold Xr Jp;by_cases he : (Q8 l ((k : Int) + 1)).e = 0
  ·rw [if_pos he, List.filter_append];by_cases hf : fr ≤ (k : Int) + 1
   ·rw [List.filter_cons_of_pos (by exact decide_eq_true hf), List.filter_nil, List.take_append];by_cases hl : ((Xr l fr most k).length : Int) < most
    ·rw [if_pos ⟨he, hf, hl⟩, ih];rw [ih, List.length_take] at hl
     congr 1
     rw [List.take_of_length_le (by simp; omega)]
    ·rw [if_neg (fun h => hl h.2.2), ih];rw [ih, List.length_take] at hl;rw [show most.toNat - ((Jp l k).filter fun x => decide (fr ≤ x)).length = 0 by omega];simp
   ·rw [if_neg (fun h => hf h.2.1), ih, List.filter_cons_of_neg (by simpa using hf)];simp
  ·rw [if_neg (fun h => he h.1), if_neg he, ih]
theorem Zdx (l : List Rec) : ∀ k, (∀ x ∈ Jp l k, 1 ≤ x ∧ x ≤ (k : Int) ∧ (Q8 l x).e = 0) ∧ (Jp l k).Pairwise (· < ·)
 | 0 => ⟨(fun x hx => by cases hx), List.Pairwise.nil⟩
 | k + 1 => by
  obtain ⟨h1, h2⟩ := Zdx l k;unfold Jp;by_cases he : (Q8 l ((k : Int) + 1)).e = 0
  ·rw [if_pos he];refine ⟨fun x hx => ?_, List.pairwise_append.2 ⟨h2, List.pairwise_singleton _ _, fun a ha b hb => ?_⟩⟩
   ·rcases List.mem_append.1 hx with h | h
    ·have := h1 x h; exact ⟨this.1, by omega, this.2.2⟩
    ·rw [List.mem_singleton.1 h]; exact ⟨by omega, by omega, he⟩
   ·rw [List.mem_singleton.1 hb]; have := h1 a ha; omega
  ·rw [if_neg he];exact ⟨fun x hx => by have := h1 x hx; exact ⟨this.1, by omega, this.2.2⟩, h2⟩
theorem Zj4 (key : Int) : ∀ (l : List Rec) (g : Got), (l.foldl (Ke key) g).e = 0 → g.e = 0 ∨ ∃ r ∈ l, r.key = key
 | [], g, h => .inl h
 | r :: l, g, h => by
  by_cases hk : r.key = key
  ·exact .inr ⟨r, by simp, hk⟩
  ·have e : Ke key g r = g := by
    unfold Ke;rw [if_pos (.inl hk)]
   rw [List.foldl_cons, e] at h;rcases Zj4 key l g h with h1 | ⟨x, hx, h1⟩
   ·exact .inl h1
   ·exact .inr ⟨x, by simp [hx], h1⟩
theorem Zrk (l : List Rec) (k : Nat) : (Jp l k).length ≤ l.length := by
 obtain ⟨h1, h2⟩ := Zdx l k;have hn : ((Jp l k).map Int.toNat).Nodup := by
  rw [List.nodup_iff_pairwise_ne, List.pairwise_map];refine List.Pairwise.imp_of_mem ?_ h2;intro a b ha hb hlt e;have := h1 a ha;have := h1 b hb;omega
 have := Zdm _ (l.map fun r => r.key.toNat) hn (fun x hx => by
  obtain ⟨y, hy, rfl⟩ := List.mem_map.1 hx;rcases Zj4 y l ⟨0, 6, []⟩ (h1 y hy).2.2 with h | ⟨r, hr, hk⟩
  ·cases h
  ·exact List.mem_map.2 ⟨r, hr, by rw [hk]⟩)
 simpa using this
theorem Zru (hK : K.Pairwise (· < ·)) {n : Nat} (h0 : 0 < n) (hn : n ≤ K.length) : (K.filter fun x => decide (K[n - 1] + 1 ≤ x)) = K.drop n := by
 have hp : ∀ i j (hi : i < K.length) (hj : j < K.length), i < j → K[i] < K[j] := fun i j hi hj hij => (List.pairwise_iff_getElem.1 hK) i j hi hj hij
 obtain ⟨c, hc⟩ : ∃ c, c = K[n - 1] := ⟨_, rfl⟩;rw [← hc];have e0 : K.filter (fun x => decide (c + 1 ≤ x)) = (K.take n ++ K.drop n).filter (fun x => decide (c + 1 ≤ x)) := by rw [List.take_append_drop]
 rw [e0, List.filter_append];have e1 : ((K.take n).filter fun x => decide (c + 1 ≤ x)) = [] := by
  rw [List.filter_eq_nil_iff];intro x hx;obtain ⟨i, hi, rfl⟩ := List.mem_iff_getElem.1 hx;rw [List.length_take] at hi;rw [List.getElem_take];have hle : K[i] ≤ K[n - 1] := by
   by_cases e : i = n - 1
   ·simp [e]
   ·exact Int.le_of_lt (hp i (n - 1) (by omega) (by omega) (by omega))
  have : ¬ c + 1 ≤ K[i] := by omega
  simpa using this
 have e2 : ((K.drop n).filter fun x => decide (c + 1 ≤ x)) = K.drop n := by
  rw [List.filter_eq_self];intro x hx;obtain ⟨i, hi, rfl⟩ := List.mem_iff_getElem.1 hx;rw [List.length_drop] at hi;rw [List.getElem_drop];have := hp (n - 1) (n + i) (by omega) (by omega) (by omega);exact decide_eq_true (by omega)
 rw [e1, e2, List.nil_append]
theorem Zl8 (h : ∀ x ∈ K, 1 ≤ x) : (K.filter fun x => decide ((1 : Int) ≤ x)) = K := by
 rw [List.filter_eq_self];intro x hx;exact decide_eq_true (h x hx)
end Go.Proofs.YtpdnapbchcdhlabGreat
