import Derived.Test.YtpdnapbchcdhlacGreatInv3
import Derived.Deep.AppendLies
set_option maxHeartbeats 8000000
namespace Go.Proofs.YtpdnapbchcdhlacGreat
set_option maxRecDepth 100000
open Go.RowKit
open Plain Reg
variable {S : Nat → Prop} {ad : Option Addr} {c : Nat} {v : Value} {w : World} {x : Sp}
theorem Zwa {s : St} (h : Vw S s x v ad c w) (k1 : ¬ x.kind = 1) (k2 : ¬ x.kind = 2) (k3 : ¬ x.kind = 3) (k4 : ¬ x.kind = 4) (k5 : x.kind = 5) : Qc 21 S s x v ad c w := by
 obtain ⟨ab, cb, al, cl, ai, ci, rfl, hb, hl, hi, hnz, g0, hs1, hd1, hz1, HWs⟩ := h.pre;obtain ⟨hS, hs, hd, hA, hdl⟩ := h;unfold Qc;have hns : ¬ Zw S (w.heap.size + 3) w.heap.size := Yn hS (by omega);obtain ⟨R, hR⟩ : ∃ R, R = s.step x := ⟨_, rfl⟩;rw [← hR];have HR : Hid (R = s.step x) := hR;have HAT : Hid (s.At) := hA;clear hR hA;go_enter Tryz.func21, Tryz.ntmps21;obtain ⟨d0, d1, d2, d3, d4⟩ := X9 hd1 rfl rfl rfl rfl rfl;have d5 := Zd hd1 5 _ rfl;have d6 := Zd hd1 6 _ rfl;obtain ⟨s0, s1, s2, s3⟩ := Z4 hs1 rfl rfl rfl rfl;have q1 : (x.kind == 1) = false := by simp [k1]
 have q2 : (x.kind == 2) = false := by simp [k2]
 have q3 : (x.kind == 3) = false := by simp [k3]
 have q4 : (x.kind == 4) = false := by simp [k4]
 have q5 : (x.kind == 5) = true := by simp [k5]
 obtain ⟨CD, hCD⟩ : ∃ CD, CD = s.dk.clean := ⟨_, rfl⟩;obtain ⟨s9, hs9⟩ : ∃ s9, s9 = Xw CD := ⟨_, rfl⟩;obtain rfl : R = ⟨s9, 0, 0⟩ := by rw [HR.out, hs9, hCD]; unfold St.step; rw [if_neg k1, if_neg k2, if_neg k3, if_neg k4, if_pos k5]
 have HS9 : Hid _ := hs9;have HCD : Hid _ := hCD;have HCF : Hid (CD.Fine 0) := by rw [hCD]; exact Zec HAT.out.ok.disk
 clear HR k1 k2 k3 k4 k5 hs9 hCD;go_wp2_with fail;generalize World.alloc (World.alloc (World.alloc w _) _) _ = W at *;have hWs := HWs.out;clear HWs;refine (Znn S 0 s.dk _ W (fun b h => by have := hS b h; omega) ⟨_, _, rfl, hb.grow g0, hl.grow g0⟩ HAT.out.ok.disk (by omega)).mono ?_;rw [hWs, ← HCD.out];generalize cnt (s.dk.keep 0) 6 = CN at *;generalize Ym (s.dk.keep 0) 6 = tw at *;rintro r w1 ⟨v1, vt, rfl, h1, hvt, g1⟩;obtain ⟨b1, e1, l1, m1, rfl, h1b, h1l⟩ := h1.form;obtain ⟨at1, ct1, rfl⟩ := hvt.form;have g2 := Zr w1 (.cells #[.slice b1 CD.blocks.length e1, .slice l1 CD.late.length m1] 26) (.cells (Vh CN) 39);have hV0 := Zj w1 #[.slice b1 CD.blocks.length e1, .slice l1 CD.late.length m1] 26;have hV := ((Zc (w1.alloc (.cells #[.slice b1 CD.blocks.length e1, .slice l1 CD.late.length m1] 26)) (.cells (Vh CN) 39)).block _ (Za hV0)).trans hV0;have gg := g1.trans g2;have hs2 := (gg.block _ (Za hs1)).trans hs1;have hz2 := (gg.block _ (Za hz1)).trans hz1;have gw2 := g0.trans gg;have p1 := h1b.grow g2;have p2 := h1l.grow g2;clear d0 d1 d2 d3 d4 d5 d6 s0 s1 s2 s3 hs1 hd1 hz1 g0 g1 g2 gg hs hb hl hi hV0 h1 h1b h1l hvt;obtain ⟨v0, v1⟩ := Xa hV rfl rfl;go_wp2_with fail;clear v0 v1 hV;generalize World.alloc (World.alloc w1 _) _ = W2 at *;refine (Za9 (fun b => Zw S (w.heap.size + 3) b ∧ b < W2.heap.size) 0 CD _ W2 (fun b h => h.2) ⟨_, _, rfl, p1.capd, p2.capd⟩ HCF.out (by omega)).mono ?_;have HW2 : Hid (w.heap.size + 3 ≤ W2.heap.size) := Za hz2;rw [← HS9.out];rintro r w3 ⟨v3, rfl, h3, g3⟩
 have hS8 : Z7 (Zw S (w.heap.size + 3)) s9 v3 w3 := h3.mono fun b h => h.elim (fun x => x.1) (fun x => .inr (Nat.le_trans HW2.out x))
 have hs8 := (g3.block _ (Za hs2)).trans hs2;have hz8 := (g3.block _ (Za hz2)).trans hz2;have gw8 := gw2.trans g3;obtain ⟨b9, e9, l9, m9, i9, j9, hv9, -, -, -⟩ := hS8.form;subst hv9;clear hs2 hz2 gw2 p1 p2 h3 g3;obtain ⟨ht1, ht2⟩ := Ye hs8 (.slice b9 s9.dk.blocks.length e9) (.slice l9 s9.dk.late.length m9) (.slice i9 s9.idx.length j9) (.int .i64 s9.next);obtain ⟨y0, y1, y2, y3⟩ := Z4 hs8 rfl rfl rfl rfl;obtain ⟨f0, f1, f2, f3⟩ := Yq hs8;obtain ⟨t0, t1, t2, t3⟩ := Z4 ht1 rfl rfl rfl rfl;have hz9 := (ht2.block _ (Za hz8) (by omega)).trans hz8;have gw9 := ht2.grow gw8 (Nat.le_refl _);have hS9 := hS8.but ht2 hns;clear ht1 ht2 hs8 hz8 gw8 hS8;obtain ⟨hq1, hq2⟩ := Ye hz9 (.slice b9 s9.dk.blocks.length e9) (.slice l9 s9.dk.late.length m9) (.slice i9 s9.idx.length j9) (.int .i64 s9.next);obtain ⟨z0, z1, z2, z3⟩ := Z4 hz9 rfl rfl rfl rfl;obtain ⟨o0, o1, o2, o3⟩ := Yq hz9;obtain ⟨x0, x1, x2, x3⟩ := Z4 hq1 rfl rfl rfl rfl;have cs := Zt;have gE := hq2.grow gw9 (by omega);have hE := (hS9.but hq2 hnz).mono (Zz (B := w.heap.size) (by omega));clear hq1 hq2 hz9 gw9 hS9;go_wp2_with fail;exact bodyPost_ret (v := .tuple #[.agg #[.slice b9 s9.dk.blocks.length e9, .slice l9 s9.dk.late.length m9, .slice i9 s9.idx.length j9, .int .i64 s9.next], .int .i64 0, .int .i64 0]) (by simp [results, Tryz.results21, go_sem, x0, x1, x2, x3]) rfl ⟨_, rfl, hE, gE⟩
theorem Zv9 {s : St} (h : Vw S s x v ad c w) (k1 : ¬ x.kind = 1) (k2 : ¬ x.kind = 2) (k3 : ¬ x.kind = 3) (k4 : ¬ x.kind = 4) (k5 : ¬ x.kind = 5) (k6 : x.kind = 6) : Qc 21 S s x v ad c w := by
 obtain ⟨ab, cb, al, cl, ai, ci, rfl, hb, hl, hi, hnz, g0, hs1, hd1, hz1, HWs⟩ := h.pre;obtain ⟨hS, hs, hd, hA, hdl⟩ := h;unfold Qc;have hns : ¬ Zw S (w.heap.size + 3) w.heap.size := Yn hS (by omega);obtain ⟨R, hR⟩ : ∃ R, R = s.step x := ⟨_, rfl⟩;rw [← hR];have HR : Hid (R = s.step x) := hR;have HAT : Hid (s.At) := hA;clear hR hA;go_enter Tryz.func21, Tryz.ntmps21;obtain ⟨d0, d1, d2, d3, d4⟩ := X9 hd1 rfl rfl rfl rfl rfl;have d5 := Zd hd1 5 _ rfl;have d6 := Zd hd1 6 _ rfl;obtain ⟨s0, s1, s2, s3⟩ := Z4 hs1 rfl rfl rfl rfl;have q1 : (x.kind == 1) = false := by simp [k1]
 have q2 : (x.kind == 2) = false := by simp [k2]
 have q3 : (x.kind == 3) = false := by simp [k3]
 have q4 : (x.kind == 4) = false := by simp [k4]
 have q5 : (x.kind == 5) = false := by simp [k5]
 have q6 : (x.kind == 6) = true := by simp [k6]
 obtain ⟨s9, hs9⟩ : ∃ s9, s9 = Xw s.dk := ⟨_, rfl⟩;obtain rfl : R = ⟨s9, 0, 0⟩ := by rw [HR.out, hs9]; unfold St.step; rw [if_neg k1, if_neg k2, if_neg k3, if_neg k4, if_neg k5, if_pos k6]
 have HS9 : Hid _ := hs9;clear HR k1 k2 k3 k4 k5 k6 hs9;go_wp2_with fail;generalize World.alloc (World.alloc (World.alloc w _) _) _ = W at *;have hWs := HWs.out;clear HWs;refine (Za9 S 0 s.dk _ W (fun b h => by have := hS b h; omega) ⟨_, _, rfl, hb.grow g0, hl.grow g0⟩ HAT.out.ok.disk (by omega)).mono ?_;rw [hWs, ← HS9.out];rintro r w1 ⟨v1, rfl, hS8, g1⟩;have hs8 := (g1.block _ (Za hs1)).trans hs1;have hz8 := (g1.block _ (Za hz1)).trans hz1;have gw8 := g0.trans g1;obtain ⟨b9, e9, l9, m9, i9, j9, hv9, -, -, -⟩ := hS8.form;subst hv9;clear d0 d1 d2 d3 d4 d5 d6 s0 s1 s2 s3 hs1 hd1 hz1 g0 g1 hs hb hl hi;obtain ⟨ht1, ht2⟩ := Ye hs8 (.slice b9 s9.dk.blocks.length e9) (.slice l9 s9.dk.late.length m9) (.slice i9 s9.idx.length j9) (.int .i64 s9.next);obtain ⟨y0, y1, y2, y3⟩ := Z4 hs8 rfl rfl rfl rfl;obtain ⟨f0, f1, f2, f3⟩ := Yq hs8;obtain ⟨t0, t1, t2, t3⟩ := Z4 ht1 rfl rfl rfl rfl;have hz9 := (ht2.block _ (Za hz8) (by omega)).trans hz8;have gw9 := ht2.grow gw8 (Nat.le_refl _);have hS9 := hS8.but ht2 hns;clear ht1 ht2 hs8 hz8 gw8 hS8;obtain ⟨hq1, hq2⟩ := Ye hz9 (.slice b9 s9.dk.blocks.length e9) (.slice l9 s9.dk.late.length m9) (.slice i9 s9.idx.length j9) (.int .i64 s9.next);obtain ⟨z0, z1, z2, z3⟩ := Z4 hz9 rfl rfl rfl rfl;obtain ⟨o0, o1, o2, o3⟩ := Yq hz9;obtain ⟨x0, x1, x2, x3⟩ := Z4 hq1 rfl rfl rfl rfl;have cs := Zt;have gE := hq2.grow gw9 (by omega);have hE := (hS9.but hq2 hnz).mono (Zz (B := w.heap.size) (by omega));clear hq1 hq2 hz9 gw9 hS9;go_wp2_with fail
 exact bodyPost_ret (v := .tuple #[.agg #[.slice b9 s9.dk.blocks.length e9, .slice l9 s9.dk.late.length m9, .slice i9 s9.idx.length j9, .int .i64 s9.next], .int .i64 0, .int .i64 0]) (by simp [results, Tryz.results21, go_sem, x0, x1, x2, x3]) rfl ⟨_, rfl, hE, gE⟩
theorem Ztc {s : St} (h : Vw S s x v ad c w) (k1 : ¬ x.kind = 1) (k2 : ¬ x.kind = 2) (k3 : ¬ x.kind = 3) (k4 : ¬ x.kind = 4) (k5 : ¬ x.kind = 5) (k6 : ¬ x.kind = 6) : Qc 21 S s x v ad c w := by
 obtain ⟨ab, cb, al, cl, ai, ci, rfl, hb, hl, hi, hnz, g0, hs1, hd1, hz1, HWs⟩ := h.pre;obtain ⟨hS, hs, hd, hA, hdl⟩ := h;unfold Qc;have hns : ¬ Zw S (w.heap.size + 3) w.heap.size := Yn hS (by omega);obtain ⟨R, hR⟩ : ∃ R, R = s.step x := ⟨_, rfl⟩;rw [← hR];have HR : Hid (R = s.step x) := hR;have HAT : Hid (s.At) := hA;clear hR hA;go_enter Tryz.func21, Tryz.ntmps21;obtain ⟨d0, d1, d2, d3, d4⟩ := X9 hd1 rfl rfl rfl rfl rfl;have d5 := Zd hd1 5 _ rfl;have d6 := Zd hd1 6 _ rfl;obtain ⟨s0, s1, s2, s3⟩ := Z4 hs1 rfl rfl rfl rfl;have q1 : (x.kind == 1) = false := by simp [k1]
 have q2 : (x.kind == 2) = false := by simp [k2]
 have q3 : (x.kind == 3) = false := by simp [k3]
 have q4 : (x.kind == 4) = false := by simp [k4]
 have q5 : (x.kind == 5) = false := by simp [k5]
 have q6 : (x.kind == 6) = false := by simp [k6]
 obtain rfl : R = ⟨s, 0, 1⟩ := by rw [HR.out]; unfold St.step; rw [if_neg k1, if_neg k2, if_neg k3, if_neg k4, if_neg k5, if_neg k6]
 clear HR k1 k2 k3 k4 k5 k6;go_upto_region 1 with fail
 generalize World.alloc (World.alloc (World.alloc w _) _) _ = W at *;have hWs := HWs.out;clear HWs;have hzX := hz1;have gwX := g0;obtain ⟨z0, z1, z2, z3⟩ := Z4 hzX rfl rfl rfl rfl;obtain ⟨f0, f1, f2, f3⟩ := Yq hzX;have cs := Zt;obtain ⟨hq1, hq2⟩ := Ye hzX (.slice ab s.dk.blocks.length cb) (.slice al s.dk.late.length cl) (.slice ai s.idx.length ci) (.int .i64 s.next);obtain ⟨x0, x1, x2, x3⟩ := Z4 hq1 rfl rfl rfl rfl;have gE := hq2.grow gwX (by omega);have hE := (hs.grow gE).mono (S' := Zw S w.heap.size) V3;clear hq1 hq2 hzX gwX;go_wp2_with fail;exact bodyPost_ret (v := .tuple #[.agg #[.slice ab s.dk.blocks.length cb, .slice al s.dk.late.length cl, .slice ai s.idx.length ci, .int .i64 s.next], .int .i64 0, .int .i64 1]) (by simp [results, Tryz.results21, go_sem, x0, x1, x2, x3]) rfl ⟨_, rfl, hE, gE⟩
theorem Zeh (S : Nat → Prop) (s : St) (x : Sp) (v : Value) (ad : Option Addr) (c : Nat) (w : World) (hS : ∀ b, S b → b < w.heap.size) (hs : Z7 S s v w) (hd : Z3 S w (.slice ad x.deed.data.length c) x.deed.data) (hA : s.At) (hdl : x.deed.data.length ≤ 140737488355328) :
  Calls Tryz.prog 21 #[v, .agg #[.int .i64 x.kind, .int .i64 x.n, .int .i64 x.m, .int .i64 x.deed.kind, .int .i64 x.deed.key, .int .i64 x.deed.num, .slice ad x.deed.data.length c]] w fun r w' => ∃ v', r = .returned (.tuple #[v', .int .i64 (s.step x).n, .int .i64 (s.step x).e]) ∧ Z7 (Zw S w.heap.size) (s.step x).st v' w' ∧ Zp w w' := by
 have h : Vw S s x v ad c w := ⟨hS, hs, hd, hA, hdl⟩;by_cases k1 : x.kind = 1
 ·exact Zwe h k1
 ·by_cases k2 : x.kind = 2
  ·exact Zwd h k1 k2
  ·by_cases k3 : x.kind = 3
   ·exact Zwc h k1 k2 k3
   ·by_cases k4 : x.kind = 4
    ·exact Zwb h k1 k2 k3 k4
    ·by_cases k5 : x.kind = 5
     ·exact Zwa h k1 k2 k3 k4 k5
     ·by_cases k6 : x.kind = 6
      ·exact Zv9 h k1 k2 k3 k4 k5 k6
      ·exact Ztc h k1 k2 k3 k4 k5 k6
def Zpg : Qs Sp where
 T := 49
 size := 7
 enc S w x cs := ∃ u, cs = [.int .i64 x.kind, .int .i64 x.n, .int .i64 x.m, .int .i64 x.deed.kind, .int .i64 x.deed.key, .int .i64 x.deed.num, u] ∧ Z3 S w u x.deed.data
 len := by rintro S w x cs ⟨u, rfl, _⟩; rfl
 keep := by rintro S w w' x cs ⟨u, rfl, h⟩ hk; exact ⟨u, rfl, h.keeps hk⟩
 mono := by rintro S S' w x cs ⟨u, rfl, h⟩ hS; exact ⟨u, rfl, h.mono hS⟩
 cap := by rintro S w x cs ⟨u, rfl, h⟩; exact ⟨u, rfl, h.caps⟩
 one := by
  rintro S w x cs ⟨u, rfl, h⟩ c hc;simp only [List.mem_cons, List.not_mem_nil, or_false] at hc;rcases hc with rfl | rfl | rfl | rfl | rfl | rfl | rfl
  ·rfl
  ·rfl
  ·rfl
  ·rfl
  ·rfl
  ·rfl
  ·exact h.one
abbrev V6 (S : Nat → Prop) (w : World) (v : Value) (l : List Sp) : Prop := Z8 Zpg S w v l
theorem Zdk {S : Nat → Prop} {w : World} {ao : Option Addr} {n cap : Nat} {l : List Sp} (h : V6 S w (.slice ao n cap) l) (i : Nat) (hi : i < l.length) :
  ∃ b off a c, ao = some ⟨b, off, none⟩ ∧ w.cell? ⟨b, off + i * 7, none⟩ = some (.int .i64 l[i].kind) ∧ w.cell? ⟨b, off + i * 7 + 1, none⟩ = some (.int .i64 l[i].n) ∧ w.cell? ⟨b, off + i * 7 + 2, none⟩ = some (.int .i64 l[i].m) ∧ w.cell? ⟨b, off + i * 7 + 3, none⟩ = some (.int .i64 l[i].deed.kind) ∧ w.cell? ⟨b, off + i * 7 + 4, none⟩ = some (.int .i64 l[i].deed.key) ∧ w.cell? ⟨b, off + i * 7 + 5, none⟩ = some (.int .i64 l[i].deed.num) ∧
   w.cell? ⟨b, off + i * 7 + 6, none⟩ = some (.slice a l[i].deed.data.length c) ∧ Z3 S w (.slice a l[i].deed.data.length c) l[i].deed.data := by
 obtain ⟨b, off, rfl, _, cs, ⟨u, rfl, hu⟩, hc⟩ := h.at i hi;obtain ⟨a, c, rfl⟩ := hu.form;exact ⟨b, off, a, c, rfl, hc 0 _ rfl, hc 1 _ rfl, hc 2 _ rfl, hc 3 _ rfl, hc 4 _ rfl, hc 5 _ rfl, hc 6 _ rfl, hu⟩
def Kj : Nat → St → List Sp → St
 | 0, s, _ => s
 | _ + 1, s, [] => s
 | n + 1, s, x :: l => if Q8 s x = true then Kj n (s.step x).st l else s
theorem Zoh (n : Nat) (s : St) : Kj n s [] = s := by cases n <;> rfl
theorem Zdx : Y0.At := Zby Zas
theorem Zfa (S : Nat → Prop) (l : List Sp) (v : Value) (w : World) (hS : ∀ b, S b → b < w.heap.size) (hl : V6 S w v l) (hm : l.length ≤ 140737488355328) (hdl : ∀ x ∈ l, x.deed.data.length ≤ 140737488355328) :
  Calls Tryz.prog 23 #[v] w fun r w' => ∃ v', r = .returned v' ∧ Z7 (Zw S w.heap.size) (Kj 100 Y0 l) v' w' ∧ Zp w w' := by
 obtain ⟨ao, cp, rfl⟩ := hl.form;have g0 := Zc w Y6;have hz0 := Zj w #[.slice none 0 0, .slice none 0 0, .slice none 0 0, .int .i64 0] 29;obtain ⟨R, hR⟩ : ∃ R, R = Kj 100 Y0 l := ⟨_, rfl⟩;rw [← hR];have HR : Hid _ := hR;clear hR;go_enter Tryz.func23, Tryz.ntmps23;go_wp2_with fail;refine (Zih S (w.alloc Y6) (fun b h => by have := hS b h; simp; omega)).mono ?_;rintro r w1 ⟨v1, rfl, hS1, g1⟩;obtain ⟨b1, e1, l1, m1, i1, j1, hv1, -, -, -⟩ := hS1.form;subst hv1;rw [World.size_alloc] at hS1;obtain ⟨G, hG⟩ : ∃ G, G = w1.heap.size := ⟨_, rfl⟩;have hz1 := (g1.block _ (Za hz0)).trans hz0;have hGz : w.heap.size < G := by rw [hG]; exact Za hz1
 have g2 := Zc w1 (.cells #[.slice b1 Y0.dk.blocks.length e1, .slice l1 Y0.dk.late.length m1, .slice i1 Y0.idx.length j1, .int .i64 Y0.next] 29);have hY := Zj w1 #[.slice b1 Y0.dk.blocks.length e1, .slice l1 Y0.dk.late.length m1, .slice i1 Y0.idx.length j1, .int .i64 Y0.next] 29;have hz2 := (g2.block _ (Za hz1)).trans hz1;have gw2 := g0.trans (g1.trans g2);rw [← hG] at hY;obtain ⟨U, hU⟩ : ∃ U : Nat → Prop, U = fun b => S b ∨ (w.heap.size < b ∧ b ≠ G) := ⟨_, rfl⟩
 have hUz : ¬ U w.heap.size := by rw [hU]; rintro (h | h); exact absurd (hS _ h) (Nat.lt_irrefl _); omega
 have hUg : ¬ U G := by rw [hU]; rintro (h | h); have := hS _ h; omega; exact h.2 rfl
 have hUp : ∀ b, U b → Zw S w.heap.size b := by rw [hU]; rintro b (h | h); exact .inl h; exact .inr (by omega)
 have hUs : ∀ b, S b → U b := by rw [hU]; exact fun b h => .inl h
 have hUn : ∀ b, G < b → U b := by rw [hU]; exact fun b h => .inr (by omega)
 have hS2 : Z7 U Y0 (.agg #[.slice b1 Y0.dk.blocks.length e1, .slice l1 Y0.dk.late.length m1, .slice i1 Y0.idx.length j1, .int .i64 Y0.next]) (w1.alloc (.cells #[.slice b1 Y0.dk.blocks.length e1, .slice l1 Y0.dk.late.length m1, .slice i1 Y0.idx.length j1, .int .i64 Y0.next] 29)) := (hS1.capd.grow g2).mono (by
  rw [hU, ← hG];rintro b ⟨h | h, hb⟩
  ·exact .inl h
  ·exact .inr ⟨by omega, by omega⟩)
 have HG : Hid _ := hG;have HU : Hid _ := hU;have HST : Hid (Y0.At) := Zdx;clear g0 g1 g2 hz0 hz1 hS1 hG hU;go_wp2_with fail;rw [← HG.out];have HGE : Hid (Kj (100 - 0) Y0 (l.drop 0) = R) := HR.out.symm;generalize Y0 = s0 at *;go_loopw [9] (fun i wr => ∃ (k : Nat) (s : St) (b1 : Option Addr) (e1 : Nat) (l1 : Option Addr) (m1 : Nat) (i1 : Option Addr) (j1 : Nat), k ≤ 100 ∧ k ≤ l.length ∧ i = .int .i64 (k : Int) ∧ Hid (Kj (100 - k) s (l.drop k) = R) ∧ Hid s.At ∧ wr.heap[w.heap.size]? = some (.cells #[.slice none 0 0, .slice none 0 0, .slice none 0 0, .int .i64 0] 29 (0, 0)) ∧ wr.heap[G]? = some (.cells #[.slice b1 s.dk.blocks.length e1, .slice l1 s.dk.late.length m1, .slice i1 s.idx.length j1, .int .i64 s.next] 29 (0, 0)) ∧ Z7 U s (.agg #[.slice b1 s.dk.blocks.length e1, .slice l1 s.dk.late.length m1, .slice i1 s.idx.length j1, .int .i64 s.next]) wr ∧ Zp w wr) (fun i _ => l.length - (intOf i).toNat)
 case atStart => exact ⟨0, s0, b1, e1, l1, m1, i1, j1, by omega, by omega, rfl, HGE, HST, hz2, hY, hS2, gw2⟩
 case round =>
  clear hz2 hY hS2 gw2 HGE HST HR;obtain ⟨k, s, b1, e1, l1, m1, i1, j1, hk1, hkl, rfl, HGE, HST, hz9, hY, hS9, gw9⟩ := hrel;obtain ⟨y0, y1, y2, y3⟩ := Z4 hY rfl rfl rfl rfl;by_cases hlt : k < l.length
  ·obtain ⟨b, off, ad, c, hao, q0, q1, q2, q3, q4, q5, q6, hbd⟩ := Zdk (hl.grow gw9) k hlt;cases hao;have HDR : Hid (l.drop k = l[k] :: l.drop (k + 1)) := List.drop_eq_getElem_cons hlt;have HDL : Hid (l[k].deed.data.length ≤ 140737488355328) := hdl _ (List.getElem_mem hlt);generalize l[k] = x at *;have g3 := Zc wr (.cells #[.int .i64 x.kind, .int .i64 x.n, .int .i64 x.m, .int .i64 x.deed.kind, .int .i64 x.deed.key, .int .i64 x.deed.num, .slice ad x.deed.data.length c] 49);have hX := Zj wr #[.int .i64 x.kind, .int .i64 x.n, .int .i64 x.m, .int .i64 x.deed.kind, .int .i64 x.deed.key, .int .i64 x.deed.num, .slice ad x.deed.data.length c] 49;have hz3 := (g3.block _ (Za hz9)).trans hz9;have hY3 := (g3.block _ (Za hY)).trans hY;have hS3 := hS9.grow g3;have hb3 := hbd.grow g3;have gw3 := gw9.trans g3;have hGr : G < wr.heap.size := Za hY;clear y0 y1 y2 y3 hz9 hS9 gw9 hY hbd;by_cases h100 : k = 100
   ·have d1 : ((k : Int) == 100) = true := by simp [h100]
    obtain rfl : s = R := by rw [← HGE.out, h100]; rfl
    have hz9 := hz3;have hS9 := hS3;have gw9 := gw3;obtain ⟨y0, y1, y2, y3⟩ := Z4 hY3 rfl rfl rfl rfl;clear HGE HST hX hz3 hS3 gw3 hY3 hb3 g3 h100;obtain ⟨z0, z1, z2, z3⟩ := Z4 hz9 rfl rfl rfl rfl;obtain ⟨o0, o1, o2, o3⟩ := Yq hz9;obtain ⟨hq1, hq2⟩ := Ye hz9 (.slice b1 s.dk.blocks.length e1) (.slice l1 s.dk.late.length m1) (.slice i1 s.idx.length j1) (.int .i64 s.next);obtain ⟨x0, x1, x2, x3⟩ := Z4 hq1 rfl rfl rfl rfl;have cs := Zt;have gE := hq2.grow gw9 (Nat.le_refl _);have hE := (hS9.but hq2 hUz).mono hUp;clear hq1 hq2 hz9 gw9 hS9;go_wp2_with fail;exact bodyPost_ret (v := .agg #[.slice b1 s.dk.blocks.length e1, .slice l1 s.dk.late.length m1, .slice i1 s.idx.length j1, .int .i64 s.next]) (by simp [results, Tryz.results23, go_sem, x0, x1, x2, x3]) rfl ⟨_, rfl, hE, gE⟩
   ·have d1 : ((k : Int) == 100) = false := by simp; omega
    obtain ⟨y0, y1, y2, y3⟩ := Z4 hY3 rfl rfl rfl rfl;obtain ⟨p0, p1, p2, p3, p4⟩ := X9 hX rfl rfl rfl rfl rfl;have p5 := Zd hX 5 _ rfl;have p6 := Zd hX 6 _ rfl;have HG1 : Hid (R = if Q8 s x = true then Kj (100 - (k + 1)) (s.step x).st (l.drop (k + 1)) else s) := by
     show R = _;rw [← HGE.out, HDR.out, show 100 - k = (100 - (k + 1)) + 1 by omega];rfl
    have HK1 : Hid (k + 1 ≤ 100) := by show _ ≤ _; omega
    clear HGE g3 h100;go_wp2_with fail;refine (Zbx U 0 s x _ ad c _ hS3 HST.out.ok.disk (by omega)).mono ?_;cases hgt : Q8 s x with
    | false =>
     obtain rfl : s = R := by rw [HG1.out, hgt]; rfl
     rintro r w4 ⟨rfl, g4⟩;have hz9 := (g4.block _ (Za hz3)).trans hz3;have hY4 := (g4.block _ (Za hY3)).trans hY3;have hS9 := hS3.grow g4;have gw9 := gw3.trans g4;clear y0 y1 y2 y3 p0 p1 p2 p3 p4 p5 p6 HG1 HST hX hz3 hS3 gw3 hY3 hb3 g4 hgt q0 q1 q2 q3 q4 q5 q6;obtain ⟨y0, y1, y2, y3⟩ := Z4 hY4 rfl rfl rfl rfl;clear hY4;obtain ⟨z0, z1, z2, z3⟩ := Z4 hz9 rfl rfl rfl rfl;obtain ⟨o0, o1, o2, o3⟩ := Yq hz9;obtain ⟨hq1, hq2⟩ := Ye hz9 (.slice b1 s.dk.blocks.length e1) (.slice l1 s.dk.late.length m1) (.slice i1 s.idx.length j1) (.int .i64 s.next);obtain ⟨x0, x1, x2, x3⟩ := Z4 hq1 rfl rfl rfl rfl;have cs := Zt;have gE := hq2.grow gw9 (Nat.le_refl _);have hE := (hS9.but hq2 hUz).mono hUp;clear hq1 hq2 hz9 gw9 hS9;go_wp2_with fail;exact bodyPost_ret (v := .agg #[.slice b1 s.dk.blocks.length e1, .slice l1 s.dk.late.length m1, .slice i1 s.idx.length j1, .int .i64 s.next]) (by simp [results, Tryz.results23, go_sem, x0, x1, x2, x3]) rfl ⟨_, rfl, hE, gE⟩
    | true =>
     have HG2 : Hid (Kj (100 - (k + 1)) (s.step x).st (l.drop (k + 1)) = R) := by show _ = _; rw [HG1.out, hgt, if_pos rfl]
     rintro r w4 ⟨rfl, g4⟩;have hz4 := (g4.block _ (Za hz3)).trans hz3;have hY4 := (g4.block _ (Za hY3)).trans hY3;have hX4 := (g4.block _ (Za hX)).trans hX;have hS4 := (hS3.grow g4).capd;have hb4 := ((hb3.mono hUs).grow g4).caps;have gw4 := gw3.trans g4;have hG4 : G < w4.heap.size := Za hY4;clear y0 y1 y2 y3 p0 p1 p2 p3 p4 p5 p6 HG1 hX hz3 hS3 gw3 hY3 hb3 g4 hgt q0 q1 q2 q3 q4 q5 q6;obtain ⟨y0, y1, y2, y3⟩ := Z4 hY4 rfl rfl rfl rfl;obtain ⟨p0, p1, p2, p3, p4⟩ := X9 hX4 rfl rfl rfl rfl rfl;have p5 := Zd hX4 5 _ rfl;have p6 := Zd hX4 6 _ rfl;go_wp2_with fail;refine (Zeh (fun b => U b ∧ b < w4.heap.size) s x _ ad c w4 (fun b h => h.2) hS4 hb4 HST.out HDL.out).mono ?_;have HAT : Hid ((s.step x).st.At) := Za8 HST.out;generalize s.step x = B at *;rintro r w5 ⟨v5, rfl, hS5, g5⟩;obtain ⟨b5, e5, l5, m5, i5, j5, hv5, -, -, -⟩ := hS5.form;subst hv5;have hz5 := (g5.block _ (Za hz4)).trans hz4;have hY5 := (g5.block _ (Za hY4)).trans hY4;have gw5 := gw4.trans g5;have hS6 : Z7 U B.st (.agg #[.slice b5 B.st.dk.blocks.length e5, .slice l5 B.st.dk.late.length m5, .slice i5 B.st.idx.length j5, .int .i64 B.st.next]) w5 := hS5.mono fun b h => h.elim (fun x => x.1) (fun x => hUn b (by omega))
     clear y0 y1 y2 y3 p0 p1 p2 p3 p4 p5 p6 hX4 hz4 hY4 hS4 hb4 gw4 hS5 g5 HST;obtain ⟨hp1, hp2⟩ := Ye hY5 (.slice b5 B.st.dk.blocks.length e5) (.slice l5 B.st.dk.late.length m5) (.slice i5 B.st.idx.length j5) (.int .i64 B.st.next);obtain ⟨y0, y1, y2, y3⟩ := Z4 hY5 rfl rfl rfl rfl;obtain ⟨f0, f1, f2, f3⟩ := Yq hY5;have cs := Zt;have hz6 := (hp2.block _ (Za hz5) (by intro e; omega)).trans hz5;have hS7 := hS6.but hp2 hUg;have gw6 := hp2.grow gw5 (by omega);clear hp2 hz5 hY5 gw5 hS6;go_wp2_with fail;go_roundw
     case rel => exact ⟨k + 1, B.st, b5, e5, l5, m5, i5, j5, HK1.out, by omega, by go_num, HG2, HAT, hz6, hp1, hS7, gw6⟩
     case measure => simp [intOf]; omega
  ·obtain rfl : s = R := by
    have e : l.drop k = [] := List.drop_eq_nil_of_le (by omega);rw [← HGE.out, e, Zoh]
   clear HGE HST hY;obtain ⟨z0, z1, z2, z3⟩ := Z4 hz9 rfl rfl rfl rfl;obtain ⟨o0, o1, o2, o3⟩ := Yq hz9;obtain ⟨hq1, hq2⟩ := Ye hz9 (.slice b1 s.dk.blocks.length e1) (.slice l1 s.dk.late.length m1) (.slice i1 s.idx.length j1) (.int .i64 s.next);obtain ⟨x0, x1, x2, x3⟩ := Z4 hq1 rfl rfl rfl rfl;have cs := Zt;have gE := hq2.grow gw9 (Nat.le_refl _);have hE := (hS9.but hq2 hUz).mono hUp;clear hq1 hq2 hz9 gw9 hS9;go_wp2_with fail;exact bodyPost_ret (v := .agg #[.slice b1 s.dk.blocks.length e1, .slice l1 s.dk.late.length m1, .slice i1 s.idx.length j1, .int .i64 s.next]) (by simp [results, Tryz.results23, go_sem, x0, x1, x2, x3]) rfl ⟨_, rfl, hE, gE⟩
variable {U : Nat → Prop} {v : Value} {w w' : World}
def Ki (a : St × List Int × List Int) (x : Sp) : St × List Int × List Int := ((a.1.step x).st, a.2.1 ++ [(a.1.step x).e], a.2.2 ++ [(a.1.step x).n])
def Xd (l : List Sp) : St × List Int × List Int := l.foldl Ki (Y0, [], [])
theorem Zfd (l : List Sp) (k : Nat) (h : k < l.length) : Xd (l.take (k + 1)) = Ki (Xd (l.take k)) l[k] := by
 unfold Xd;rw [List.take_succ_eq_append_getElem h, List.foldl_append]; rfl
theorem Zc8 (l : List Sp) : ∀ a : St × List Int × List Int, (l.foldl Ki a).2.1.length = a.2.1.length + l.length ∧ (l.foldl Ki a).2.2.length = a.2.2.length + l.length := by
 induction l with
 | nil => intro a; simp
 | cons x l ih =>
  intro a;obtain ⟨h1, h2⟩ := ih (Ki a x);simp only [List.foldl_cons, List.length_cons];rw [h1, h2];simp [Ki];omega
theorem Zpm (l : List Sp) : ∀ a : St × List Int × List Int, a.1.At → (l.foldl Ki a).1.At := by
 induction l with
 | nil => intro a h; exact h
 | cons x l ih => intro a h; exact ih _ (Za8 h)
def iv (x : Int) : Value := .int .i64 x
theorem Zg9 : (Tryz.prog.info? 50).map (fun i => (i.zero, i.size, i.bytes)) = some (some (.int .i64 0), 1, 8) := by kernel_rfl
theorem Z7.grown {s : St} {row : Option Nat} (h : Z7 U s v w) (hg : w.grownBy w' row) (hn : ∀ b, row = some b → ¬ U b) : Z7 U s v w' := by
 cases row with
 | none => exact h.grow (Yc (Zp.refl _) hg (fun k hk => by cases hk))
 | some q => exact h.but (Zq.grown hg) (hn q rfl)
theorem Zci {base size n q : Nat} {e : TypeId} {xs : List Value} (h : w.ownsRow base e size v n xs) (hg : Zq q w w') (hq : q < base) : w'.ownsRow base e size v n xs :=
 ⟨h.1, Xq h.2 (fun x => x) fun ⟨g, cap, cur, h1, h2, h3, r⟩ => ⟨g, cap, cur, h1, h2, by rw [hg.block _ (Za h3) (by omega)]; exact h3, r⟩⟩
structure Apt (S : Nat → Prop) (B G : Nat) (U : Nat → Prop) (ev nv : Value) (w : World) : Prop where
 lt : ∀ b, U b → b < w.heap.size
 up : ∀ b, U b → Zw S B b
 z : ¬ U B
 g : ¬ U G
 s : ∀ b, S b → U b
 e : ∀ b, ev.ownBlock = some b → ¬ U b
 n : ∀ b, nv.ownBlock = some b → ¬ U b
theorem Zpt (w : World) (x : Int) (T : TypeId) : ∀ (t : Nat) u, ([.int .i64 x] : List Value)[t]? = some u → (w.alloc (.cells #[.int .i64 x] T)).cell? ((⟨w.heap.size, 0, none⟩ : Addr).add t) = some u := by
 intro t u ht
 match t, ht with
 | 0, ht => simp at ht; subst ht; simp [Addr.add]
 | t + 1, ht => simp at ht
theorem Zu3 {U : Nat → Prop} {B G n1 n2 g9 : Nat} {ev nv v : Value} {w0 w w9 : World} {o : Obj} {T1 T2 TZ TG : TypeId} {s : St} {es ns : List Value} {cz cg : Array Value} {fz fg : Nat × Nat} (hBG : B < G) (hB : w0.heap.size ≤ B) (hT : T2 ≠ T1)
  (he : w.ownsRow (G + 1) T1 1 ev n1 es) (hn : w.ownsRow (G + 1) T2 1 nv n2 ns) (hlt : ∀ b, U b → b < w.heap.size) (hUe : ∀ b, ev.ownBlock = some b → ¬ U b) (hS : Z7 U s v w) (hz : w.heap[B]? = some (.cells cz TZ fz)) (hy : w.heap[G]? = some (.cells cg TG fg)) (gw : Zp w0 w)
  (hgr : (w.alloc o).grownBy w9 ev.ownBlock) (hat : ev.ownBlock = some g9 ∨ g9 = (w.alloc o).heap.size) :
  Z7 U s v w9 ∧ w9.heap[B]? = some (.cells cz TZ fz) ∧ w9.heap[G]? = some (.cells cg TG fg) ∧ w9.ownsRow (G + 1) T2 1 nv n2 ns ∧ Zp w0 w9 ∧ ¬ U g9 ∧ w.heap.size ≤ w9.heap.size := by
 refine ⟨(hS.grow (Zc w o)).grown hgr hUe, ?_, ?_, Zap he hgr hT hn, ?_, ?_, ?_⟩
 ·exact (X5 he hgr (V5 he (by omega)) (Za hz)).trans hz
 ·exact (X5 he hgr (V5 he (by omega)) (Za hy)).trans hy
 ·exact Yc (gw.trans (Zc w o)) hgr (fun k hk => by have := (he.lt k hk).1; omega)
 ·rcases hat with h | h
  ·exact hUe g9 h
  ·intro hu;have := hlt g9 hu;rw [h, World.size_alloc] at this;omega
 ·have := hgr.size;rw [World.size_alloc] at this;omega
theorem Zqm (S : Nat → Prop) (l : List Sp) (v : Value) (w : World) (hS : ∀ b, S b → b < w.heap.size) (hl : V6 S w v l) (hm : l.length ≤ 140737488355328) (hdl : ∀ x ∈ l, x.deed.data.length ≤ 140737488355328) :
  Calls Tryz.prog 11 #[v] w fun r w' => ∃ v' ev nv, r = .returned (.tuple #[v', ev, nv]) ∧ Z7 (Zw S w.heap.size) (Xd (l.take 100)).1 v' w' ∧ w'.ownsRow w.heap.size 50 1 ev (Xd (l.take 100)).2.1.length ((Xd (l.take 100)).2.1.map iv) ∧ w'.ownsRow w.heap.size 3 1 nv (Xd (l.take 100)).2.2.length ((Xd (l.take 100)).2.2.map iv) ∧ Zp w w' := by
 obtain ⟨ao, cp, rfl⟩ := hl.form;have g0 := Zc w Y6;have hz0 := Zj w #[.slice none 0 0, .slice none 0 0, .slice none 0 0, .int .i64 0] 29;obtain ⟨R, hR⟩ : ∃ R, R = Xd (l.take 100) := ⟨_, rfl⟩;rw [← hR];have HR : Hid _ := hR;clear hR;obtain ⟨ie, hife, hze0, hze1, hze2⟩ := info_parts Zg9;obtain ⟨ii, hifi, hzi0, hzi1, hzi2⟩ := info_parts Zcn;go_enter Tryz.func11, Tryz.ntmps11;go_wp2_with fail;refine (Zih S (w.alloc Y6) (fun b h => by have := hS b h; simp; omega)).mono ?_;rintro r w1 ⟨v1, rfl, hS1, g1⟩;obtain ⟨b1, e1, l1, m1, i1, j1, hv1, -, -, -⟩ := hS1.form;subst hv1;rw [World.size_alloc] at hS1;obtain ⟨G, hG⟩ : ∃ G, G = w1.heap.size := ⟨_, rfl⟩;have hz1 := (g1.block _ (Za hz0)).trans hz0;have hGz : w.heap.size < G := by rw [hG]; exact Za hz1
 have g2 := Zc w1 (.cells #[.slice b1 Y0.dk.blocks.length e1, .slice l1 Y0.dk.late.length m1, .slice i1 Y0.idx.length j1, .int .i64 Y0.next] 29);have hY := Zj w1 #[.slice b1 Y0.dk.blocks.length e1, .slice l1 Y0.dk.late.length m1, .slice i1 Y0.idx.length j1, .int .i64 Y0.next] 29;have hz2 := (g2.block _ (Za hz1)).trans hz1;have gw2 := g0.trans (g1.trans g2);rw [← hG] at hY;have hA0 : Apt S w.heap.size G (fun b => Zw S (w.heap.size + 1) b ∧ b < G) (.slice none 0 0) (.slice none 0 0) (w1.alloc (.cells #[.slice b1 Y0.dk.blocks.length e1, .slice l1 Y0.dk.late.length m1, .slice i1 Y0.idx.length j1, .int .i64 Y0.next] 29)) :=
  ⟨fun b h => by have := h.2; rw [World.size_alloc]; omega, fun b h => h.1.elim .inl (fun x => .inr (by omega)), fun h => h.1.elim (fun x => Nat.lt_irrefl _ (hS _ x)) (fun x => by omega), fun h => Nat.lt_irrefl _ h.2, fun b h => ⟨.inl h, by have := hS b h; omega⟩, (fun b h => by cases h), (fun b h => by cases h)⟩
 have hS2 : Z7 (fun b => Zw S (w.heap.size + 1) b ∧ b < G) Y0 (.agg #[.slice b1 Y0.dk.blocks.length e1, .slice l1 Y0.dk.late.length m1, .slice i1 Y0.idx.length j1, .int .i64 Y0.next]) (w1.alloc (.cells #[.slice b1 Y0.dk.blocks.length e1, .slice l1 Y0.dk.late.length m1, .slice i1 Y0.idx.length j1, .int .i64 Y0.next] 29)) := by rw [hG]; exact hS1.capd.grow g2
 have HG : Hid _ := hG;have HST : Hid (Y0.At) := Zdx;clear g0 g1 g2 hz0 hz1 hS1 hG;go_wp2_with fail;rw [← HG.out];have HPL : Hid (Xd (l.take 0) = (Y0, [], [])) := by show _ = _; rfl
 generalize Y0 = s0 at *;go_loopw [6, 7, 16] (fun ev nv i wr => ∃ (k : Nat) (s : St) (es ns : List Int) (U : Nat → Prop) (b1 : Option Addr) (e1 : Nat) (l1 : Option Addr) (m1 : Nat) (i1 : Option Addr) (j1 : Nat), k ≤ 100 ∧ k ≤ l.length ∧ i = .int .i64 (k : Int) ∧ Hid (Xd (l.take k) = (s, es, ns)) ∧ Hid s.At ∧ wr.heap[w.heap.size]? = some (.cells #[.slice none 0 0, .slice none 0 0, .slice none 0 0, .int .i64 0] 29 (0, 0)) ∧ wr.heap[G]? = some (.cells #[.slice b1 s.dk.blocks.length e1, .slice l1 s.dk.late.length m1, .slice i1 s.idx.length j1, .int .i64 s.next] 29 (0, 0)) ∧ Z7 U s (.agg #[.slice b1 s.dk.blocks.length e1, .slice l1 s.dk.late.length m1, .slice i1 s.idx.length j1, .int .i64 s.next]) wr ∧ Apt S w.heap.size G U ev nv wr ∧ wr.ownsRow (G + 1) 50 1 ev es.length (es.map iv) ∧ wr.ownsRow (G + 1) 3 1 nv ns.length (ns.map iv) ∧ Zp w wr) (fun _ _ i _ => l.length - (intOf i).toNat)
 case atStart => exact ⟨0, s0, [], [], _, b1, e1, l1, m1, i1, j1, by omega, by omega, rfl, HPL, HST, hz2, hY, hS2, hA0, World.ownsRow_nil _ _ _ _, World.ownsRow_nil _ _ _ _, gw2⟩
 case round =>
  clear hz2 hY hS2 gw2 HPL HST hA0;obtain ⟨k, s, es, ns, U, b1, e1, l1, m1, i1, j1, hk1, hkl, rfl, HPL, HST, hz9, hY, hS9, hA9, he9, hn9, gw9⟩ := hrel;have hGr : G < wr.heap.size := Za hY;have HLN : Hid (es.length = k ∧ ns.length = k) := by
   have h := Zc8 (l.take k) (Y0, [], []);have e : (l.take k).foldl Ki (Y0, [], []) = (s, es, ns) := HPL.out;rw [e] at h;simp only [List.length_nil, List.length_take] at h;show _ ∧ _;omega
  obtain ⟨ae, ce, rfl⟩ := Z6 he9;obtain ⟨an, cn, rfl⟩ := Z6 hn9;obtain ⟨y0, y1, y2, y3⟩ := Z4 hY rfl rfl rfl rfl;by_cases hlt : k < l.length
  ·obtain ⟨b, off, ad, c, hao, q0, q1, q2, q3, q4, q5, q6, hbd⟩ := Zdk (hl.grow gw9) k hlt;cases hao;have HNX : Hid (Xd (l.take (k + 1)) = Ki (Xd (l.take k)) l[k]) := Zfd l k hlt;have HDL : Hid (l[k].deed.data.length ≤ 140737488355328) := hdl _ (List.getElem_mem hlt);generalize l[k] = x at *;have g3 := Zc wr (.cells #[.int .i64 x.kind, .int .i64 x.n, .int .i64 x.m, .int .i64 x.deed.kind, .int .i64 x.deed.key, .int .i64 x.deed.num, .slice ad x.deed.data.length c] 49);have hX := Zj wr #[.int .i64 x.kind, .int .i64 x.n, .int .i64 x.m, .int .i64 x.deed.kind, .int .i64 x.deed.key, .int .i64 x.deed.num, .slice ad x.deed.data.length c] 49;have hz3 := (g3.block _ (Za hz9)).trans hz9;have hY3 := (g3.block _ (Za hY)).trans hY;have hS3 := hS9.grow g3;have hb3 := hbd.grow g3;have gw3 := gw9.trans g3;have he3 := Z2 he9 g3;have hn3 := Z2 hn9 g3;have hA3 : Apt S w.heap.size G U (.slice ae es.length ce) (.slice an ns.length cn) (wr.alloc (.cells #[.int .i64 x.kind, .int .i64 x.n, .int .i64 x.m, .int .i64 x.deed.kind, .int .i64 x.deed.key, .int .i64 x.deed.num, .slice ad x.deed.data.length c] 49)) := ⟨fun b h => Nat.lt_of_lt_of_le (hA9.lt b h) g3.size, hA9.up, hA9.z, hA9.g, hA9.s, hA9.e, hA9.n⟩;clear y0 y1 y2 y3 hz9 hS9 gw9 hY hbd he9 hn9 hA9;obtain ⟨y0, y1, y2, y3⟩ := Z4 hY3 rfl rfl rfl rfl;by_cases h100 : k = 100
   ·have d1 : ((k : Int) == 100) = true := by simp [h100]
    obtain rfl : R = (s, es, ns) := by rw [HR.out, ← HPL.out, h100]
    have hz9 := hz3;have hS9 := hS3;have gw9 := gw3;have he9 := he3;have hn9 := hn3;have hA9 := hA3;obtain ⟨ev, hev⟩ : ∃ ev, ev = Value.slice ae es.length ce := ⟨_, rfl⟩;obtain ⟨nv, hnv⟩ : ∃ nv, nv = Value.slice an ns.length cn := ⟨_, rfl⟩;rw [← hev] at he9 hA9 ⊢;rw [← hnv] at hn9 hA9 ⊢;clear HPL HST hX hz3 hS3 gw3 hY3 hb3 g3 h100 he3 hn3 hA3 HLN HNX hev hnv;obtain ⟨z0, z1, z2, z3⟩ := Z4 hz9 rfl rfl rfl rfl;obtain ⟨o0, o1, o2, o3⟩ := Yq hz9;obtain ⟨hq1, hq2⟩ := Ye hz9 (.slice b1 s.dk.blocks.length e1) (.slice l1 s.dk.late.length m1) (.slice i1 s.idx.length j1) (.int .i64 s.next);obtain ⟨x0, x1, x2, x3⟩ := Z4 hq1 rfl rfl rfl rfl;have cs := Zt;have gE := hq2.grow gw9 (Nat.le_refl _);have hE := (hS9.but hq2 hA9.z).mono hA9.up;have rE := Yi (Zci he9 hq2 (by omega)) (show w.heap.size ≤ G + 1 by omega);have rN := Yi (Zci hn9 hq2 (by omega)) (show w.heap.size ≤ G + 1 by omega);have HRE : Hid _ := rE;have HRN : Hid _ := rN;clear hq1 hq2 hz9 gw9 hS9 hA9 he9 hn9 rE rN;obtain ⟨ae, ce, rfl⟩ : ∃ ae ce, ev = .slice ae es.length ce := Z6 HRE.out;obtain ⟨an, cn, rfl⟩ : ∃ an cn, nv = .slice an ns.length cn := Z6 HRN.out;go_wp2_with fail;exact bodyPost_ret (v := .tuple #[.agg #[.slice b1 s.dk.blocks.length e1, .slice l1 s.dk.late.length m1, .slice i1 s.idx.length j1, .int .i64 s.next], .slice ae es.length ce, .slice an ns.length cn]) (by simp [results, Tryz.results11, go_sem, x0, x1, x2, x3]) rfl ⟨_, _, _, rfl, hE, HRE.out, HRN.out, gE⟩
   ·have d1 : ((k : Int) == 100) = false := by simp; omega
    have HK1 : Hid (k + 1 ≤ 100) := by show _ ≤ _; omega
    obtain ⟨p0, p1, p2, p3, p4⟩ := X9 hX rfl rfl rfl rfl rfl;have p5 := Zd hX 5 _ rfl;have p6 := Zd hX 6 _ rfl;clear g3 h100;go_wp2_with fail;generalize World.alloc wr _ = w4 at *;refine (Zeh (fun b => U b ∧ b < w4.heap.size) s x _ ad c w4 (fun b h => h.2) hS3.capd ((hb3.mono hA3.s).caps) HST.out HDL.out).mono ?_;have HAT : Hid ((s.step x).st.At) := Za8 HST.out;have HN2 : Hid (Xd (l.take (k + 1)) = ((s.step x).st, es ++ [(s.step x).e], ns ++ [(s.step x).n])) := by show _ = _; rw [HNX.out, HPL.out]; rfl
    generalize s.step x = B at *;rintro r w5 ⟨v5, rfl, hS5, g5⟩;obtain ⟨b5, e5, l5, m5, i5, j5, hv5, -, -, -⟩ := hS5.form;subst hv5;have hG4 : G < w4.heap.size := Za hY3;obtain ⟨U5, hU5⟩ : ∃ U5 : Nat → Prop, U5 = fun b => U b ∨ (w4.heap.size ≤ b ∧ b < w5.heap.size) := ⟨_, rfl⟩
    have h45 := g5.size;have hS6 : Z7 U5 B.st (.agg #[.slice b5 B.st.dk.blocks.length e5, .slice l5 B.st.dk.late.length m5, .slice i5 B.st.idx.length j5, .int .i64 B.st.next]) w5 := hS5.capd.mono (by
     rw [hU5];rintro b ⟨h | h, hb⟩
     ·exact .inl h.1
     ·exact .inr ⟨h, hb⟩)
    have hA5 : Apt S w.heap.size G U5 (.slice ae es.length ce) (.slice an ns.length cn) w5 := by
     rw [hU5];have hwB : w.heap.size < w4.heap.size := by omega
     refine ⟨fun b h => h.elim (fun x => by have := hA3.lt b x; omega) (fun x => x.2), fun b h => h.elim (hA3.up b) (fun x => .inr (by omega)), fun h => h.elim hA3.z (fun x => by omega), fun h => h.elim hA3.g (fun x => by omega), fun b h => .inl (hA3.s b h), fun b h hu => hu.elim (hA3.e b h) (fun x => ?_), fun b h hu => hu.elim (hA3.n b h) (fun x => ?_)⟩
     ·have := (he3.lt b h).2; omega
     ·have := (hn3.lt b h).2; omega
    have hz5 := (g5.block _ (Za hz3)).trans hz3;have hY5 := (g5.block _ (Za hY3)).trans hY3;have gw5 := gw3.trans g5;have he5 := Z2 he3 g5;have hn5 := Z2 hn3 g5;clear y0 y1 y2 y3 p0 p1 p2 p3 p4 p5 p6 hX hz3 hY3 hS3 hb3 gw3 hS5 g5 HST HNX HPL he3 hn3 hA3 hU5 q0 q1 q2 q3 q4 q5 q6;have g6 := Zc w5 (.cells #[.slice b5 B.st.dk.blocks.length e5, .slice l5 B.st.dk.late.length m5, .slice i5 B.st.idx.length j5, .int .i64 B.st.next] 29);have hU6 := Zj w5 #[.slice b5 B.st.dk.blocks.length e5, .slice l5 B.st.dk.late.length m5, .slice i5 B.st.idx.length j5, .int .i64 B.st.next] 29;obtain ⟨u0, u1, u2, u3⟩ := Z4 hU6 rfl rfl rfl rfl;have hY6 := (g6.block _ (Za hY5)).trans hY5;have hz6 := (g6.block _ (Za hz5)).trans hz5;obtain ⟨hp1, hp2⟩ := Ye hY6 (.slice b5 B.st.dk.blocks.length e5) (.slice l5 B.st.dk.late.length m5) (.slice i5 B.st.idx.length j5) (.int .i64 B.st.next);obtain ⟨y0, y1, y2, y3⟩ := Z4 hY6 rfl rfl rfl rfl;obtain ⟨f0, f1, f2, f3⟩ := Yq hY6;have cs := Zt;have hz7 := (hp2.block _ (Za hz6) (by intro e; omega)).trans hz6;have hS7 := (hS6.grow g6).but hp2 hA5.g;have gw7 := hp2.grow (gw5.trans g6) (by omega);have he7 := Zci (Z2 he5 g6) hp2 (by omega);have hn7 := Zci (Z2 hn5 g6) hp2 (by omega);have hlt7 := Nat.le_trans g6.size hp2.size;have hA7 := hA5;clear hp2 hz5 hY5 gw5 hS6 he5 hn5 hz6 hY6 hU6 g6 hA5;go_upto_region 10 with fail
    clear y0 y1 y2 y3 f0 f1 f2 f3 cs u0 u1 u2 u3;generalize World.setCell (World.setCell (World.setCell (World.setCell (World.alloc w5 _) _ _) _ _) _ _) _ _ = W7 at *;have q8 := Zpt W7 B.e 50;have hle : es.length ≤ 100 ∧ ns.length ≤ 100 := by have := HLN.out; omega
    have hEL : Hid ((es ++ [B.e]).length = es.length + 1 ∧ (es ++ [B.e]).map iv = es.map iv ++ [.int .i64 B.e]) := by show _ ∧ _; simp [iv]
    have hNL : Hid ((ns ++ [B.n]).length = ns.length + 1 ∧ (ns ++ [B.n]).map iv = ns.map iv ++ [.int .i64 B.n]) := by show _ ∧ _; simp [iv]
    have hGW : G < W7.heap.size := Za hp1;go_wp2_with (first
     | (at_builtin; refine wpList_append_lies _ rfl (.tmp 31) (.tmp 33) 30 rfl (G + 1) 50 ie (.int .i64 0) 1 8 Tryz.underlying30 hife hze0 hze1 hze2 rfl (by decide) (.slice ae es.length ce) _ _ rfl (he7.alloc _) ⟨W7.heap.size, 0, none⟩ 1 1 [.int .i64 B.e] rfl rfl q8 (by intro u hu; simp at hu; subst hu; rfl) (by omega) (by unfold maxLen; omega) (by omega) (by simp; omega) _ rfl ?_; intro g9 c9 w9 hown9 hgr9 hat9 _hlt9; obtain ⟨hS9, hz9, hY9, hn9, gw9, hug9, hsz9⟩ := Zu3 (by omega) (Nat.le_refl _) (by decide) he7 hn7 (fun b h => Nat.lt_of_lt_of_le (hA7.lt b h) hlt7) hA7.e hS7 hz7 hp1 gw7 hgr9 hat9; have he9 : w9.ownsRow (G + 1) 50 1 (.slice (some ⟨g9, 0, none⟩) (es.length + 1) c9) (es ++ [B.e]).length ((es ++ [B.e]).map iv) := (by rw [hEL.out.1, hEL.out.2]; exact hown9); have hGW9 : G < w9.heap.size := Za hY9; have q9 := Zpt w9 B.n 3; clear hown9 hgr9 hat9 q8 he7 hn7 hS7 hz7 hp1 gw7 hGW)
     | (at_builtin; refine wpList_append_lies _ rfl (.tmp 35) (.tmp 37) 31 rfl (G + 1) 3 ii (.int .i64 0) 1 8 Tryz.underlying31 hifi hzi0 hzi1 hzi2 rfl (by decide) (.slice an ns.length cn) _ _ rfl (hn9.alloc _) ⟨w9.heap.size, 0, none⟩ 1 1 [.int .i64 B.n] rfl rfl q9 (by intro u hu; simp at hu; subst hu; rfl) (by omega) (by unfold maxLen; omega) (by omega) (by simp; omega) _ rfl ?_; intro gA cA wA hownA hgrA hatA _hltA; obtain ⟨hSA, hzA, hYA, heA, gwA, hugA, hszA⟩ := Zu3 (by omega) (Nat.le_refl _) (by decide) hn9 he9 (fun b h => Nat.lt_of_lt_of_le (hA7.lt b h) (Nat.le_trans hlt7 hsz9)) hA7.n hS9 hz9 hY9 gw9 hgrA hatA; have hnA : wA.ownsRow (G + 1) 3 1 (.slice (some ⟨gA, 0, none⟩) (ns.length + 1) cA) (ns ++ [B.n]).length ((ns ++ [B.n]).map iv) := (by rw [hNL.out.1, hNL.out.2]; exact hownA); have hAA : Apt S w.heap.size G U5 (.slice (some ⟨g9, 0, none⟩) (es.length + 1) c9) (.slice (some ⟨gA, 0, none⟩) (ns.length + 1) cA) wA := (⟨fun b h => Nat.lt_of_lt_of_le (hA7.lt b h) (Nat.le_trans hlt7 (Nat.le_trans hsz9 hszA)), hA7.up, hA7.z, hA7.g, hA7.s, (fun b h => by have e : g9 = b := Option.some.inj h; rw [← e]; exact hug9), (fun b h => by have e : gA = b := Option.some.inj h; rw [← e]; exact hugA)⟩); clear hownA hgrA hatA q9 he9 hn9 hS9 hz9 hY9 gw9 hGW9))
    go_roundw
    case rel => exact ⟨k + 1, B.st, es ++ [B.e], ns ++ [B.n], U5, b5, e5, l5, m5, i5, j5, HK1.out, by omega, by go_num, HN2, HAT, hzA, hYA, hSA, hAA, heA, hnA, gwA⟩
    case measure => simp [intOf]; omega
  ·obtain rfl : R = (s, es, ns) := by
    have e : l.take 100 = l.take k := by rw [List.take_of_length_le (by omega), List.take_of_length_le (by omega)]
    rw [HR.out, e, HPL.out]
   obtain ⟨ev, hev⟩ : ∃ ev, ev = Value.slice ae es.length ce := ⟨_, rfl⟩;obtain ⟨nv, hnv⟩ : ∃ nv, nv = Value.slice an ns.length cn := ⟨_, rfl⟩;rw [← hev] at he9 hA9 ⊢;rw [← hnv] at hn9 hA9 ⊢;clear HPL HST hY HLN hev hnv;obtain ⟨z0, z1, z2, z3⟩ := Z4 hz9 rfl rfl rfl rfl;obtain ⟨o0, o1, o2, o3⟩ := Yq hz9;obtain ⟨hq1, hq2⟩ := Ye hz9 (.slice b1 s.dk.blocks.length e1) (.slice l1 s.dk.late.length m1) (.slice i1 s.idx.length j1) (.int .i64 s.next);obtain ⟨x0, x1, x2, x3⟩ := Z4 hq1 rfl rfl rfl rfl;have cs := Zt;have gE := hq2.grow gw9 (Nat.le_refl _);have hE := (hS9.but hq2 hA9.z).mono hA9.up;have rE := Yi (Zci he9 hq2 (by omega)) (show w.heap.size ≤ G + 1 by omega);have rN := Yi (Zci hn9 hq2 (by omega)) (show w.heap.size ≤ G + 1 by omega);have HRE : Hid _ := rE;have HRN : Hid _ := rN;clear hq1 hq2 hz9 gw9 hS9 hA9 he9 hn9 rE rN;obtain ⟨ae, ce, rfl⟩ : ∃ ae ce, ev = .slice ae es.length ce := Z6 HRE.out;obtain ⟨an, cn, rfl⟩ : ∃ an cn, nv = .slice an ns.length cn := Z6 HRN.out;go_wp2_with fail;exact bodyPost_ret (v := .tuple #[.agg #[.slice b1 s.dk.blocks.length e1, .slice l1 s.dk.late.length m1, .slice i1 s.idx.length j1, .int .i64 s.next], .slice ae es.length ce, .slice an ns.length cn]) (by simp [results, Tryz.results11, go_sem, x0, x1, x2, x3]) rfl ⟨_, _, _, rfl, hE, HRE.out, HRN.out, gE⟩
end Go.Proofs.YtpdnapbchcdhlacGreat
