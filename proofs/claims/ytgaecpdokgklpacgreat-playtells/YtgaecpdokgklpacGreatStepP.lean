import Derived.Test.YtgaecpdokgklpacGreatRClean
set_option maxHeartbeats 8000000
namespace Go.Proofs.YtgaecpdokgklpacGreat
set_option maxRecDepth 100000
open Go.RowKit
open Plain Reg
def St.step (s : St) (x : Sp) : Zk5 :=
 if x.kind = 1 then s.doS x.deed
 else if x.kind = 2 then (if (s.begin x.deed).e ≠ 0 then ⟨s, 0, (s.begin x.deed).e⟩ else ⟨Qs ((s.begin x.deed).st.dk.keep x.n), (s.begin x.deed).n, 0⟩)
 else if x.kind = 3 then (if x.n < 0 ∨ 192 ≤ x.n then ⟨s, 0, 3⟩ else ⟨⟨s.dk.spoil (x.n / 16) (x.n % 16) x.m, s.idx, s.next⟩, 0, 0⟩)
 else if x.kind = 4 then ⟨s.scrub, 0, 0⟩
 else if x.kind = 5 then ⟨Qs s.dk.clean, 0, 0⟩
 else if x.kind = 6 then ⟨Qs s.dk, 0, 0⟩
 else ⟨s, 0, 1⟩
structure St.At (s : St) : Prop where
 ok : s.Ok 0
 low : 0 ≤ s.next
 high : s.next < 6
theorem Zgg (s : St) (d : Dd) : (s.begin d).st.next = s.next := by
 unfold St.begin;split
 ·rfl
 ·split
  ·rfl
  ·split <;> rfl
theorem Zoa (s : St) (d : Dd) : (s.doS d).st.next = s.next := by
 unfold St.doS;split
 ·exact Zgg s d
 ·exact Zgg s d
theorem Zcy {n : Nat} {d : Dk} (h : d.Fine n) : (Qs d).At := ⟨Zsb h, Int.le_refl 0, (by decide : (0 : Int) < 6)⟩
theorem Zdc {n : Nat} {d : Dk} (h : d.Fine n) : d.clean.Fine 0 := Za0 (h.kept 0) _ _
theorem Zel {s : St} {x : Sp} (h : s.At) : (s.step x).st.At := by
 unfold St.step;split
 ·exact ⟨Zw8 h.ok, by rw [Zoa]; exact h.low, by rw [Zoa]; exact h.high⟩
 ·split
  ·split
   ·exact h
   ·exact Zcy ((J9 h.ok).disk.kept x.n)
  ·split
   ·split
    ·exact h
    ·exact ⟨⟨h.ok.disk.spoil _ _ _, h.ok.right, h.ok.six⟩, h.low, h.high⟩
   ·split
    ·refine ⟨Zre h.ok.disk, ?_, ?_⟩
     ·show 0 ≤ (s.next + 1) % 6; omega
     ·show (s.next + 1) % 6 < 6; omega
    ·split
     ·exact Zcy (Zdc h.ok.disk)
     ·split
      ·exact Zcy h.ok.disk
      ·exact h
theorem Vu (w : World) (a b : Array Value) (Ta Tb : TypeId) : Zo w (((w.alloc (.cells a Ta)).alloc (.cells b Tb)).alloc Y7) ∧ (((w.alloc (.cells a Ta)).alloc (.cells b Tb)).alloc Y7).heap[w.heap.size]? = some (.cells a Ta (0, 0)) ∧ (((w.alloc (.cells a Ta)).alloc (.cells b Tb)).alloc Y7).heap[w.heap.size + 1]? = some (.cells b Tb (0, 0)) ∧ (((w.alloc (.cells a Ta)).alloc (.cells b Tb)).alloc Y7).heap[w.heap.size + 2]? = some (.cells #[.slice none 0 0, .slice none 0 0, .slice none 0 0, .int .i64 0] 29 (0, 0)) ∧ Hid ((((w.alloc (.cells a Ta)).alloc (.cells b Tb)).alloc Y7).heap.size = w.heap.size + 3) := by
 have hs0 := Zj w a Ta;have hd0 := Zj (w.alloc (.cells a Ta)) b Tb;have hz1 := Zj ((w.alloc (.cells a Ta)).alloc (.cells b Tb)) #[.slice none 0 0, .slice none 0 0, .slice none 0 0, .int .i64 0] 29;have hs1 := ((Zs (w.alloc (.cells a Ta)) (.cells b Tb) Y7).block _ (Za hs0)).trans hs0;have hd1 := ((Zc ((w.alloc (.cells a Ta)).alloc (.cells b Tb)) Y7).block _ (Za hd0)).trans hd0;rw [World.size_alloc] at hd1;rw [World.size_alloc, World.size_alloc] at hz1;exact ⟨(Zs w (.cells a Ta) (.cells b Tb)).trans (Zc _ Y7), hs1, hd1, hz1, by show _ = _; simp⟩
theorem Zt8 (S : Nat → Prop) (s : St) (x : Sp) (v : Value) (ad : Option Addr) (c : Nat) (w : World) (hS : ∀ b, S b → b < w.heap.size) (hs : Z4 S s v w) (hd : Z3 S w (.slice ad x.deed.data.length c) x.deed.data) (hA : s.At) (hdl : x.deed.data.length ≤ 140737488355328) (k1 : x.kind = 1) :
  Calls Tryz.prog 18 #[v, .agg #[.int .i64 x.kind, .int .i64 x.n, .int .i64 x.m, .int .i64 x.deed.kind, .int .i64 x.deed.key, .int .i64 x.deed.num, .slice ad x.deed.data.length c]] w fun r w' => ∃ v', r = .returned (.tuple #[v', .int .i64 (s.step x).n, .int .i64 (s.step x).e]) ∧ Z4 (Zw S w.heap.size) (s.step x).st v' w' ∧ Zo w w' := by
 obtain ⟨ab, cb, al, cl, ai, ci, rfl, hb, hl, hi⟩ := hs.form;obtain ⟨g0, hs1, hd1, hz1, HWs⟩ := Vu w #[.slice ab s.dk.blocks.length cb, .slice al s.dk.late.length cl, .slice ai s.idx.length ci, .int .i64 s.next] #[.int .i64 x.kind, .int .i64 x.n, .int .i64 x.m, .int .i64 x.deed.kind, .int .i64 x.deed.key, .int .i64 x.deed.num, .slice ad x.deed.data.length c] 29 49;have hns : ¬ Zw S (w.heap.size + 3) w.heap.size := Yc hS (by omega);have hnz : ¬ Zw S (w.heap.size + 3) (w.heap.size + 2) := Yc (fun b h => by have := hS b h; omega) (by omega);obtain ⟨R, hR⟩ : ∃ R, R = s.step x := ⟨_, rfl⟩;rw [← hR];have HR : Hid (R = s.step x) := hR;have HAT : Hid (s.At) := hA;clear hR hA;go_enter Tryz.func18, Tryz.ntmps18;obtain ⟨d0, d1, d2, d3, d4⟩ := Qa hd1 rfl rfl rfl rfl rfl;have d5 := Zd hd1 5 _ rfl;have d6 := Zd hd1 6 _ rfl;obtain ⟨s0, s1, s2, s3⟩ := Z8 hs1 rfl rfl rfl rfl;have q1 : (x.kind == 1) = true := by simp [k1]
 obtain rfl : R = s.doS x.deed := by rw [HR.out]; unfold St.step; rw [if_pos k1]
 clear HR k1;go_wp2_with fail;obtain ⟨W, hW⟩ : ∃ W, W = ((w.alloc (.cells #[.slice ab s.dk.blocks.length cb, .slice al s.dk.late.length cl, .slice ai s.idx.length ci, .int .i64 s.next] 29)).alloc (.cells #[.int .i64 x.kind, .int .i64 x.n, .int .i64 x.m, .int .i64 x.deed.kind, .int .i64 x.deed.key, .int .i64 x.deed.num, .slice ad x.deed.data.length c] 49)).alloc Y7 := ⟨_, rfl⟩;have hWs : W.heap.size = w.heap.size + 3 := by rw [hW]; simp
 rw [← hW] at g0 hs1 hd1 hz1 d0 d1 d2 d3 d4 d5 d6 s0 s1 s2 s3 ⊢;clear hW;refine (Zrp S 0 s x.deed _ ad c W (fun b h => by have := hS b h; omega) (hs.grow g0) (hd.grow g0) HAT.out.ok (by omega) hdl).mono ?_;rw [hWs];obtain ⟨B, hB⟩ : ∃ B, B = s.doS x.deed := ⟨_, rfl⟩;rw [← hB];have HB : Hid _ := hB;clear hB;rintro r w1 ⟨v1, rfl, hS8, g1⟩;have hz9 := (g1.block _ (Za hz1)).trans hz1;have gw9 := g0.trans g1;obtain ⟨b9, e9, l9, m9, i9, j9, hv9, -, -, -⟩ := hS8.form;subst hv9;obtain ⟨s9, hs9⟩ : ∃ s9, s9 = B.st := ⟨_, rfl⟩;rw [← hs9] at hS8 ⊢;have HS9 : Hid _ := hs9;have hS9 := hS8;clear hS8 hs1 hd1 hz1 d0 d1 d2 d3 d4 d5 d6 s0 s1 s2 s3 g0 g1 hs9 hs hb hl hi q1;obtain ⟨hq1, hq2⟩ := Yh hz9 (.slice b9 s9.dk.blocks.length e9) (.slice l9 s9.dk.late.length m9) (.slice i9 s9.idx.length j9) (.int .i64 s9.next);obtain ⟨z0, z1, z2, z3⟩ := Z8 hz9 rfl rfl rfl rfl;obtain ⟨o0, o1, o2, o3⟩ := Yq hz9;obtain ⟨x0, x1, x2, x3⟩ := Z8 hq1 rfl rfl rfl rfl;have cs := Zv;have gE := hq2.grow gw9 (by omega);have hE := (hS9.but hq2 hnz).mono (Z0 (B := w.heap.size) (by omega));clear hq1 hq2 hz9 gw9 hS9;go_wp2_with fail;exact bodyPost_ret (v := .tuple #[.agg #[.slice b9 s9.dk.blocks.length e9, .slice l9 s9.dk.late.length m9, .slice i9 s9.idx.length j9, .int .i64 s9.next], .int .i64 B.n, .int .i64 B.e]) (by simp [results, Tryz.results18, go_sem, x0, x1, x2, x3]) rfl ⟨_, by rw [← HB.out], by rw [← HB.out, ← HS9.out]; exact hE, gE⟩
theorem Zt7 (S : Nat → Prop) (s : St) (x : Sp) (v : Value) (ad : Option Addr) (c : Nat) (w : World) (hS : ∀ b, S b → b < w.heap.size) (hs : Z4 S s v w) (hd : Z3 S w (.slice ad x.deed.data.length c) x.deed.data) (hA : s.At) (hdl : x.deed.data.length ≤ 140737488355328) (k1 : ¬ x.kind = 1) (k2 : x.kind = 2) :
  Calls Tryz.prog 18 #[v, .agg #[.int .i64 x.kind, .int .i64 x.n, .int .i64 x.m, .int .i64 x.deed.kind, .int .i64 x.deed.key, .int .i64 x.deed.num, .slice ad x.deed.data.length c]] w fun r w' => ∃ v', r = .returned (.tuple #[v', .int .i64 (s.step x).n, .int .i64 (s.step x).e]) ∧ Z4 (Zw S w.heap.size) (s.step x).st v' w' ∧ Zo w w' := by
 obtain ⟨ab, cb, al, cl, ai, ci, rfl, hb, hl, hi⟩ := hs.form;obtain ⟨g0, hs1, hd1, hz1, HWs⟩ := Vu w #[.slice ab s.dk.blocks.length cb, .slice al s.dk.late.length cl, .slice ai s.idx.length ci, .int .i64 s.next] #[.int .i64 x.kind, .int .i64 x.n, .int .i64 x.m, .int .i64 x.deed.kind, .int .i64 x.deed.key, .int .i64 x.deed.num, .slice ad x.deed.data.length c] 29 49;have hns : ¬ Zw S (w.heap.size + 3) w.heap.size := Yc hS (by omega);have hnz : ¬ Zw S (w.heap.size + 3) (w.heap.size + 2) := Yc (fun b h => by have := hS b h; omega) (by omega);obtain ⟨R, hR⟩ : ∃ R, R = s.step x := ⟨_, rfl⟩;rw [← hR];have HR : Hid (R = s.step x) := hR;have HAT : Hid (s.At) := hA;clear hR hA;go_enter Tryz.func18, Tryz.ntmps18;obtain ⟨d0, d1, d2, d3, d4⟩ := Qa hd1 rfl rfl rfl rfl rfl;have d5 := Zd hd1 5 _ rfl;have d6 := Zd hd1 6 _ rfl;obtain ⟨s0, s1, s2, s3⟩ := Z8 hs1 rfl rfl rfl rfl;have q1 : (x.kind == 1) = false := by simp [k1]
 have q2 : (x.kind == 2) = true := by simp [k2]
 obtain ⟨B, hB⟩ : ∃ B, B = s.begin x.deed := ⟨_, rfl⟩;have HRB : Hid (R = if B.e ≠ 0 then ⟨s, 0, B.e⟩ else ⟨Qs (B.st.dk.keep x.n), B.n, 0⟩) := by show R = _; rw [HR.out, hB]; unfold St.step; rw [if_neg k1, if_pos k2]
 have HOB : Hid (B.st.Ok 2) := by rw [hB]; exact J9 HAT.out.ok
 have HB : Hid _ := hB;clear HR k1 k2 hB;go_wp2_with fail;generalize World.alloc (World.alloc (World.alloc w _) _) _ = W at *;have hWs := HWs.out;clear HWs;refine (Ze9 S 0 s x.deed _ ad c W (fun b h => by have := hS b h; omega) (hs.grow g0) (hd.grow g0) HAT.out.ok (by omega) hdl).mono ?_;rw [hWs, ← HB.out];rintro r w1 ⟨v1, rfl, hS1, g1⟩;obtain ⟨b1, e1, l1, m1, i1, j1, hv1, u1, u2, -⟩ := hS1.form;subst hv1;have g2 := Zc w1 (.cells #[.slice b1 B.st.dk.blocks.length e1, .slice l1 B.st.dk.late.length m1, .slice i1 B.st.idx.length j1, .int .i64 B.st.next] 29);have hY := Zj w1 #[.slice b1 B.st.dk.blocks.length e1, .slice l1 B.st.dk.late.length m1, .slice i1 B.st.idx.length j1, .int .i64 B.st.next] 29;have gg := g1.trans g2;have hs2 := (gg.block _ (Za hs1)).trans hs1;have hd2 := (gg.block _ (Za hd1)).trans hd1;have hz2 := (gg.block _ (Za hz1)).trans hz1;have gw2 := g0.trans gg;have p1 := u1.capd.grow g2;have p2 := u2.capd.grow g2;have HW1 : Hid (w.heap.size + 3 ≤ w1.heap.size) := by rw [← hWs]; exact g1.size
 clear d0 d1 d2 d3 d4 d5 d6 s0 s1 s2 s3 hs1 hd1 hz1 g0 g1 g2 gg hS1 u1 u2;obtain ⟨y0, y1⟩ := Xb hY rfl rfl;have d1 := Zd hd2 1 _ rfl;obtain ⟨s0, s1, s2, s3⟩ := Z8 hs2 rfl rfl rfl rfl;by_cases he : B.e = 0
 ·have qe : (B.e != 0) = false := by simp [he]
  obtain ⟨KD, hKD⟩ : ∃ KD, KD = B.st.dk.keep x.n := ⟨_, rfl⟩;obtain rfl : R = ⟨Qs KD, B.n, 0⟩ := by rw [HRB.out, if_neg (by simpa using he), hKD]
  have HKD : Hid _ := hKD;clear HRB he hKD;go_wp2_with fail;obtain ⟨N1, hN1⟩ : ∃ N1, N1 = w1.heap.size := ⟨_, rfl⟩;rw [← hN1] at p1 p2 HW1;obtain ⟨W2, hW2⟩ : ∃ W2, W2 = w1.alloc (.cells #[.slice b1 B.st.dk.blocks.length e1, .slice l1 B.st.dk.late.length m1, .slice i1 B.st.idx.length j1, .int .i64 B.st.next] 29) := ⟨_, rfl⟩;have hs2z : W2.heap.size = N1 + 1 := by rw [hW2, hN1]; simp
  rw [← hW2] at hY hs2 hd2 hz2 gw2 p1 p2 y0 y1 d1 s0 s1 s2 s3 ⊢;clear hW2 hN1;refine (Zh9 (fun b => Zw S (w.heap.size + 3) b ∧ b < N1) 2 B.st.dk x.n _ W2 (fun b h => by have := h.2; omega) ⟨_, _, rfl, p1, p2⟩ HOB.out.disk (by omega)).mono ?_;rw [← HKD.out, hs2z];rintro r w3 ⟨v3, rfl, h3, g3⟩;obtain ⟨b3, e3, l3, m3, rfl, h3b, h3l⟩ := h3.form;have hz3 := (g3.block _ (Za hz2)).trans hz2;have gw3 := gw2.trans g3;clear y0 y1 d1 s0 s1 s2 s3 hY hs2 hd2 hz2 gw2 p1 p2 h3 g3 hs2z;go_wp2_with fail;have hmx : ∀ b, Zw (fun b => Zw S (w.heap.size + 3) b ∧ b < N1) (N1 + 1) b → Zw S (w.heap.size + 3) b := fun b h => h.elim (fun x => x.1) (fun x => .inr (by have := HW1.out; omega))
  refine (Zag (fun b => Zw S (w.heap.size + 3) b ∧ b < w3.heap.size) 0 KD _ w3 (fun b h => h.2) ⟨_, _, rfl, (h3b.mono hmx).capd, (h3l.mono hmx).capd⟩ (by rw [HKD.out]; exact HOB.out.disk.kept x.n) (by omega)).mono ?_;have HW3 : Hid (w.heap.size + 3 ≤ w3.heap.size) := Za hz3;rintro r w4 ⟨v4, rfl, h4, g4⟩;have hS8 : Z4 (Zw S (w.heap.size + 3)) (Qs KD) v4 w4 := h4.mono fun b h => h.elim (fun x => x.1) (fun x => .inr (Nat.le_trans HW3.out x))
  have hz9 := (g4.block _ (Za hz3)).trans hz3;have gw9 := gw3.trans g4;obtain ⟨b9, e9, l9, m9, i9, j9, hv9, -, -, -⟩ := hS8.form;subst hv9;obtain ⟨s9, hs9⟩ : ∃ s9, s9 = Qs KD := ⟨_, rfl⟩;rw [← hs9] at hS8 ⊢;have HS9 : Hid _ := hs9;have hS9 := hS8;clear hS8 h4 hz3 gw3 g4 h3b h3l hmx hs9;obtain ⟨hq1, hq2⟩ := Yh hz9 (.slice b9 s9.dk.blocks.length e9) (.slice l9 s9.dk.late.length m9) (.slice i9 s9.idx.length j9) (.int .i64 s9.next);obtain ⟨z0, z1, z2, z3⟩ := Z8 hz9 rfl rfl rfl rfl;obtain ⟨o0, o1, o2, o3⟩ := Yq hz9;obtain ⟨x0, x1, x2, x3⟩ := Z8 hq1 rfl rfl rfl rfl;have cs := Zv;have gE := hq2.grow gw9 (by omega);have hE := (hS9.but hq2 hnz).mono (Z0 (B := w.heap.size) (by omega));clear hq1 hq2 hz9 gw9 hS9;go_wp2_with fail;exact bodyPost_ret (v := .tuple #[.agg #[.slice b9 s9.dk.blocks.length e9, .slice l9 s9.dk.late.length m9, .slice i9 s9.idx.length j9, .int .i64 s9.next], .int .i64 B.n, .int .i64 0]) (by simp [results, Tryz.results18, go_sem, x0, x1, x2, x3]) rfl ⟨_, rfl, by rw [← HS9.out]; exact hE, gE⟩
 ·have qe : (B.e != 0) = true := by simp [he]
  obtain rfl : R = ⟨s, 0, B.e⟩ := by rw [HRB.out, if_pos he]
  have hzX := hz2;have gwX := gw2;clear HRB he hY hd2 gw2 p1 p2 y0 y1 d1 hz2;obtain ⟨z0, z1, z2, z3⟩ := Z8 hzX rfl rfl rfl rfl;obtain ⟨f0, f1, f2, f3⟩ := Yq hzX;have cs := Zv;obtain ⟨hq1, hq2⟩ := Yh hzX (.slice ab s.dk.blocks.length cb) (.slice al s.dk.late.length cl) (.slice ai s.idx.length ci) (.int .i64 s.next);obtain ⟨x0, x1, x2, x3⟩ := Z8 hq1 rfl rfl rfl rfl;have gE := hq2.grow gwX (by omega);have hE := (hs.grow gE).mono (S' := Zw S w.heap.size) Vr;clear hq1 hq2 hzX gwX;go_wp2_with fail;exact bodyPost_ret (v := .tuple #[.agg #[.slice ab s.dk.blocks.length cb, .slice al s.dk.late.length cl, .slice ai s.idx.length ci, .int .i64 s.next], .int .i64 0, .int .i64 B.e]) (by simp [results, Tryz.results18, go_sem, x0, x1, x2, x3]) rfl ⟨_, rfl, hE, gE⟩
end Go.Proofs.YtgaecpdokgklpacGreat
