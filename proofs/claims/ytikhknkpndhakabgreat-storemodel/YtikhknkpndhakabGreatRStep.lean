import Derived.Test.YtikhknkpndhakabGreatRStepB
import Derived.Deep.AppendLies
set_option maxHeartbeats 8000000
namespace Go.Proofs.YtikhknkpndhakabGreat
set_option maxRecDepth 100000
open Go.RowKit
open Plain Reg
theorem Zps (S : Nat → Prop) (s : St) (x : Sp) (v : Value) (ad : Option Addr) (c : Nat) (w : World) (hS : ∀ b, S b → b < w.heap.size) (hs : Z2 S s v w) (hd : Zz S w (.slice ad x.deed.data.length c) x.deed.data) (hA : s.At) (hdl : x.deed.data.length ≤ 140737488355328) :
  Calls Tryz.prog 35 #[v, .agg #[.int .i64 x.kind, .int .i64 x.n, .int .i64 x.m, .int .i64 x.deed.kind, .int .i64 x.deed.key, .int .i64 x.deed.num, .slice ad x.deed.data.length c]] w fun r w' => ∃ v', r = .returned (.tuple #[v', .int .i64 (s.step x).n, .int .i64 (s.step x).e]) ∧ Z2 (Zw S w.heap.size) (s.step x).st v' w' ∧ Zo w w' := by
 by_cases k1 : x.kind = 1
 ·exact Zvk S s x v ad c w hS hs hd hA hdl k1
 ·by_cases k2 : x.kind = 2
  ·exact Zvj S s x v ad c w hS hs hd hA hdl k1 k2
  ·by_cases k3 : x.kind = 3
   ·exact Zvi S s x v ad c w hS hs hd hA hdl k1 k2 k3
   ·by_cases k4 : x.kind = 4
    ·exact Zvh S s x v ad c w hS hs hd hA hdl k1 k2 k3 k4
    ·by_cases k5 : x.kind = 5
     ·exact Zvg S s x v ad c w hS hs hd hA hdl k1 k2 k3 k4 k5
     ·by_cases k6 : x.kind = 6
      ·exact Zvf S s x v ad c w hS hs hd hA hdl k1 k2 k3 k4 k5 k6
      ·exact Zsn S s x v ad c w hS hs hd hA hdl k1 k2 k3 k4 k5 k6
def Zou : Qr Sp where
 T := 70
 size := 7
 enc S w x cs := ∃ u, cs = [.int .i64 x.kind, .int .i64 x.n, .int .i64 x.m, .int .i64 x.deed.kind, .int .i64 x.deed.key, .int .i64 x.deed.num, u] ∧ Zz S w u x.deed.data
 len := by rintro S w x cs ⟨u, rfl, _⟩; rfl
 keep := by rintro S w w' x cs ⟨u, rfl, h⟩ hk; exact ⟨u, rfl, h.keeps hk⟩
 mono := by rintro S S' w x cs ⟨u, rfl, h⟩ hS; exact ⟨u, rfl, h.mono hS⟩
 cap := by rintro S w x cs ⟨u, rfl, h⟩; exact ⟨u, rfl, h.caps⟩
 one := by
  rintro S w x cs ⟨u, rfl, h⟩ c hc;simp only [List.mem_cons, List.not_mem_nil, or_false] at hc;rcases hc with rfl | rfl | rfl | rfl | rfl | rfl | rfl
  ·rfl
  ·rfl
  ·rfl
  ·rfl
  ·rfl
  ·rfl
  ·exact h.one
abbrev Zg9 (S : Nat → Prop) (w : World) (v : Value) (l : List Sp) : Prop := Yf Zou S w v l
theorem Zrx {S : Nat → Prop} {w : World} {ao : Option Addr} {n cap : Nat} {l : List Sp} (h : Zg9 S w (.slice ao n cap) l) (i : Nat) (hi : i < l.length) :
  ∃ b off a c, ao = some ⟨b, off, none⟩ ∧ w.cell? ⟨b, off + i * 7, none⟩ = some (.int .i64 l[i].kind) ∧ w.cell? ⟨b, off + i * 7 + 1, none⟩ = some (.int .i64 l[i].n) ∧ w.cell? ⟨b, off + i * 7 + 2, none⟩ = some (.int .i64 l[i].m) ∧ w.cell? ⟨b, off + i * 7 + 3, none⟩ = some (.int .i64 l[i].deed.kind) ∧ w.cell? ⟨b, off + i * 7 + 4, none⟩ = some (.int .i64 l[i].deed.key) ∧ w.cell? ⟨b, off + i * 7 + 5, none⟩ = some (.int .i64 l[i].deed.num) ∧
   w.cell? ⟨b, off + i * 7 + 6, none⟩ = some (.slice a l[i].deed.data.length c) ∧ Zz S w (.slice a l[i].deed.data.length c) l[i].deed.data := by
 obtain ⟨b, off, rfl, _, cs, ⟨u, rfl, hu⟩, hc⟩ := h.at i hi;obtain ⟨a, c, rfl⟩ := hu.form;exact ⟨b, off, a, c, rfl, hc 0 _ rfl, hc 1 _ rfl, hc 2 _ rfl, hc 3 _ rfl, hc 4 _ rfl, hc 5 _ rfl, hc 6 _ rfl, hu⟩
def K3 : Nat → St → List Sp → St
 | 0, s, _ => s
 | _ + 1, s, [] => s
 | n + 1, s, x :: l => if Kd s x = true then K3 n (s.step x).st l else s
theorem Znw (n : Nat) (s : St) : K3 n s [] = s := by cases n <;> rfl
theorem Zi8 : Xt.At := Kv Kb
theorem Zkj (S : Nat → Prop) (l : List Sp) (v : Value) (w : World) (hS : ∀ b, S b → b < w.heap.size) (hl : Zg9 S w v l) (hm : l.length ≤ 140737488355328) (hdl : ∀ x ∈ l, x.deed.data.length ≤ 140737488355328) :
  Calls Tryz.prog 26 #[v] w fun r w' => ∃ v', r = .returned v' ∧ Z2 (Zw S w.heap.size) (K3 100 Xt l) v' w' ∧ Zo w w' := by
 obtain ⟨ao, cp, rfl⟩ := hl.form;have g0 := Zb w Xj;have hz0 := Zk w #[.slice none 0 0, .slice none 0 0, .slice none 0 0, .int .i64 0] 33;obtain ⟨R, hR⟩ : ∃ R, R = K3 100 Xt l := ⟨_, rfl⟩;rw [← hR];have HR : Hid _ := hR;clear hR;go_enter Tryz.func26, Tryz.ntmps26;go_wp2_with fail;refine (Zpv S (w.alloc Xj) (fun b h => by have := hS b h; simp; omega)).mono ?_;rintro r w1 ⟨v1, rfl, hS1, g1⟩;obtain ⟨b1, e1, l1, m1, i1, j1, hv1, -, -, -⟩ := hS1.form;subst hv1;rw [World.size_alloc] at hS1;obtain ⟨G, hG⟩ : ∃ G, G = w1.heap.size := ⟨_, rfl⟩;have hz1 := (g1.block _ (Za hz0)).trans hz0;have hGz : w.heap.size < G := by rw [hG]; exact Za hz1
 have g2 := Zb w1 (.cells #[.slice b1 Xt.dk.blocks.length e1, .slice l1 Xt.dk.late.length m1, .slice i1 Xt.idx.length j1, .int .i64 Xt.next] 33);have hY := Zk w1 #[.slice b1 Xt.dk.blocks.length e1, .slice l1 Xt.dk.late.length m1, .slice i1 Xt.idx.length j1, .int .i64 Xt.next] 33;have hz2 := (g2.block _ (Za hz1)).trans hz1;have gw2 := g0.trans (g1.trans g2);rw [← hG] at hY;obtain ⟨U, hU⟩ : ∃ U : Nat → Prop, U = fun b => S b ∨ (w.heap.size < b ∧ b ≠ G) := ⟨_, rfl⟩
 have hUz : ¬ U w.heap.size := by rw [hU]; rintro (h | h); exact absurd (hS _ h) (Nat.lt_irrefl _); omega
 have hUg : ¬ U G := by rw [hU]; rintro (h | h); have := hS _ h; omega; exact h.2 rfl
 have hUp : ∀ b, U b → Zw S w.heap.size b := by rw [hU]; rintro b (h | h); exact .inl h; exact .inr (by omega)
 have hUs : ∀ b, S b → U b := by rw [hU]; exact fun b h => .inl h
 have hUn : ∀ b, G < b → U b := by rw [hU]; exact fun b h => .inr (by omega)
 have hS2 : Z2 U Xt (.agg #[.slice b1 Xt.dk.blocks.length e1, .slice l1 Xt.dk.late.length m1, .slice i1 Xt.idx.length j1, .int .i64 Xt.next]) (w1.alloc (.cells #[.slice b1 Xt.dk.blocks.length e1, .slice l1 Xt.dk.late.length m1, .slice i1 Xt.idx.length j1, .int .i64 Xt.next] 33)) := (hS1.capd.grow g2).mono (by
  rw [hU, ← hG];rintro b ⟨h | h, hb⟩
  ·exact .inl h
  ·exact .inr ⟨by omega, by omega⟩)
 have HG : Hid _ := hG;have HU : Hid _ := hU;have HST : Hid (Xt.At) := Zi8;clear g0 g1 g2 hz0 hz1 hS1 hG hU;go_wp2_with fail;rw [← HG.out];have HGE : Hid (K3 (100 - 0) Xt (l.drop 0) = R) := HR.out.symm;generalize Xt = s0 at *;go_loopw [9] (fun i wr => ∃ (k : Nat) (s : St) (b1 : Option Addr) (e1 : Nat) (l1 : Option Addr) (m1 : Nat) (i1 : Option Addr) (j1 : Nat), k ≤ 100 ∧ k ≤ l.length ∧ i = .int .i64 (k : Int) ∧ Hid (K3 (100 - k) s (l.drop k) = R) ∧ Hid s.At ∧ wr.heap[w.heap.size]? = some (.cells #[.slice none 0 0, .slice none 0 0, .slice none 0 0, .int .i64 0] 33 (0, 0)) ∧ wr.heap[G]? = some (.cells #[.slice b1 s.dk.blocks.length e1, .slice l1 s.dk.late.length m1, .slice i1 s.idx.length j1, .int .i64 s.next] 33 (0, 0)) ∧ Z2 U s (.agg #[.slice b1 s.dk.blocks.length e1, .slice l1 s.dk.late.length m1, .slice i1 s.idx.length j1, .int .i64 s.next]) wr ∧ Zo w wr) (fun i _ => l.length - (intOf i).toNat)
 case atStart => exact ⟨0, s0, b1, e1, l1, m1, i1, j1, by omega, by omega, rfl, HGE, HST, hz2, hY, hS2, gw2⟩
 case round =>
  clear hz2 hY hS2 gw2 HGE HST HR;obtain ⟨k, s, b1, e1, l1, m1, i1, j1, hk1, hkl, rfl, HGE, HST, hz9, hY, hS9, gw9⟩ := hrel;obtain ⟨y0, y1, y2, y3⟩ := Ye hY rfl rfl rfl rfl;by_cases hlt : k < l.length
  ·obtain ⟨b, off, ad, c, hao, q0, q1, q2, q3, q4, q5, q6, hbd⟩ := Zrx (hl.grow gw9) k hlt;cases hao;have HDR : Hid (l.drop k = l[k] :: l.drop (k + 1)) := List.drop_eq_getElem_cons hlt;have HDL : Hid (l[k].deed.data.length ≤ 140737488355328) := hdl _ (List.getElem_mem hlt);generalize l[k] = x at *;have g3 := Zb wr (.cells #[.int .i64 x.kind, .int .i64 x.n, .int .i64 x.m, .int .i64 x.deed.kind, .int .i64 x.deed.key, .int .i64 x.deed.num, .slice ad x.deed.data.length c] 70);have hX := Zk wr #[.int .i64 x.kind, .int .i64 x.n, .int .i64 x.m, .int .i64 x.deed.kind, .int .i64 x.deed.key, .int .i64 x.deed.num, .slice ad x.deed.data.length c] 70;have hz3 := (g3.block _ (Za hz9)).trans hz9;have hY3 := (g3.block _ (Za hY)).trans hY;have hS3 := hS9.grow g3;have hb3 := hbd.grow g3;have gw3 := gw9.trans g3;have hGr : G < wr.heap.size := Za hY;clear y0 y1 y2 y3 hz9 hS9 gw9 hY hbd;by_cases h100 : k = 100
   ·have d1 : ((k : Int) == 100) = true := by simp [h100]
    obtain rfl : s = R := by rw [← HGE.out, h100]; rfl
    have hz9 := hz3;have hS9 := hS3;have gw9 := gw3;obtain ⟨y0, y1, y2, y3⟩ := Ye hY3 rfl rfl rfl rfl;clear HGE HST hX hz3 hS3 gw3 hY3 hb3 g3 h100;obtain ⟨z0, z1, z2, z3⟩ := Ye hz9 rfl rfl rfl rfl;obtain ⟨o0, o1, o2, o3⟩ := Yu hz9;obtain ⟨hq1, hq2⟩ := Yo hz9 (.slice b1 s.dk.blocks.length e1) (.slice l1 s.dk.late.length m1) (.slice i1 s.idx.length j1) (.int .i64 s.next);obtain ⟨x0, x1, x2, x3⟩ := Ye hq1 rfl rfl rfl rfl;have cs := Zx;have gE := hq2.grow gw9 (Nat.le_refl _);have hE := (hS9.but hq2 hUz).mono hUp;clear hq1 hq2 hz9 gw9 hS9;go_wp2_with fail;exact bodyPost_ret (v := .agg #[.slice b1 s.dk.blocks.length e1, .slice l1 s.dk.late.length m1, .slice i1 s.idx.length j1, .int .i64 s.next]) (by simp [results, Tryz.results26, go_sem, x0, x1, x2, x3]) rfl ⟨_, rfl, hE, gE⟩
   ·have d1 : ((k : Int) == 100) = false := by simp; omega
    obtain ⟨y0, y1, y2, y3⟩ := Ye hY3 rfl rfl rfl rfl;obtain ⟨p0, p1, p2, p3, p4⟩ := Q4 hX rfl rfl rfl rfl rfl;have p5 := Zd hX 5 _ rfl;have p6 := Zd hX 6 _ rfl;have HG1 : Hid (R = if Kd s x = true then K3 (100 - (k + 1)) (s.step x).st (l.drop (k + 1)) else s) := by
     show R = _;rw [← HGE.out, HDR.out, show 100 - k = (100 - (k + 1)) + 1 by omega];rfl
    have HK1 : Hid (k + 1 ≤ 100) := by show _ ≤ _; omega
    clear HGE g3 h100;go_wp2_with fail;refine (Zkk U 0 s x _ ad c _ hS3 HST.out.ok.disk (by omega)).mono ?_;cases hgt : Kd s x with
    | false =>
     obtain rfl : s = R := by rw [HG1.out, hgt]; rfl
     rintro r w4 ⟨rfl, g4⟩;have hz9 := (g4.block _ (Za hz3)).trans hz3;have hY4 := (g4.block _ (Za hY3)).trans hY3;have hS9 := hS3.grow g4;have gw9 := gw3.trans g4;clear y0 y1 y2 y3 p0 p1 p2 p3 p4 p5 p6 HG1 HST hX hz3 hS3 gw3 hY3 hb3 g4 hgt q0 q1 q2 q3 q4 q5 q6;obtain ⟨y0, y1, y2, y3⟩ := Ye hY4 rfl rfl rfl rfl;clear hY4;obtain ⟨z0, z1, z2, z3⟩ := Ye hz9 rfl rfl rfl rfl;obtain ⟨o0, o1, o2, o3⟩ := Yu hz9;obtain ⟨hq1, hq2⟩ := Yo hz9 (.slice b1 s.dk.blocks.length e1) (.slice l1 s.dk.late.length m1) (.slice i1 s.idx.length j1) (.int .i64 s.next);obtain ⟨x0, x1, x2, x3⟩ := Ye hq1 rfl rfl rfl rfl;have cs := Zx;have gE := hq2.grow gw9 (Nat.le_refl _);have hE := (hS9.but hq2 hUz).mono hUp;clear hq1 hq2 hz9 gw9 hS9;go_wp2_with fail;exact bodyPost_ret (v := .agg #[.slice b1 s.dk.blocks.length e1, .slice l1 s.dk.late.length m1, .slice i1 s.idx.length j1, .int .i64 s.next]) (by simp [results, Tryz.results26, go_sem, x0, x1, x2, x3]) rfl ⟨_, rfl, hE, gE⟩
    | true =>
     have HG2 : Hid (K3 (100 - (k + 1)) (s.step x).st (l.drop (k + 1)) = R) := by show _ = _; rw [HG1.out, hgt, if_pos rfl]
     rintro r w4 ⟨rfl, g4⟩;have hz4 := (g4.block _ (Za hz3)).trans hz3;have hY4 := (g4.block _ (Za hY3)).trans hY3;have hX4 := (g4.block _ (Za hX)).trans hX;have hS4 := (hS3.grow g4).capd;have hb4 := ((hb3.mono hUs).grow g4).caps;have gw4 := gw3.trans g4;have hG4 : G < w4.heap.size := Za hY4;clear y0 y1 y2 y3 p0 p1 p2 p3 p4 p5 p6 HG1 hX hz3 hS3 gw3 hY3 hb3 g4 hgt q0 q1 q2 q3 q4 q5 q6;obtain ⟨y0, y1, y2, y3⟩ := Ye hY4 rfl rfl rfl rfl;obtain ⟨p0, p1, p2, p3, p4⟩ := Q4 hX4 rfl rfl rfl rfl rfl;have p5 := Zd hX4 5 _ rfl;have p6 := Zd hX4 6 _ rfl;go_wp2_with fail;refine (Zps (fun b => U b ∧ b < w4.heap.size) s x _ ad c w4 (fun b h => h.2) hS4 hb4 HST.out HDL.out).mono ?_;have HAT : Hid ((s.step x).st.At) := Zok HST.out;generalize s.step x = B at *;rintro r w5 ⟨v5, rfl, hS5, g5⟩;obtain ⟨b5, e5, l5, m5, i5, j5, hv5, -, -, -⟩ := hS5.form;subst hv5;have hz5 := (g5.block _ (Za hz4)).trans hz4;have hY5 := (g5.block _ (Za hY4)).trans hY4;have gw5 := gw4.trans g5;have hS6 : Z2 U B.st (.agg #[.slice b5 B.st.dk.blocks.length e5, .slice l5 B.st.dk.late.length m5, .slice i5 B.st.idx.length j5, .int .i64 B.st.next]) w5 := hS5.mono fun b h => h.elim (fun x => x.1) (fun x => hUn b (by omega))
     clear y0 y1 y2 y3 p0 p1 p2 p3 p4 p5 p6 hX4 hz4 hY4 hS4 hb4 gw4 hS5 g5 HST;obtain ⟨hp1, hp2⟩ := Yo hY5 (.slice b5 B.st.dk.blocks.length e5) (.slice l5 B.st.dk.late.length m5) (.slice i5 B.st.idx.length j5) (.int .i64 B.st.next);obtain ⟨y0, y1, y2, y3⟩ := Ye hY5 rfl rfl rfl rfl;obtain ⟨f0, f1, f2, f3⟩ := Yu hY5;have cs := Zx;have hz6 := (hp2.block _ (Za hz5) (by intro e; omega)).trans hz5;have hS7 := hS6.but hp2 hUg;have gw6 := hp2.grow gw5 (by omega);clear hp2 hz5 hY5 gw5 hS6;go_wp2_with fail;go_roundw
     case rel => exact ⟨k + 1, B.st, b5, e5, l5, m5, i5, j5, HK1.out, by omega, by go_num, HG2, HAT, hz6, hp1, hS7, gw6⟩
     case measure => simp [intOf]; omega
  ·obtain rfl : s = R := by
    have e : l.drop k = [] := List.drop_eq_nil_of_le (by omega);rw [← HGE.out, e, Znw]
   clear HGE HST hY;obtain ⟨z0, z1, z2, z3⟩ := Ye hz9 rfl rfl rfl rfl;obtain ⟨o0, o1, o2, o3⟩ := Yu hz9;obtain ⟨hq1, hq2⟩ := Yo hz9 (.slice b1 s.dk.blocks.length e1) (.slice l1 s.dk.late.length m1) (.slice i1 s.idx.length j1) (.int .i64 s.next);obtain ⟨x0, x1, x2, x3⟩ := Ye hq1 rfl rfl rfl rfl;have cs := Zx;have gE := hq2.grow gw9 (Nat.le_refl _);have hE := (hS9.but hq2 hUz).mono hUp;clear hq1 hq2 hz9 gw9 hS9;go_wp2_with fail;exact bodyPost_ret (v := .agg #[.slice b1 s.dk.blocks.length e1, .slice l1 s.dk.late.length m1, .slice i1 s.idx.length j1, .int .i64 s.next]) (by simp [results, Tryz.results26, go_sem, x0, x1, x2, x3]) rfl ⟨_, rfl, hE, gE⟩
def iv (x : Int) : Value := .int .i64 x
end Go.Proofs.YtikhknkpndhakabGreat
namespace Go.Proofs.YtikhknkpndhakabGreat
set_option maxRecDepth 100000
open Plain
theorem Zas {d : Dk} (h : d.Fine 0) : d.late = [] := List.eq_nil_of_length_eq_zero (by have := h.few; omega)
theorem Zbr {d : Dk} (h : d.Fine 0) {a : Nat} (ha : a < 12) : Y3 d (a : Int) = d.blocks.getD a [] := by
 unfold Y3 Dk.get;rw [if_neg (by have := h.len; omega), Zas h];simp [Qo]
theorem Zea {d d' : Dk} (hl : d'.blocks.length = d.blocks.length) {p : Int} (h0 : Y3 d' (2 * p) = Y3 d (2 * p)) (h1 : Y3 d' (2 * p + 1) = Y3 d (2 * p + 1)) : d'.how p = d.how p ∧ d'.tell p = d.tell p := by
 unfold Dk.how Dk.tell Zb2 Y2 Y8 Z8 Qj Dk.noPair;rw [h0, h1, hl]; exact ⟨rfl, rfl⟩
theorem Zcb {d d' : Dk} {a : Int} (h : Y3 d' a = Y3 d a) : Z8 d' a = Z8 d a ∧ Y8 d' a = Y8 d a := by
 unfold Z8 Y8 Qj;rw [h]; exact ⟨rfl, rfl⟩
theorem Xp {d : Dk} (h : d.blocks.length = 12) {p : Nat} (hp : p < 6) : d.noPair (p : Int) = false := Zqd (by omega) (by rw [h]; omega)
def V7 (d : Dk) (p : Nat) : Prop :=
 (∃ r : Rec, r.kind ≠ 1 ∧ Z8 d (2 * (p : Int)) = r ∧ Z8 d (2 * (p : Int) + 1) = r) ∨
 (∃ r : Rec, r.kind ≠ 1 ∧ (Z8 d (2 * (p : Int)) = r ∧ (Z8 d (2 * (p : Int) + 1)).kind = 1 ∨ Z8 d (2 * (p : Int) + 1) = r ∧ (Z8 d (2 * (p : Int))).kind = 1)) ∨
 ((Z8 d (2 * (p : Int))).kind = 1 ∧ (Z8 d (2 * (p : Int) + 1)).kind = 1 ∧ Y8 d (2 * (p : Int)) + Y8 d (2 * (p : Int) + 1) ≤ 1)
theorem Vt {d : Dk} {p : Int} (hn : d.noPair p = false) (h0 : (Z8 d (2 * p)).kind = 1) (h1 : (Z8 d (2 * p + 1)).kind = 1) : d.tell p = Rec.free ∧ (Y8 d (2 * p) + Y8 d (2 * p + 1) = 0 → d.how p = 0) ∧ (Y8 d (2 * p) + Y8 d (2 * p + 1) = 1 → d.how p = 3) := by
 have s0 := Kh h0;have s1 := Kh h1;unfold Dk.how Dk.tell;rw [hn, s0, s1];refine ⟨by simp, fun h => ?_, fun h => ?_⟩
 ·rw [h]; simp
 ·rw [h]; simp
theorem Zb8 {d : Dk} {p : Nat} (hn : d.noPair (p : Int) = false) (h : V7 d p) : d.how (p : Int) ≤ 3 := by
 rcases h with ⟨r, hr, h0, h1⟩ | ⟨r, hr, h⟩ | ⟨h0, h1, hb⟩
 ·rw [(Ky hn h0 h1 hr).1]; omega
 ·rw [(Vx hn hr h).1]; omega
 ·obtain ⟨-, k0, k1⟩ := Vt hn h0 h1;have := Kp d (2 * (p : Int));have := Kp d (2 * (p : Int) + 1);by_cases e : Y8 d (2 * (p : Int)) + Y8 d (2 * (p : Int) + 1) = 0
  ·rw [k0 e]; omega
  ·rw [k1 (by omega)]; omega
theorem Zar {d : Dk} {p : Nat} (hn : d.noPair (p : Int) = false) (h : d.how (p : Int) ≤ 3) : V7 d p := by
 unfold Dk.how at h;rw [hn, if_neg (by simp)] at h;by_cases k0 : (Z8 d (2 * (p : Int))).kind = 1
 ·have s0 := Kh k0;by_cases k1 : (Z8 d (2 * (p : Int) + 1)).kind = 1
  ·have s1 := Kh k1;rw [s0, s1, if_neg (by omega), if_neg (by omega)] at h;refine .inr (.inr ⟨k0, k1, ?_⟩);by_cases e0 : Y8 d (2 * (p : Int)) + Y8 d (2 * (p : Int) + 1) = 0
   ·omega
   ·rw [if_neg e0] at h;by_cases e1 : Y8 d (2 * (p : Int)) + Y8 d (2 * (p : Int) + 1) = 1
    ·omega
    ·rw [if_neg e1] at h; omega
  ·exact .inr (.inl ⟨_, k1, .inr ⟨rfl, k0⟩⟩)
 ·have s0 := Jd k0;by_cases k1 : (Z8 d (2 * (p : Int) + 1)).kind = 1
  ·exact .inr (.inl ⟨_, k0, .inl ⟨rfl, k1⟩⟩)
  ·have s1 := Jd k1;rw [s0, s1, if_pos (by omega)] at h;by_cases e : Qd (Z8 d (2 * (p : Int))) (Z8 d (2 * (p : Int) + 1)) = true
   ·exact .inl ⟨_, k0, rfl, ((Zcc _ _).1 e).symm⟩
   ·rw [if_neg e] at h; omega
def Dk.half (d : Dk) (p : Nat) (r : Rec) (x y : Bool) : Dk :=
 ⟨if y = true then (if x = true then d.blocks.set (2 * p) (blk r (2 * (p : Int))) else d.blocks).set (2 * p + 1) (blk r (2 * (p : Int) + 1)) else (if x = true then d.blocks.set (2 * p) (blk r (2 * (p : Int))) else d.blocks), []⟩
theorem Zkz {d : Dk} (h : d.Fine 0) {p : Nat} (hp : p < 6) {r : Rec} (hr : Z9 r = 0) : d.pairD (p : Int) r = ⟨d.blocks, [(2 * (p : Int), blk r (2 * (p : Int))), (2 * (p : Int) + 1, blk r (2 * (p : Int) + 1))]⟩ := by
 have he : d.pairE (p : Int) r = 0 := by rw [Zky (by omega) (by rw [h.len]; omega), hr]
 unfold Dk.pairD;rw [if_pos he];unfold Dk.pairW;rw [Zas h]; rfl
theorem Zem {d : Dk} (h : d.Fine 0) {p : Nat} (hp : p < 6) {r : Rec} (hr : Z9 r = 0) (on : Nat → Bool) : (⟨(d.pairD (p : Int) r).keepTo on (d.pairD (p : Int) r).late.length, []⟩ : Dk) = d.half p r (on 0) (on 1) := by
 rw [Zkz h hp hr];have e0 : (2 * (p : Int)).toNat = 2 * p := by omega
 have e1 : (2 * (p : Int) + 1).toNat = 2 * p + 1 := by omega
 simp only [Dk.half, Dk.keepTo, List.length_cons, List.length_nil, List.getD_cons_zero, List.getD_cons_succ, e0, e1]
theorem Zib {d : Dk} (h : d.Fine 0) {p : Nat} (hp : p < 6) {r : Rec} (hr : Z9 r = 0) (bits : Int) : (d.pairD (p : Int) r).keep bits = d.half p r (Qq bits 0) (Qq bits 1) := Zem h hp hr _
theorem Zdf {d : Dk} (h : d.Fine 0) {p : Nat} (hp : p < 6) {r : Rec} (hr : Z9 r = 0) : (d.pairD (p : Int) r).flush = d.half p r true true := Zem h hp hr _
theorem Q0 {d : Dk} (h : d.Fine 0) {p : Nat} (_hp : p < 6) {r : Rec} (hr : Z9 r = 0) (x y : Bool) : (d.half p r x y).Fine 0 := by
 have hl := h.len;refine ⟨?_, Nat.le_refl _, ?_, (fun x hx => by cases hx), (fun x hx => by cases hx)⟩
 ·unfold Dk.half;cases x <;> cases y <;> simp [hl]
 ·have key : ∀ (l : List (List UInt8)) (i : Nat) (a : Int), (∀ z ∈ l, z.length = 16) → ∀ z ∈ l.set i (blk r a), z.length = 16 := fun l i a hh z hz => by
   rcases List.mem_or_eq_of_mem_set hz with h1 | h1
   ·exact hh z h1
   ·rw [h1]; exact Zjq r a hr
  unfold Dk.half;cases x <;> cases y
  ·exact h.block
  ·exact key _ _ _ h.block
  ·exact key _ _ _ h.block
  ·exact key _ _ _ (key _ _ _ h.block)
theorem Zci (d : Dk) (h : d.Fine 0) (p : Nat) (r : Rec) : d.half p r false false = d := by
 have := Zas h;obtain ⟨b, l⟩ := d;simp only at this;subst this;rfl
theorem Zch {d : Dk} (h : d.Fine 0) {p : Nat} (hp : p < 6) {r : Rec} (hr : Z9 r = 0) (x y : Bool) (a : Nat) (ha : a < 12) :
  Y3 (d.half p r x y) (a : Int) = if a = 2 * p + 1 ∧ y = true then blk r (2 * (p : Int) + 1) else if a = 2 * p ∧ x = true then blk r (2 * (p : Int)) else Y3 d (a : Int) := by
 have hl := h.len;rw [Zbr (Q0 h hp hr x y) ha, Zbr h ha];unfold Dk.half;cases x <;> cases y <;> simp only [Bool.false_eq_true, if_false, if_true, and_false, and_true]
 ·rw [Y6 _ _ _ _ _ (by omega)];by_cases e : 2 * p + 1 = a
  ·rw [if_pos e, if_pos e.symm]
  ·rw [if_neg e, if_neg (fun h => e h.symm)]
 ·rw [Y6 _ _ _ _ _ (by omega)];by_cases e : 2 * p = a
  ·rw [if_pos e, if_pos e.symm]
  ·rw [if_neg e, if_neg (fun h => e h.symm)]
 ·rw [Y6 _ _ _ _ _ (by rw [List.length_set]; omega), Y6 _ _ _ _ _ (by omega)];by_cases e : 2 * p + 1 = a
  ·rw [if_pos e, if_pos e.symm]
  ·have e' : ¬ a = 2 * p + 1 := fun h => e h.symm
   rw [if_neg e, if_neg e'];by_cases e2 : 2 * p = a
   ·rw [if_pos e2, if_pos e2.symm]
   ·have e2' : ¬ a = 2 * p := fun h => e2 h.symm
    rw [if_neg e2, if_neg e2']
theorem Vl {d : Dk} (h : d.Fine 0) {p q : Nat} (hp : p < 6) (hq : q < 6) (hne : q ≠ p) {r : Rec} (hr : Z9 r = 0) (x y : Bool) : (d.half p r x y).how (q : Int) = d.how (q : Int) ∧ (d.half p r x y).tell (q : Int) = d.tell (q : Int) := by
 have h0 := Zch h hp hr x y (2 * q) (by omega);have h1 := Zch h hp hr x y (2 * q + 1) (by omega);rw [if_neg (by omega), if_neg (by omega)] at h0 h1;exact Zea ((Q0 h hp hr x y).len.trans h.len.symm) (by simpa using h0) (by simpa using h1)
theorem Zba {d : Dk} (h : d.Fine 0) {p : Nat} (hp : p < 6) {r : Rec} (hr : Z9 r = 0) (x y : Bool) :
  ((x = true → Z8 (d.half p r x y) (2 * (p : Int)) = r ∧ Y8 (d.half p r x y) (2 * (p : Int)) = 0) ∧ (x = false → Z8 (d.half p r x y) (2 * (p : Int)) = Z8 d (2 * (p : Int)) ∧ Y8 (d.half p r x y) (2 * (p : Int)) = Y8 d (2 * (p : Int)))) ∧
  ((y = true → Z8 (d.half p r x y) (2 * (p : Int) + 1) = r ∧ Y8 (d.half p r x y) (2 * (p : Int) + 1) = 0) ∧ (y = false → Z8 (d.half p r x y) (2 * (p : Int) + 1) = Z8 d (2 * (p : Int) + 1) ∧ Y8 (d.half p r x y) (2 * (p : Int) + 1) = Y8 d (2 * (p : Int) + 1))) := by
 have h0 := Zch h hp hr x y (2 * p) (by omega);have h1 := Zch h hp hr x y (2 * p + 1) (by omega);rw [if_neg (by omega)] at h0;have c0 : ((2 * p : Nat) : Int) = 2 * (p : Int) := by omega
 have c1 : ((2 * p + 1 : Nat) : Int) = 2 * (p : Int) + 1 := by omega
 rw [c0] at h0;rw [c1] at h1;have key : ∀ a : Int, 0 ≤ a → a ≤ 255 → Y3 (d.half p r x y) a = blk r a → Z8 (d.half p r x y) a = r ∧ Y8 (d.half p r x y) a = 0 := fun a ha ha' hb => by
  obtain ⟨he, hR⟩ := Zkp r a hr ha ha';unfold Y8 Z8 Qj;rw [hb, if_pos he, if_pos he]; exact ⟨hR, rfl⟩
 refine ⟨⟨fun e => ?_, fun e => ?_⟩, fun e => ?_, fun e => ?_⟩
 ·rw [if_pos ⟨rfl, e⟩] at h0; exact key _ (by omega) (by omega) h0
 ·rw [if_neg (by simp [e])] at h0; exact Zcb h0
 ·rw [if_pos ⟨rfl, e⟩] at h1; exact key _ (by omega) (by omega) h1
 ·rw [if_neg (by simp [e]), if_neg (by omega)] at h1; exact Zcb h1
theorem Zfg {d : Dk} {p : Nat} (hn : d.noPair (p : Int) = false) (h : V7 d p) (hk : (d.tell (p : Int)).kind = 1) : (Z8 d (2 * (p : Int))).kind = 1 ∧ (Z8 d (2 * (p : Int) + 1)).kind = 1 ∧ Y8 d (2 * (p : Int)) + Y8 d (2 * (p : Int) + 1) ≤ 1 := by
 rcases h with ⟨r, hr, h0, h1⟩ | ⟨r, hr, h⟩ | h
 ·rw [(Ky hn h0 h1 hr).2] at hk; exact absurd hk hr
 ·rw [(Vx hn hr h).2] at hk; exact absurd hk hr
 ·exact h
theorem Zlg {d : Dk} (h : d.Fine 0) {p : Nat} (hp : p < 6) {r : Rec} (hr : Z9 r = 0) (hk : r.kind ≠ 1) (h3 : V7 d p) (ht : (d.tell (p : Int)).kind = 1) (x y : Bool) :
  V7 (d.half p r x y) p ∧ (d.half p r x y).tell (p : Int) = if (x || y) = true then r else d.tell (p : Int) := by
 have hn := Xp h.len hp;have hn' := Xp (Q0 h hp hr x y).len hp;obtain ⟨k0, k1, kb⟩ := Zfg hn h3 ht;obtain ⟨⟨a0, a1⟩, b0, b1⟩ := Zba h hp hr x y;cases x with
 | true =>
  cases y with
  | true => exact ⟨.inl ⟨r, hk, (a0 rfl).1, (b0 rfl).1⟩, (Ky hn' (a0 rfl).1 (b0 rfl).1 hk).2⟩
  | false =>
   have h2 : Z8 (d.half p r true false) (2 * (p : Int)) = r ∧ (Z8 (d.half p r true false) (2 * (p : Int) + 1)).kind = 1 := ⟨(a0 rfl).1, by rw [(b1 rfl).1]; exact k1⟩;exact ⟨.inr (.inl ⟨r, hk, .inl h2⟩), (Vx hn' hk (.inl h2)).2⟩
 | false =>
  cases y with
  | true =>
   have h2 : Z8 (d.half p r false true) (2 * (p : Int) + 1) = r ∧ (Z8 (d.half p r false true) (2 * (p : Int))).kind = 1 := ⟨(b0 rfl).1, by rw [(a1 rfl).1]; exact k0⟩;exact ⟨.inr (.inl ⟨r, hk, .inr h2⟩), (Vx hn' hk (.inr h2)).2⟩
  | false =>
   rw [Zci d h];exact ⟨h3, rfl⟩
theorem Zcj {d : Dk} (h : d.Fine 0) {p : Nat} (hp : p < 6) (h3 : V7 d p) (x y : Bool) :
  V7 (d.half p Rec.free x y) p ∧ ((d.half p Rec.free x y).tell (p : Int) = d.tell (p : Int) ∨ (d.half p Rec.free x y).tell (p : Int) = Rec.free) ∧ (x = true → y = true → (d.half p Rec.free x y).tell (p : Int) = Rec.free ∧ (d.half p Rec.free x y).how (p : Int) = 0) := by
 have hn := Xp h.len hp;have hf : Z9 Rec.free = 0 := Vh;have hn' := Xp (Q0 h hp hf x y).len hp;obtain ⟨⟨a0, a1⟩, b0, b1⟩ := Zba h hp hf x y;have kf : Rec.free.kind = 1 := rfl;have bd0 := Kp d (2 * (p : Int));have bd1 := Kp d (2 * (p : Int) + 1);have both : x = true → y = true → V7 (d.half p Rec.free x y) p ∧ (d.half p Rec.free x y).tell (p : Int) = Rec.free ∧ (d.half p Rec.free x y).how (p : Int) = 0 := fun hx hy => by
  have c0 : (Z8 (d.half p Rec.free x y) (2 * (p : Int))).kind = 1 := by rw [(a0 hx).1]; rfl
  have c1 : (Z8 (d.half p Rec.free x y) (2 * (p : Int) + 1)).kind = 1 := by rw [(b0 hy).1]; rfl
  obtain ⟨t, k, -⟩ := Vt hn' c0 c1;exact ⟨.inr (.inr ⟨c0, c1, by rw [(a0 hx).2, (b0 hy).2]; omega⟩), t, k (by rw [(a0 hx).2, (b0 hy).2]; omega)⟩
 have none' : (Z8 (d.half p Rec.free x y) (2 * (p : Int))).kind = 1 → (Z8 (d.half p Rec.free x y) (2 * (p : Int) + 1)).kind = 1 → Y8 (d.half p Rec.free x y) (2 * (p : Int)) + Y8 (d.half p Rec.free x y) (2 * (p : Int) + 1) ≤ 1 → V7 (d.half p Rec.free x y) p ∧ (d.half p Rec.free x y).tell (p : Int) = Rec.free := fun c0 c1 hb => ⟨.inr (.inr ⟨c0, c1, hb⟩), (Vt hn' c0 c1).1⟩
 have one' : ∀ r : Rec, r.kind ≠ 1 → (Z8 (d.half p Rec.free x y) (2 * (p : Int)) = r ∧ (Z8 (d.half p Rec.free x y) (2 * (p : Int) + 1)).kind = 1 ∨ Z8 (d.half p Rec.free x y) (2 * (p : Int) + 1) = r ∧ (Z8 (d.half p Rec.free x y) (2 * (p : Int))).kind = 1) → V7 (d.half p Rec.free x y) p ∧ (d.half p Rec.free x y).tell (p : Int) = r := fun r hr hh => ⟨.inr (.inl ⟨r, hr, hh⟩), (Vx hn' hr hh).2⟩
 refine (fun (k : V7 (d.half p Rec.free x y) p ∧ ((d.half p Rec.free x y).tell (p : Int) = d.tell (p : Int) ∨ (d.half p Rec.free x y).tell (p : Int) = Rec.free)) => ⟨k.1, k.2, fun hx hy => (both hx hy).2⟩) ?_;cases hx : x with
 | false =>
  cases hy : y with
  | false => rw [Zci d h]; exact ⟨h3, .inl rfl⟩
  | true =>
   subst hx; subst hy;rcases h3 with ⟨r, hr, h0, h1⟩ | ⟨r, hr, ⟨h0, h1⟩ | ⟨h1, h0⟩⟩ | ⟨h0, h1, hb⟩
   ·obtain ⟨t1, t2⟩ := one' r hr (.inl ⟨by rw [(a1 rfl).1]; exact h0, by rw [(b0 rfl).1]; rfl⟩);exact ⟨t1, .inl (by rw [t2, (Ky hn h0 h1 hr).2])⟩
   ·obtain ⟨t1, t2⟩ := one' r hr (.inl ⟨by rw [(a1 rfl).1]; exact h0, by rw [(b0 rfl).1]; rfl⟩);exact ⟨t1, .inl (by rw [t2, (Vx hn hr (.inl ⟨h0, h1⟩)).2])⟩
   ·obtain ⟨t1, t2⟩ := none' (by rw [(a1 rfl).1]; exact h0) (by rw [(b0 rfl).1]; rfl) (by rw [(a1 rfl).2, (b0 rfl).2]; omega);exact ⟨t1, .inr t2⟩
   ·obtain ⟨t1, t2⟩ := none' (by rw [(a1 rfl).1]; exact h0) (by rw [(b0 rfl).1]; rfl) (by rw [(a1 rfl).2, (b0 rfl).2]; omega);exact ⟨t1, .inr t2⟩
 | true =>
  cases hy : y with
  | true => subst hx; subst hy; exact ⟨(both rfl rfl).1, .inr (both rfl rfl).2.1⟩
  | false =>
   subst hx; subst hy;rcases h3 with ⟨r, hr, h0, h1⟩ | ⟨r, hr, ⟨h0, h1⟩ | ⟨h1, h0⟩⟩ | ⟨h0, h1, hb⟩
   ·obtain ⟨t1, t2⟩ := one' r hr (.inr ⟨by rw [(b1 rfl).1]; exact h1, by rw [(a0 rfl).1]; rfl⟩);exact ⟨t1, .inl (by rw [t2, (Ky hn h0 h1 hr).2])⟩
   ·obtain ⟨t1, t2⟩ := none' (by rw [(a0 rfl).1]; rfl) (by rw [(b1 rfl).1]; exact h1) (by rw [(a0 rfl).2, (b1 rfl).2]; omega);exact ⟨t1, .inr t2⟩
   ·obtain ⟨t1, t2⟩ := one' r hr (.inr ⟨by rw [(b1 rfl).1]; exact h1, by rw [(a0 rfl).1]; rfl⟩);exact ⟨t1, .inl (by rw [t2, (Vx hn hr (.inr ⟨h1, h0⟩)).2])⟩
   ·obtain ⟨t1, t2⟩ := none' (by rw [(a0 rfl).1]; rfl) (by rw [(b1 rfl).1]; exact h1) (by rw [(a0 rfl).2, (b1 rfl).2]; omega);exact ⟨t1, .inr t2⟩
end Go.Proofs.YtikhknkpndhakabGreat
