import Derived.Test.YtikhknkpndhakabGreatSBeg
import Derived.Test.YtikhknkpndhakabGreatSCpt
import Derived.Test.YtikhknkpndhakabGreatInv3
set_option maxHeartbeats 8000000
namespace Go.Proofs.YtikhknkpndhakabGreat
set_option maxRecDepth 100000
open Go.RowKit Go.Deep
open Plain Reg
theorem Zs4 (S : Nat → Prop) (n : Nat) (s : St) (d : Dd) (v : Value) (ad : Option Addr) (c : Nat) (w : World) (hS : ∀ b, S b → b < w.heap.size) (hs : Z2 S s v w) (hd : Zz S w (.slice ad d.data.length c) d.data) (hO : s.Ok n) (hn : n ≤ 900) (hdl : d.data.length ≤ 140737488355328) :
  Calls Tryz.prog 16 #[v, .agg #[.int .i64 d.kind, .int .i64 d.key, .int .i64 d.num, .slice ad d.data.length c]] w fun r w' => ∃ v', r = .returned (.tuple #[v', .int .i64 (s.doS d).n, .int .i64 (s.doS d).e]) ∧ Z2 (Zw S w.heap.size) (s.doS d).st v' w' ∧ Zo w w' := by
 obtain ⟨ab, cb, al, cl, ai, ci, rfl, -, -, -⟩ := hs.form;have g0 := (Zr w (.cells #[.slice ab s.dk.blocks.length cb, .slice al s.dk.late.length cl, .slice ai s.idx.length ci, .int .i64 s.next] 33) (.cells #[.int .i64 d.kind, .int .i64 d.key, .int .i64 d.num, .slice ad d.data.length c] 25)).trans (Zb _ Xj);have hs0 := Zk w #[.slice ab s.dk.blocks.length cb, .slice al s.dk.late.length cl, .slice ai s.idx.length ci, .int .i64 s.next] 33;have hd0 := Zk (w.alloc (.cells #[.slice ab s.dk.blocks.length cb, .slice al s.dk.late.length cl, .slice ai s.idx.length ci, .int .i64 s.next] 33)) #[.int .i64 d.kind, .int .i64 d.key, .int .i64 d.num, .slice ad d.data.length c] 25;have hz0 := Zk ((w.alloc (.cells #[.slice ab s.dk.blocks.length cb, .slice al s.dk.late.length cl, .slice ai s.idx.length ci, .int .i64 s.next] 33)).alloc (.cells #[.int .i64 d.kind, .int .i64 d.key, .int .i64 d.num, .slice ad d.data.length c] 25)) #[.slice none 0 0, .slice none 0 0, .slice none 0 0, .int .i64 0] 33;have hs1 := ((Zr (w.alloc (.cells #[.slice ab s.dk.blocks.length cb, .slice al s.dk.late.length cl, .slice ai s.idx.length ci, .int .i64 s.next] 33)) (.cells #[.int .i64 d.kind, .int .i64 d.key, .int .i64 d.num, .slice ad d.data.length c] 25) Xj).block _ (Za hs0)).trans hs0
 have hd1 := ((Zb ((w.alloc (.cells #[.slice ab s.dk.blocks.length cb, .slice al s.dk.late.length cl, .slice ai s.idx.length ci, .int .i64 s.next] 33)).alloc (.cells #[.int .i64 d.kind, .int .i64 d.key, .int .i64 d.num, .slice ad d.data.length c] 25)) Xj).block _ (Za hd0)).trans hd0;rw [World.size_alloc] at hd1;rw [World.size_alloc, World.size_alloc] at hz0;clear hs0 hd0;obtain ⟨B, hB⟩ : ∃ B, B = s.begin d := ⟨_, rfl⟩;obtain ⟨R, hR⟩ : ∃ R, R = s.doS d := ⟨_, rfl⟩;rw [← hR];have HR : Hid (R = if B.e = 0 then ⟨⟨B.st.dk.flush, B.st.idx, B.st.next⟩, B.n, 0⟩ else B) := by show R = _; rw [hR, hB]; rfl
 have HOB : Hid (B.st.Ok (n + 2)) := by rw [hB]; exact Zaw hO
 have HB : Hid _ := hB;clear hR hB;go_enter Tryz.func16, Tryz.ntmps16;obtain ⟨d0, d1, d2, d3⟩ := Ye hd1 rfl rfl rfl rfl;obtain ⟨s0, s1, s2, s3⟩ := Ye hs1 rfl rfl rfl rfl;go_wp2_with fail;obtain ⟨W, hW⟩ : ∃ W, W = ((w.alloc (.cells #[.slice ab s.dk.blocks.length cb, .slice al s.dk.late.length cl, .slice ai s.idx.length ci, .int .i64 s.next] 33)).alloc (.cells #[.int .i64 d.kind, .int .i64 d.key, .int .i64 d.num, .slice ad d.data.length c] 25)).alloc Xj := ⟨_, rfl⟩;rw [← hW] at g0 hs1 hd1 hz0 d0 d1 d2 d3 s0 s1 s2 s3 ⊢;clear hW;have HWZ : Hid (w.heap.size + 2 < W.heap.size) := Za hz0;refine (Zf2 S n s d _ ad c W (fun b h => Nat.lt_of_lt_of_le (hS b h) g0.size) (hs.grow g0) (hd.grow g0) hO hn hdl).mono ?_;rw [← HB.out];rintro r w1 ⟨v1, rfl, h1, g1⟩;obtain ⟨b1, e1, l1, m1, i1, j1, hv, k1, k2, k3⟩ := h1.capd.form;subst hv;have g2 := Zb w1 (.cells #[.slice b1 B.st.dk.blocks.length e1, .slice l1 B.st.dk.late.length m1, .slice i1 B.st.idx.length j1, .int .i64 B.st.next] 33);have hX := Zk w1 #[.slice b1 B.st.dk.blocks.length e1, .slice l1 B.st.dk.late.length m1, .slice i1 B.st.idx.length j1, .int .i64 B.st.next] 33;have hz3 := ((g1.trans g2).block _ (Za hz0)).trans hz0;have gw3 := (g0.trans g1).trans g2;have u1 := k1.grow g2;have u2 := k2.grow g2;have u3 := k3.grow g2;have HG : Hid (w.heap.size + 2 < w1.heap.size) := Nat.lt_of_lt_of_le HWZ.out g1.size;clear hs1 hd1 hz0 g0 g1 g2 d0 d1 d2 d3 s0 s1 s2 s3 h1 hs k1 k2 k3;obtain ⟨x0, x1, x2, x3⟩ := Ye hX rfl rfl rfl rfl
 have HSG : Hid (∀ b, S b → b < w1.heap.size) := fun b h => by have := hS b h; have := HG.out; omega
 by_cases he : B.e = 0
 ·have dE : (B.e == 0) = true := by simp [he]
  obtain ⟨FD, hFD⟩ : ∃ FD, FD = B.st.dk.flush := ⟨_, rfl⟩;obtain rfl : R = ⟨⟨FD, B.st.idx, B.st.next⟩, B.n, 0⟩ := by rw [HR.out, if_pos he, hFD]
  have HFD : Hid _ := hFD;have HE0 : Hid (B.e = 0) := he;clear HR he hFD;go_wp2_with fail;clear dE;have cs := Zx;obtain ⟨W3, hW3⟩ : ∃ W3, W3 = w1.alloc (.cells #[.slice b1 B.st.dk.blocks.length e1, .slice l1 B.st.dk.late.length m1, .slice i1 B.st.idx.length j1, .int .i64 B.st.next] 33) := ⟨_, rfl⟩;rw [← hW3] at hX hz3 gw3 u1 u2 u3 x0 x1 x2 x3 ⊢;clear hW3;obtain ⟨G, hG⟩ : ∃ G, G = w1.heap.size := ⟨_, rfl⟩;rw [← hG] at hX HG HSG u1 u2 u3 x0 x1 x2 x3 ⊢;clear hG;have HW3 : Hid (G < W3.heap.size) := Za hX;have HFF : Hid _ := HOB.out.disk;refine (Znx B.st.dk _ _ W3 u1.p u2.p (by rw [HFF.out.len]; omega) (by rw [HFF.out.len]; omega) (by have := HFF.out.few; omega) HFF.out.b16 HFF.out.l16 HFF.out.pl).mono ?_;rw [← HFD.out];rintro r w4 ⟨v4, rfl, hQ, g4⟩;have h4 := hQ.s S;obtain ⟨b4, e4, l4, m4, rfl, h4b, h4l⟩ := h4.form;have hs4 := (g4.block _ (Za hX)).trans hX;have hz4 := (g4.block _ (Za hz3)).trans hz3;have gw4 := gw3.trans g4;have u34 := u3.grow g4;clear x0 x1 x2 x3 hX hz3 gw3 g4 u1 u2 u3 h4 hQ;have hns3 : ¬ Zw S W3.heap.size G := Yp HSG.out HW3.out;have hnz3 : ¬ Zw S W3.heap.size (w.heap.size + 2) := Yp (fun b h => by have := hS b h; omega) (by have := HG.out; have := HW3.out; omega);have hnz1 : ¬ (Zw S W.heap.size (w.heap.size + 2) ∧ w.heap.size + 2 < G) := fun h => Yp (fun b h => by have := hS b h; omega) HWZ.out h.1
  obtain ⟨ht1, ht2⟩ := Zcn hs4 (.slice b4 FD.blocks.length e4) (.slice l4 FD.late.length m4);have hz5 := (ht2.block _ (Za hz4) (by have := HG.out; omega)).trans hz4;have gw5 := ht2.grow gw4 (by have := HG.out; omega);have p1 := h4b.but ht2 hns3;have p2 := h4l.but ht2 hns3;have p3 := u34.but ht2 (fun h => Nat.lt_irrefl _ h.2);obtain ⟨y0, y1, y2, y3⟩ := Ye hs4 rfl rfl rfl rfl;have f0 := Zn hs4 0;have f1 := Zn hs4 1;obtain ⟨t0, t1, t2, t3⟩ := Ye ht1 rfl rfl rfl rfl;obtain ⟨hq1, hq2⟩ := Yo hz5 (.slice b4 FD.blocks.length e4) (.slice l4 FD.late.length m4) (.slice i1 B.st.idx.length j1) (.int .i64 B.st.next);obtain ⟨z0, z1, z2, z3⟩ := Ye hz5 rfl rfl rfl rfl;obtain ⟨o0, o1, o2, o3⟩ := Yu hz5;obtain ⟨x0, x1, x2, x3⟩ := Ye hq1 rfl rfl rfl rfl;have gE := hq2.grow gw5 (by omega);have hE : Z2 (Zw S w.heap.size) ⟨FD, B.st.idx, B.st.next⟩ (.agg #[.slice b4 FD.blocks.length e4, .slice l4 FD.late.length m4, .slice i1 B.st.idx.length j1, .int .i64 B.st.next]) _ := ⟨_, _, _, rfl, (p1.but hq2 hnz3).mono (Z6 (by have := HG.out; have := HW3.out; omega)), (p2.but hq2 hnz3).mono (Z6 (by have := HG.out; have := HW3.out; omega)), (p3.but hq2 hnz1).mono (fun b h => Z6 (by have := HWZ.out; omega) b h.1)⟩;clear hq1 hq2 hz5 gw5 p1 p2 p3 ht1 ht2 hs4 hz4 gw4 h4b h4l u34;go_wp2_with fail
  exact bodyPost_ret (v := .tuple #[.agg #[.slice b4 FD.blocks.length e4, .slice l4 FD.late.length m4, .slice i1 B.st.idx.length j1, .int .i64 B.st.next], .int .i64 B.n, .int .i64 B.e]) (by simp [results, Tryz.results16, go_sem, x0, x1, x2, x3]) rfl ⟨_, by rw [HE0.out], hE, gE⟩
 ·have dE : (B.e == 0) = false := by simp [he]
  have cs := Zx;obtain rfl : R = B := by rw [HR.out, if_neg he]
  clear HR he HB;have hnz : ¬ (Zw S W.heap.size (w.heap.size + 2) ∧ w.heap.size + 2 < w1.heap.size) := fun h => Yp (fun b h => by have := hS b h; omega) HWZ.out h.1
  obtain ⟨hq1, hq2⟩ := Yo hz3 (.slice b1 R.st.dk.blocks.length e1) (.slice l1 R.st.dk.late.length m1) (.slice i1 R.st.idx.length j1) (.int .i64 R.st.next);obtain ⟨z0, z1, z2, z3⟩ := Ye hz3 rfl rfl rfl rfl;obtain ⟨o0, o1, o2, o3⟩ := Yu hz3;obtain ⟨t0, t1, t2, t3⟩ := Ye hq1 rfl rfl rfl rfl;have gE := hq2.grow gw3 (by omega);have hE : Z2 (Zw S w.heap.size) R.st (.agg #[.slice b1 R.st.dk.blocks.length e1, .slice l1 R.st.dk.late.length m1, .slice i1 R.st.idx.length j1, .int .i64 R.st.next]) _ := ⟨_, _, _, rfl, (u1.but hq2 hnz).mono (fun b h => Z6 (by have := HWZ.out; omega) b h.1), (u2.but hq2 hnz).mono (fun b h => Z6 (by have := HWZ.out; omega) b h.1), (u3.but hq2 hnz).mono (fun b h => Z6 (by have := HWZ.out; omega) b h.1)⟩;clear hq1 hq2 hz3 gw3 u1 u2 u3 hX;go_wp2_with fail;exact bodyPost_ret (v := .tuple #[.agg #[.slice b1 R.st.dk.blocks.length e1, .slice l1 R.st.dk.late.length m1, .slice i1 R.st.idx.length j1, .int .i64 R.st.next], .int .i64 R.n, .int .i64 R.e]) (by simp [results, Tryz.results16, go_sem, t0, t1, t2, t3]) rfl ⟨_, rfl, hE, gE⟩
theorem Zpy {r : Rec} (h : Z9 r = 0) (hk : r.kind ≠ 1) : 1 ≤ r.key ∧ r.key ≤ 255 := by
 obtain ⟨h1, h2, h3, -⟩ := (Zfb r).1 h;unfold Xl at h3;simp [hk] at h3;omega
def Zrv (l : List Rec) (fr : Int) (r : Rec) : Bool := decide (fr ≤ r.key ∧ (Jb l r.key).e = 0)
def Qe (l : List Rec) (fr : Int) (k : Nat) : List Int := ((l.take k).filter (Zrv l fr)).map Rec.key
theorem Zlc (l : List Rec) (fr : Int) {k : Nat} (hk : k < l.length) : Qe l fr (k + 1) = if fr ≤ l[k].key ∧ (Jb l l[k].key).e = 0 then Qe l fr k ++ [l[k].key] else Qe l fr k := by
 unfold Qe;rw [List.take_succ_eq_append_getElem hk, List.filter_append, List.map_append];by_cases h : fr ≤ l[k].key ∧ (Jb l l[k].key).e = 0
 ·rw [if_pos h, List.filter_cons_of_pos (by exact decide_eq_true h)]; rfl
 ·rw [if_neg h, List.filter_cons_of_neg (by show ¬ Zrv l fr l[k] = true; unfold Zrv; rw [decide_eq_true_eq]; exact h)]; simp
theorem Zgi (l : List Rec) (fr : Int) (k : Nat) : (Qe l fr k).length ≤ l.length := by
 unfold Qe;rw [List.length_map];exact Nat.le_trans (List.length_filter_le _ _) (by rw [List.length_take]; omega)
theorem Zqu {s : St} (h : Qg s.idx = true) (fr : Int) (k : Nat) : (Qe s.recs fr k).Pairwise (· ≤ ·) := by
 have h1 := ((Xe s.idx).1 h).1;have h2 : s.recs.Pairwise (fun a b => a.key ≤ b.key) := by
  unfold St.recs;rw [List.pairwise_map];refine h1.imp ?_;rintro a b ⟨hl, -⟩;unfold Yy at hl;by_cases e : a.rc.key = b.rc.key
  ·omega
  ·rw [if_neg e, decide_eq_true_eq] at hl; omega
 unfold Qe;rw [List.pairwise_map];exact (h2.sublist (List.take_sublist _ _)).sublist List.filter_sublist
theorem Zto : ∀ (a b : List Int), a.Pairwise (· < ·) → b.Pairwise (· < ·) → (∀ x, x ∈ a ↔ x ∈ b) → a = b
 | [], [], _, _, _ => rfl
 | [], y :: b, _, _, h => absurd ((h y).2 (by simp)) (by simp)
 | x :: a, [], _, _, h => absurd ((h x).1 (by simp)) (by simp)
 | x :: a, y :: b, ha, hb, h => by
  obtain ⟨ha1, ha2⟩ := List.pairwise_cons.1 ha;obtain ⟨hb1, hb2⟩ := List.pairwise_cons.1 hb;have hxy : x = y := by
   rcases List.mem_cons.1 ((h x).1 (by simp)) with h1 | h1
   ·exact h1
   ·rcases List.mem_cons.1 ((h y).2 (by simp)) with h2 | h2
    ·exact h2.symm
    ·have := ha1 y h2; have := hb1 x h1; omega
  subst hxy;rw [Zto a b ha2 hb2 fun z => ?_];constructor
  ·intro hz;rcases List.mem_cons.1 ((h z).1 (by simp [hz])) with rfl | h2
   ·have := ha1 z hz; omega
   ·exact h2
  ·intro hz;rcases List.mem_cons.1 ((h z).2 (by simp [hz])) with rfl | h2
   ·have := hb1 z hz; omega
   ·exact h2
theorem Zif (l : List Rec) (x : Int) (h0 : 1 ≤ x) (he : (Jb l x).e = 0) : ∀ k : Nat, x ≤ (k : Int) → x ∈ Zbi l k
 | 0, h => by omega
 | k + 1, h => by
  unfold Zbi;by_cases e : x = (k : Int) + 1
  ·subst e; rw [if_pos he]; simp
  ·have := Zif l x h0 he k (by omega);split
   ·exact List.mem_append_left _ this
   ·exact this
theorem Zqt {l : List Rec} (hr : ∀ r ∈ l, 1 ≤ r.key ∧ r.key ≤ 255) {fr : Int} {ds : List Int} (hu : ds.Pairwise (· < ·)) (hm : ∀ x, x ∈ ds ↔ x ∈ Qe l fr l.length) : ds = (Zbi l 255).filter fun x => decide (fr ≤ x) := by
 obtain ⟨h1, h2⟩ := Zla l 255;refine Zto _ _ hu (h2.sublist List.filter_sublist) fun x => ?_;rw [hm, List.mem_filter, decide_eq_true_eq];unfold Qe;rw [List.take_length, List.mem_map];constructor
 ·rintro ⟨r, h, rfl⟩;obtain ⟨h3, h4⟩ := List.mem_filter.1 h;have h5 := of_decide_eq_true h4;have := hr r h3;exact ⟨Zif l _ this.1 h5.2 255 (by have := this.2; omega), h5.1⟩
 ·rintro ⟨h3, h4⟩;have h5 := (h1 x h3).2.2;rcases Zo5 x l ⟨0, 6, []⟩ h5 with h6 | ⟨r, h6, rfl⟩
  ·cases h6
  ·exact ⟨r, List.mem_filter.2 ⟨h6, decide_eq_true ⟨h4, h5⟩⟩, rfl⟩
theorem Zge (l : List Rec) (fr most : Int) (h : most < 0) : ∀ k, Vq l fr most k = []
 | 0 => rfl
 | k + 1 => by
  unfold Vq;rw [Zge l fr most h k, if_neg (fun h3 => by have := h3.2.2; simp at this; omega)]
def Zcz (most : Int) (n : Nat) : Nat := min most.toNat n
theorem Zqo {l : List Rec} (hr : ∀ r ∈ l, 1 ≤ r.key ∧ r.key ≤ 255) {fr most : Int} {ds : List Int} (hu : ds.Pairwise (· < ·)) (hm : ∀ x, x ∈ ds ↔ x ∈ Qe l fr l.length) : ds.take (Zcz most ds.length) = Vq l fr most 255 := by
 unfold Zcz;by_cases h : most < 0
 ·rw [Zge l fr most h, show most.toNat = 0 by omega]; simp
 ·rw [Zie l fr most (by omega), ← Zqt hr hu hm, ← List.take_eq_take_min]
theorem Zs6 {w : World} {B n cap : Nat} {T : TypeId} {ao : Option Addr} {xs : List Value} (h : w.ownsRow B T 1 (.slice ao n cap) n xs) {m : Nat} (hm : m ≤ n) : w.ownsRow B T 1 (.slice ao m cap) m (xs.take m) := by
 have hl := h.1;refine ⟨by rw [List.length_take]; omega, ?_⟩;rcases h.2 with ⟨e, h0⟩ | ⟨q, cap', cur, e, hb, hh, hnc, hcm, hsz, ht⟩
 ·cases e; exact .inl ⟨by rw [show m = 0 by omega], by omega⟩
 ·cases e;refine .inr ⟨q, cap, cur, rfl, hb, hh, by omega, hcm, hsz, ?_⟩;rw [← ht, List.take_take, Nat.min_eq_left (by omega), Nat.mul_one]
theorem Zp5 (S : Nat → Prop) (s : St) (fr most : Int) (v : Value) (w : World) (hs : Z2 S s v w) (hri : Qg s.idx = true) (h6 : s.idx.length ≤ 6) :
  Calls Tryz.prog 21 #[v, .int .i64 fr, .int .i64 most] w fun r w' => ∃ v', r = .returned v' ∧ w'.ownsRow w.heap.size 3 1 v' (Vq s.recs fr most 255).length ((Vq s.recs fr most 255).map (Value.int .i64)) ∧ Zo w w' := by
 obtain ⟨i0, hif, hz0, hz1, hz2⟩ := info_parts Zii;have HS : Hid _ := hs;obtain ⟨ab, cb, al, cl, ai, ci, rfl, -, -, hi⟩ := hs.form;have g0 := Zb w (.cells #[.slice ab s.dk.blocks.length cb, .slice al s.dk.late.length cl, .slice ai s.idx.length ci, .int .i64 s.next] 33);have hx := Zk w #[.slice ab s.dk.blocks.length cb, .slice al s.dk.late.length cl, .slice ai s.idx.length ci, .int .i64 s.next] 33;have s2 := Zd hx 2 _ rfl;have hln : s.recs.length = s.idx.length := List.length_map ..;have HLN : Hid _ := hln;have HBD : Hid (∀ r ∈ s.recs, 1 ≤ r.key ∧ r.key ≤ 255) := fun r hr => by
  obtain ⟨x, hx, rfl⟩ := List.mem_map.1 hr;have h1 := ((Xe s.idx).1 hri).2 x hx;exact Zpy h1.1 h1.2.1
 clear hs hln;obtain ⟨L, hL⟩ : ∃ L, L = Vq s.recs fr most 255 := ⟨_, rfl⟩;rw [← hL];have HL : Hid _ := hL;clear hL;go_enter Tryz.func21, Tryz.ntmps21;go_wp2_with fail;generalize World.alloc w _ = W at *;clear s2;go_loopw [7, 16] (fun o i wr => ∃ k : Nat, k ≤ s.idx.length ∧ i = .int .i64 (k : Int) ∧ wr.ownsRow (w.heap.size + 1) 3 1 o (Qe s.recs fr k).length ((Qe s.recs fr k).map (Value.int .i64)) ∧ Zo w wr ∧ wr.heap[w.heap.size]? = some (.cells #[.slice ab s.dk.blocks.length cb, .slice al s.dk.late.length cl, .slice ai s.idx.length ci, .int .i64 s.next] 33 (0, 0))) (fun _ i _ => s.idx.length - (intOf i).toNat)
 case atStart => exact ⟨0, Nat.zero_le _, rfl, World.ownsRow_nil _ _ _ _, g0, hx⟩
 case round =>
  clear g0 hx;obtain ⟨k, hk, rfl, hR, hg, hx⟩ := hrel;by_cases hlt : k < s.idx.length
  ·obtain ⟨b, off, a1, c1, hv1, q0, q1, q2, q3, q4, hu⟩ := Ko (hi.grow hg) k hlt;cases hv1;have hrk : k < s.recs.length := by rw [HLN.out]; exact hlt
   have HK : Hid (Qe s.recs fr (k + 1) = if fr ≤ s.idx[k].rc.key ∧ (Jb s.recs s.idx[k].rc.key).e = 0 then Qe s.recs fr k ++ [s.idx[k].rc.key] else Qe s.recs fr k) := by
    have := Zlc s.recs fr hrk;rw [show s.recs[k] = s.idx[k].rc by simp [St.recs]] at this;exact this
   have hxl : (Qe s.recs fr k).length ≤ 6 := Nat.le_trans (Zgi _ _ _) (by rw [HLN.out]; exact h6);generalize s.idx[k] = x at *;generalize Qe s.recs fr k = xs at *;obtain ⟨a0, c0, rfl⟩ := Yg hR;have g1 := Zb wr (.cells #[.int .i64 x.rc.kind, .int .i64 x.rc.key, .int .i64 x.rc.ver, .slice a1 x.rc.data.length c1, .int .i64 x.pair] 54);have hX1 := Zk wr #[.int .i64 x.rc.kind, .int .i64 x.rc.key, .int .i64 x.rc.ver, .slice a1 x.rc.data.length c1, .int .i64 x.pair] 54;have hR1 := Yd hR g1;have gw1 := hg.trans g1;have hx1 := (g1.block _ (Za hx)).trans hx;clear hu hR hg hx g1;have x1 := Zd hX1 1 _ rfl;obtain ⟨s0, s1, s2, s3⟩ := Ye hx1 rfl rfl rfl rfl;clear hX1;obtain ⟨G, hG⟩ : ∃ G, G = Jb s.recs x.rc.key := ⟨_, rfl⟩;rw [← hG] at HK;have HG : Hid _ := hG;clear hG;go_wp2_with fail;refine (Zia S s x.rc.key _ _ (Z2.grow HS.out gw1) hri h6).mono ?_;rw [← HG.out];rintro r w2 ⟨u2, rfl, hu2, g2⟩;obtain ⟨a2, c2, rfl⟩ := hu2.form;have hR3 := Yd hR1 g2;have gw3 := gw1.trans g2;have hs3 := (g2.block _ (Za hx1)).trans hx1;clear hu2 hR1 gw1 hx1 g2 q0 q1 q2 q3 q4 x1 s0 s1 s2 s3 HG;by_cases hf : fr ≤ x.rc.key
   ·by_cases he : G.e = 0
    ·have dE : (G.e == 0) = true := by simp [he]
     have HK2 : Hid (Qe s.recs fr (k + 1) = xs ++ [x.rc.key]) := by show _ = _; rw [HK.out, if_pos ⟨hf, he⟩]
     have HSZ : Hid (w.heap.size + 1 ≤ w2.heap.size) := Za hs3;have hnew : ∀ (t : Nat) u, ([.int .i64 x.rc.key] : List Value)[t]? = some u → (w2.alloc (.cells #[.int .i64 x.rc.key] 3)).cell? ((⟨w2.heap.size, 0, none⟩ : Addr).add t) = some u := by
      intro t u ht
      match t, ht with
      | 0, ht => simp at ht; subst ht; simp [Addr.add]
      | t + 1, ht => simp at ht
     clear HK he;go_wp2_with (at_builtin; refine wpList_append_own _ rfl (.tmp 36) (.tmp 38) 36 rfl (w.heap.size + 1) 3 i0 (.int .i64 0) 1 8 Tryz.underlying36 hif hz0 hz1 hz2 rfl (by decide) (.slice a0 xs.length c0) _ _ rfl (hR3.alloc _) ⟨w2.heap.size, 0, none⟩ 1 1 [.int .i64 x.rc.key] rfl rfl hnew (by intro u hu; simp at hu; subst hu; rfl) (by unfold maxLen; omega) (by omega) (by have := HSZ.out; simp; omega) ?_; intro v4 w4 hown4 hgrow4 _; have g6 : Zo w w4 := Z7 (gw3.trans (Zb _ _)) hgrow4 (fun k hk => by have := (hR3.lt k hk).1; omega); have hs6 := (Qp hR3 hgrow4 (Jh hR3 (by omega)) (Za hs3)).trans hs3; have hR6 : w4.ownsRow (w.heap.size + 1) 3 1 v4 (xs ++ [x.rc.key]).length ((xs ++ [x.rc.key]).map (Value.int .i64)) := (by rw [List.length_append, List.map_append]; exact hown4); have hsl := Yg hown4; obtain ⟨a4, c4, hv4⟩ := hsl; subst hv4; clear hgrow4 hown4 hR3 hnew gw3 hs3);go_roundw
     case rel => exact ⟨k + 1, by omega, by go_num, by rw [HK2.out]; exact hR6, g6, hs6⟩
     case measure => simp [intOf]; omega
    ·have dE : (G.e == 0) = false := by simp [he]
     have HK2 : Hid (Qe s.recs fr (k + 1) = xs) := by show _ = _; rw [HK.out, if_neg (fun h => he h.2)]
     clear HK he;go_wp2_with fail;go_roundw
     case rel => exact ⟨k + 1, by omega, by go_num, by rw [HK2.out]; exact hR3, gw3, hs3⟩
     case measure => simp [intOf]; omega
   ·have HK2 : Hid (Qe s.recs fr (k + 1) = xs) := by show _ = _; rw [HK.out, if_neg (fun h => hf h.1)]
    have df : ¬ (x.rc.key ≥ fr) := hf;clear HK;go_wp2_with fail;go_roundw
    case rel => exact ⟨k + 1, by omega, by go_num, by rw [HK2.out]; exact hR3, gw3, hs3⟩
    case measure => simp [intOf]; omega
  ·have HKL : Hid (Qe s.recs fr k = Qe s.recs fr s.recs.length) := by show _ = _; rw [HLN.out, show k = s.idx.length by omega]
   rw [HKL.out] at hR;have hup := Zqu hri fr s.recs.length;have hxl : (Qe s.recs fr s.recs.length).length ≤ 6 := Nat.le_trans (Zgi _ _ _) (by rw [HLN.out]; exact h6);have HLT : Hid (∀ ds : List Int, ds.Pairwise (· < ·) → (∀ x, x ∈ ds ↔ x ∈ Qe s.recs fr s.recs.length) → ds.take (Zcz most ds.length) = L) := fun ds h1 h2 => by rw [HL.out]; exact Zqo HBD.out h1 h2
   generalize Qe s.recs fr s.recs.length = xs at *;clear HL;obtain ⟨a0, c0, rfl⟩ := Yg hR;clear hx hi HKL;go_wp2_with fail;refine (Zpp xs a0 c0 wr hxl hup (Zs8 hR)).mono ?_;rintro r w1 ⟨rfl, g1⟩;have hR1 := Yd hR g1;have gw1 := hg.trans g1;clear hR hg g1;go_wp2_with fail;refine (Zlx (w.heap.size + 1) w xs a0 c0 w1 (by omega) hup (by omega) gw1 hR1).mono ?_;rintro r w2 ⟨v2, ds, rfl, hR2, hu2, hm2, gE⟩;obtain ⟨a2, c2, rfl⟩ := Yg hR2;have HE : Hid _ := HLT.out ds hu2 hm2;have hcap : ds.length ≤ c2 := by
    rcases hR2.2 with ⟨e, h0⟩ | ⟨q, cap', cur, e, hb, hh, hnc, hcm, _⟩
    ·injection e with _ e1 e2; omega
    ·injection e with _ _ e2; omega
   have HR3 : Hid (∀ m, m ≤ ds.length → w2.ownsRow w.heap.size 3 1 (.slice a2 m c2) m ((ds.map (Value.int .i64)).take m)) := fun m hm => Yi (Zs6 hR2 hm) (Nat.le_succ w.heap.size)
   clear hR1 gw1 hR2 hu2 hm2 HLT hup hxl;have HMO : Hid (Zcz most ds.length = min most.toNat ds.length) := rfl;have hml : Zcz most ds.length ≤ ds.length := by unfold Zcz; omega
   generalize Zcz most ds.length = M at *;have HF : Hid (∀ m, m = M → w2.ownsRow w.heap.size 3 1 (.slice a2 m c2) L.length (L.map (Value.int .i64))) := by
    rintro m rfl;rw [← HE.out, List.length_take, Nat.min_eq_left hml, List.map_take];exact HR3.out _ hml
   clear HR3 HE hml;by_cases h0 : most ≤ 0
   ·go_wp2_with fail;all_goals
     go_ret;exact ⟨_, rfl, HF.out _ (by have := HMO.out; omega), gE⟩
   ·by_cases h1 : most ≤ (ds.length : Int)
    ·obtain ⟨t, rfl⟩ : ∃ t : Nat, most = (t : Int) := ⟨most.toNat, by omega⟩;go_wp2_with fail;all_goals
      go_ret;exact ⟨_, rfl, HF.out _ (by have := HMO.out; omega), gE⟩
    ·go_wp2_with fail;all_goals
      go_ret;exact ⟨_, rfl, HF.out _ (by have := HMO.out; omega), gE⟩
end Go.Proofs.YtikhknkpndhakabGreat
