import Derived.Test.YtikhknkpndhakabGreatRDo
set_option maxHeartbeats 8000000
namespace Go.Proofs.YtikhknkpndhakabGreat
set_option maxRecDepth 100000
open Go.RowKit
open Plain Reg
structure St where
 dk : Dk
 idx : List Ent
 next : Int
def St.same (a b : St) : Bool := a.dk.same b.dk && K0 a.idx b.idx && decide (a.next = b.next)
theorem St.same_iff (a b : St) : a.same b = true ↔ a = b := by
 obtain ⟨d, l, n⟩ := a;obtain ⟨d', l', n'⟩ := b;unfold St.same;simp only [Bool.and_eq_true, Dk.same_iff, Zbp, decide_eq_true_eq, St.mk.injEq, and_assoc]
theorem St.same_refl (a : St) : a.same a = true := (St.same_iff a a).2 rfl
def St.recs (s : St) : List Rec := s.idx.map Ent.rc
def Qe (d : Dk) : St := ⟨d.keep 0, Yi (d.keep 0) 6, 0⟩
def X3 : St := Qe Dk.new
def Z4 (S : Nat → Prop) (s : St) (v : Value) (w : World) : Prop := ∃ vb vl vi, v = .agg #[vb, vl, vi, .int .i64 s.next] ∧ Yy S w vb s.dk.blocks ∧ Xg S w vl s.dk.late ∧ Ys S w vi s.idx
theorem Z4.grow {S : Nat → Prop} {s : St} {v : Value} {w w' : World} (h : Z4 S s v w) (hg : Zp w w') : Z4 S s v w' := by
 obtain ⟨vb, vl, vi, h1, h2, h3, h4⟩ := h; exact ⟨vb, vl, vi, h1, h2.grow hg, h3.grow hg, h4.grow hg⟩
theorem Z4.mono {S S' : Nat → Prop} {s : St} {v : Value} {w : World} (h : Z4 S s v w) (hS : ∀ b, S b → S' b) : Z4 S' s v w := by
 obtain ⟨vb, vl, vi, h1, h2, h3, h4⟩ := h; exact ⟨vb, vl, vi, h1, h2.mono hS, h3.mono hS, h4.mono hS⟩
theorem Z4.but {S : Nat → Prop} {g : Nat} {s : St} {v : Value} {w w' : World} (h : Z4 S s v w) (hg : Zu g w w') (hn : ¬ S g) : Z4 S s v w' := by
 obtain ⟨vb, vl, vi, h1, h2, h3, h4⟩ := h; exact ⟨vb, vl, vi, h1, h2.but hg hn, h3.but hg hn, h4.but hg hn⟩
theorem Z4.form {S : Nat → Prop} {s : St} {v : Value} {w : World} (h : Z4 S s v w) : ∃ ab cb al cl ai ci, v = .agg #[.slice ab s.dk.blocks.length cb, .slice al s.dk.late.length cl, .slice ai s.idx.length ci, .int .i64 s.next] ∧ Yy S w (.slice ab s.dk.blocks.length cb) s.dk.blocks ∧ Xg S w (.slice al s.dk.late.length cl) s.dk.late ∧ Ys S w (.slice ai s.idx.length ci) s.idx := by
 obtain ⟨vb, vl, vi, h1, h2, h3, h4⟩ := h;obtain ⟨ab, cb, rfl⟩ := h2.p.form;obtain ⟨al, cl, rfl⟩ := h3.p.form;obtain ⟨ai, ci, rfl⟩ := h4.form;exact ⟨ab, cb, al, cl, ai, ci, h1, h2, h3, h4⟩
theorem Ziy {S : Nat → Prop} {B B' : Nat} (h : B ≤ B') : ∀ b, Zx (Zx S B) B' b → Zx S B b := fun _ hb => hb.elim (fun x => x) (fun x => .inr (Nat.le_trans h x))
theorem Yy.capd {S : Nat → Prop} {w : World} {v : Value} {bs : List (List UInt8)} (h : Yy S w v bs) : Yy (fun b => S b ∧ b < w.heap.size) w v bs := by
 by_cases h0 : bs = []
 ·subst h0;rcases h with h | ⟨b, off, cap, hS, rfl, h1, hc⟩
  ·exact .inl h
  ·exact .inl ⟨_, cap, rfl, rfl, fun h => by cases h⟩
 ·rcases h with ⟨_, _, _, h1, _⟩ | ⟨b, off, cap, hS, h2, h1, hc⟩
  ·exact absurd h1 h0
  ·obtain ⟨u, k1, _⟩ := hc 0 (List.length_pos_iff.2 h0);exact .inr ⟨b, off, cap, ⟨hS, Zt k1⟩, h2, h1, fun i hi => (hc i hi).imp fun _ x => ⟨x.1, x.2.caps⟩⟩
theorem Xg.capd {S : Nat → Prop} {w : World} {v : Value} {ws : List Wr} (h : Xg S w v ws) : Xg (fun b => S b ∧ b < w.heap.size) w v ws := by
 by_cases h0 : ws = []
 ·subst h0;rcases h with h | ⟨b, off, cap, hS, rfl, h1, hc⟩
  ·exact .inl h
  ·exact .inl ⟨_, cap, rfl, rfl, fun h => by cases h⟩
 ·rcases h with ⟨_, _, _, h1, _⟩ | ⟨b, off, cap, hS, h2, h1, hc⟩
  ·exact absurd h1 h0
  ·obtain ⟨k1, _⟩ := hc 0 (List.length_pos_iff.2 h0);exact .inr ⟨b, off, cap, ⟨hS, Zt k1⟩, h2, h1, fun i hi => ⟨(hc i hi).1, (hc i hi).2.imp fun _ x => ⟨x.1, x.2.caps⟩⟩⟩
theorem Z4.capd {S : Nat → Prop} {s : St} {v : Value} {w : World} (h : Z4 S s v w) : Z4 (fun b => S b ∧ b < w.heap.size) s v w := by
 obtain ⟨vb, vl, vi, h1, h2, h3, h4⟩ := h; exact ⟨vb, vl, vi, h1, h2.capd, h3.capd, h4.caps (by decide)⟩
theorem Dk.Fine.small {n : Nat} {d : Dk} (h : d.Fine n) (hn : n ≤ 1000) : d.blocks.length ≤ 256 ∧ d.late.length ≤ 999990 := ⟨by rw [h.len]; omega, by have := h.few; omega⟩
theorem K1 (a b : St) (S S' : Nat → Prop) (v u : Value) (w : World) (ha : Z4 S a v w) (hb : Z4 S' b u w) (h1 : a.dk.blocks.length ≤ 1000000) (h2 : a.dk.late.length ≤ 1000000) (h3 : a.idx.length ≤ 1000000) :
  Calls Tryz.prog 7 #[v, u] w fun e w' => e = .returned (.bool (a.same b)) ∧ Zp w w' := by
 obtain ⟨ab, cb, al, cl, ai, ci, rfl, a1, a2, a3⟩ := ha.form;obtain ⟨bb, eb, bl, el, bi, ei, rfl, b1, b2, b3⟩ := hb.form;have g0 := Zv w (.cells #[.slice ab a.dk.blocks.length cb, .slice al a.dk.late.length cl, .slice ai a.idx.length ci, .int .i64 a.next] 33) (.cells #[.slice bb b.dk.blocks.length eb, .slice bl b.dk.late.length el, .slice bi b.idx.length ei, .int .i64 b.next] 33);have hx0 := Zn w #[.slice ab a.dk.blocks.length cb, .slice al a.dk.late.length cl, .slice ai a.idx.length ci, .int .i64 a.next] 33;have hy0 := Zn (w.alloc (.cells #[.slice ab a.dk.blocks.length cb, .slice al a.dk.late.length cl, .slice ai a.idx.length ci, .int .i64 a.next] 33)) #[.slice bb b.dk.blocks.length eb, .slice bl b.dk.late.length el, .slice bi b.idx.length ei, .int .i64 b.next] 33;have hxx := ((Zd (w.alloc (.cells #[.slice ab a.dk.blocks.length cb, .slice al a.dk.late.length cl, .slice ai a.idx.length ci, .int .i64 a.next] 33)) (.cells #[.slice bb b.dk.blocks.length eb, .slice bl b.dk.late.length el, .slice bi b.idx.length ei, .int .i64 b.next] 33)).block _ (Zb hx0)).trans hx0;rw [World.size_alloc] at hy0;clear hx0 ha hb;obtain ⟨R, hR⟩ : ∃ R, R = a.same b := ⟨_, rfl⟩;rw [← hR];have HR : Hid (R = (a.dk.same b.dk && K0 a.idx b.idx && decide (a.next = b.next))) := hR;clear hR;go_enter Tryz.func7, Tryz.ntmps7;go_wp2_with fail;generalize World.alloc (World.alloc w _) _ = W at *
 refine (Ztt a.dk b.dk _ _ W ⟨_, _, rfl, a1.p.grow g0, a2.p.grow g0⟩ ⟨_, _, rfl, b1.p.grow g0, b2.p.grow g0⟩ h1 h2).mono ?_;obtain ⟨P, hP⟩ : ∃ P, P = a.dk.same b.dk := ⟨_, rfl⟩;rw [← hP];have HP : Hid _ := hP;clear hP a1 a2 b1 b2;rintro r w1 ⟨rfl, g1⟩;have gw := g0.trans g1;have hx := (g1.block _ (Zb hxx)).trans hxx;have hy := (g1.block _ (Zb hy0)).trans hy0;clear hxx hy0 g1;cases P with
 | false =>
  obtain rfl : R = false := by rw [HR.out, ← HP.out]; rfl
  clear HR HP;go_wp2_with fail;go_ret;exact ⟨rfl, gw⟩
 | true =>
  have HR2 : Hid (R = (K0 a.idx b.idx && decide (a.next = b.next))) := by show _ = _; rw [HR.out, ← HP.out]; rfl
  clear HR HP;have x2 := Ze hx 2 _ rfl;have y2 := Ze hy 2 _ rfl;go_wp2_with fail;refine (Zlp a.idx b.idx _ _ S S' w1 (a3.grow gw) (b3.grow gw) h3).mono ?_;obtain ⟨P, hP⟩ : ∃ P, P = K0 a.idx b.idx := ⟨_, rfl⟩;rw [← hP];have HP : Hid _ := hP;clear hP a3 b3 x2 y2 g0;rintro r w2 ⟨rfl, g2⟩;have gE := gw.trans g2;have hx2 := (g2.block _ (Zb hx)).trans hx;have hy2 := (g2.block _ (Zb hy)).trans hy;clear hx hy g2 gw;have x3 := Ze hx2 3 _ rfl;have y3 := Ze hy2 3 _ rfl;cases P with
  | false =>
   obtain rfl : R = false := by rw [HR2.out, ← HP.out]; rfl
   clear HR2 HP;go_wp2_with fail;go_ret;exact ⟨rfl, gE⟩
  | true =>
   have HR3 : Hid (R = decide (a.next = b.next)) := by show _ = _; rw [HR2.out, ← HP.out]; rfl
   clear HR2 HP;by_cases hn : a.next = b.next
   ·have dn : (a.next == b.next) = true := by simp [hn]
    obtain rfl : R = true := by rw [HR3.out]; exact decide_eq_true hn
    clear HR3 hn;go_wp2_with fail;go_ret;exact ⟨rfl, gE⟩
   ·have dn : (a.next == b.next) = false := by simp [hn]
    obtain rfl : R = false := by rw [HR3.out]; exact decide_eq_false hn
    clear HR3 hn;go_wp2_with fail;go_ret;exact ⟨rfl, gE⟩
theorem Zv0 (w : World) (x y z u : Value) (e : TypeId) (j : Nat) (c : Value) (h : [x, y, z, u][j]? = some c) : (w.alloc (.cells #[x, y, z, u] e)).cell? ((⟨w.heap.size, 0, none⟩ : Addr).add j) = some c := by
 match j, h with
 | 0, h => simp at h; subst h; simp [Addr.add]
 | 1, h => simp at h; subst h; simp [Addr.add]
 | 2, h => simp at h; subst h; simp [Addr.add]
 | 3, h => simp at h; subst h; simp [Addr.add]
 | j + 4, h => simp at h
theorem Kt (S : Nat → Prop) (s : St) (v : Value) (w : World) (hS : ∀ b, S b → b < w.heap.size) (hs : Z4 S s v w) (hn : s.idx.length ≤ 1000) :
  Calls Tryz.prog 20 #[v] w fun r w' => ∃ v', r = .returned v' ∧ Xu (Zx S w.heap.size) w' v' s.recs ∧ Zp w w' := by
 obtain ⟨i0, hif, hz0, hz1, hz2⟩ := info_parts Kk;obtain ⟨ab, cb, al, cl, ai, ci, rfl, -, -, hi⟩ := hs.form;have g0 := Zd w (.cells #[.slice ab s.dk.blocks.length cb, .slice al s.dk.late.length cl, .slice ai s.idx.length ci, .int .i64 s.next] 33);have hx := Zn w #[.slice ab s.dk.blocks.length cb, .slice al s.dk.late.length cl, .slice ai s.idx.length ci, .int .i64 s.next] 33;have x2 := Ze hx 2 _ rfl;clear hs;have HLN : Hid (s.recs.length = s.idx.length) := List.length_map ..;go_enter Tryz.func20, Tryz.ntmps20;go_wp2_with fail;generalize World.alloc w _ = W at *;clear x2 hx;go_loopw [3, 9] (fun o i wr => ∃ (k : Nat) (css : List (List Value)), k ≤ s.idx.length ∧ i = .int .i64 (k : Int) ∧ Yr Ym S w.heap.size o (s.recs.take k) css wr ∧ Zp w wr) (fun _ i _ => s.idx.length - (intOf i).toNat)
 case atStart => exact ⟨0, [], Nat.zero_le _, rfl, Yr.nil _ _ _ _, g0⟩
 case round =>
  clear g0;obtain ⟨k, css, hk, rfl, hR, hg⟩ := hrel;by_cases hlt : k < s.idx.length
  ·obtain ⟨b, off, a1, c1, hv1, q0, q1, q2, q3, q4, hu⟩ := Vj (hi.grow hg) k hlt;cases hv1;have hxl : (s.recs.take k).length ≤ 1000 := by rw [List.length_take, HLN.out]; omega
   have HT : Hid (s.recs.take (k + 1) = s.recs.take k ++ [s.idx[k].rc]) := by
    show _ = _;rw [List.take_succ_eq_append_getElem (by rw [HLN.out]; exact hlt)];simp [St.recs]
   generalize s.idx[k] = x at *;generalize s.recs.take k = xs at *;obtain ⟨a0, c0, rfl⟩ := hR.form;have g1 := Zd wr (.cells #[.int .i64 x.rc.kind, .int .i64 x.rc.key, .int .i64 x.rc.ver, .slice a1 x.rc.data.length c1, .int .i64 x.pair] 54);have hX1 := Zn wr #[.int .i64 x.rc.kind, .int .i64 x.rc.key, .int .i64 x.rc.ver, .slice a1 x.rc.data.length c1, .int .i64 x.pair] 54;have hR3 := hR.grow g1;have hu3 := hu.grow g1;have gw3 := hg.trans g1;have s3 := World.size_alloc wr (.cells #[.int .i64 x.rc.kind, .int .i64 x.rc.key, .int .i64 x.rc.ver, .slice a1 x.rc.data.length c1, .int .i64 x.pair] 54);have HSZ : Hid (w.heap.size ≤ wr.heap.size) := hg.size;clear hR hu hg g1;obtain ⟨x0, x1, x2, x3⟩ := Yb hX1 rfl rfl rfl rfl;have hnew : ∀ (j : Nat) u, ([.int .i64 x.rc.kind, .int .i64 x.rc.key, .int .i64 x.rc.ver, .slice a1 x.rc.data.length c1] : List Value)[j]? = some u → ((wr.alloc (.cells #[.int .i64 x.rc.kind, .int .i64 x.rc.key, .int .i64 x.rc.ver, .slice a1 x.rc.data.length c1, .int .i64 x.pair] 54)).alloc (.cells #[.int .i64 x.rc.kind, .int .i64 x.rc.key, .int .i64 x.rc.ver, .slice a1 x.rc.data.length c1] 51)).cell? ((⟨wr.heap.size + 1, 0, none⟩ : Addr).add j) = some u := fun j u hj => by rw [← s3]; exact Zv0 _ _ _ _ _ 51 j u hj
   clear s3 hX1;go_wp2_with (first | (at_builtin; refine wpList_append_own _ rfl (.tmp 13) (.tmp 16) 47 rfl (w.heap.size) 51 i0 (.agg #[.int .i64 0, .int .i64 0, .int .i64 0, .slice none 0 0]) 4 48 Tryz.underlying47 hif hz0 hz1 hz2 rfl (by decide) (.slice a0 xs.length c0) _ _ rfl (hR3.row.alloc _) ⟨wr.heap.size + 1, 0, none⟩ 1 1 [.int .i64 x.rc.kind, .int .i64 x.rc.key, .int .i64 x.rc.ver, .slice a1 x.rc.data.length c1] rfl rfl hnew (by intro u hu; simp at hu; rcases hu with rfl | rfl | rfl | rfl <;> rfl) (by unfold maxLen; omega) (by omega) (by have := HSZ.out; simp; omega) ?_; intro v4 w4 hown4 hgrow4 _; have hR6 := hR3.step (x := x.rc) (by decide) hS ⟨_, rfl, hu3.mono (fun _ h => .inl h)⟩ hgrow4 hown4; have g6 : Zp w w4 := Z7 (gw3.trans (Zd _ _)) hgrow4 (fun k hk => (hR3.row.lt k hk).1); have hsl := Y0 hown4; obtain ⟨a4, c4, hv4⟩ := hsl; subst hv4; clear hgrow4 hown4 hR3 hnew gw3));go_roundw
   case rel => exact ⟨k + 1, _, by omega, by go_num, by rw [HT.out]; exact hR6, g6⟩
   case measure => simp [intOf]; omega
  ·have hE := hR.slice;rw [List.take_of_length_le (by rw [HLN.out]; omega)] at hE;clear hR hi;obtain ⟨a4, c4, rfl⟩ := hE.form;go_wp2_with fail;go_ret;exact ⟨_, rfl, hE, hg⟩
theorem Zc0 {w : World} {g : Nat} {T : TypeId} {f} {c0 c1 : Value} (h : w.heap[g]? = some (.cells #[c0, c1] T f)) (x0 x1 : Value) :
  ((w.setCell ⟨g, 0, none⟩ x0).setCell ⟨g, 1, none⟩ x1).heap[g]? = some (.cells #[x0, x1] T f) ∧ Zu g w ((w.setCell ⟨g, 0, none⟩ x0).setCell ⟨g, 1, none⟩ x1) :=
 ⟨Yc (Yc h 0 x0) 1 x1, ((Zu.refl g w).set _ _ _).set _ _ _⟩
abbrev Xc : Obj := .cells #[.slice none 0 0, .slice none 0 0, .slice none 0 0, .int .i64 0] 33 (0, 0)
def Ju (g : Nat) (w w' : World) : Prop := Zu g w w'
theorem Yl {S : Nat → Prop} {B g : Nat} (hS : ∀ b, S b → b < g) (hB : g < B) : ¬ Zx S B g := fun h => h.elim (fun x => by have := hS g x; omega) (fun x => by omega)
def Zhw (S : Nat → Prop) (g : Nat) (s : St) (w : World) : Prop := ∃ v cs, v = .agg cs ∧ w.heap[g]? = some (.cells cs 33 (0, 0)) ∧ Z4 S s v w
theorem K2 (S : Nat → Prop) (n : Nat) (d : Dk) (v : Value) (w : World) (hS : ∀ b, S b → b < w.heap.size) (hd : Xm S d v w) (hF : d.Fine n) (hn : n ≤ 1000) :
  Calls Tryz.prog 14 #[v] w fun r w' => ∃ v', r = .returned v' ∧ Z4 (Zx S w.heap.size) (Qe d) v' w' ∧ Zp w w' := by
 obtain ⟨ab, cb, al, cl, rfl, hb, hl⟩ := hd.form;have g0 := Zv w (.cells #[.slice ab d.blocks.length cb, .slice al d.late.length cl] 30) Xc;have hD0 := Zn w #[.slice ab d.blocks.length cb, .slice al d.late.length cl] 30;have hZ0 := Zn (w.alloc (.cells #[.slice ab d.blocks.length cb, .slice al d.late.length cl] 30)) #[.slice none 0 0, .slice none 0 0, .slice none 0 0, .int .i64 0] 33;have hDD := ((Zd (w.alloc (.cells #[.slice ab d.blocks.length cb, .slice al d.late.length cl] 30)) Xc).block _ (Zb hD0)).trans hD0;rw [World.size_alloc] at hZ0;clear hD0 hb hl;have HF : Hid (d.Fine n) := hF;have HFK : Hid ((d.keep 0).Fine 0) := hF.kept 0;obtain ⟨K, hK⟩ : ∃ K, K = d.keep 0 := ⟨_, rfl⟩;have HM : Hid (Qe d = ⟨K, Yi K 6, 0⟩) := by show _ = _; rw [hK]; rfl
 rw [HM.out];rw [← hK] at HFK;have HK : Hid _ := hK;clear hK hF HM;go_enter Tryz.func14, Tryz.ntmps14;go_wp2_with fail;obtain ⟨W, hW⟩ : ∃ W, W = (w.alloc (.cells #[.slice ab d.blocks.length cb, .slice al d.late.length cl] 30)).alloc Xc := ⟨_, rfl⟩;have hWs : W.heap.size = w.heap.size + 2 := by rw [hW]; simp
 rw [← hW] at g0 hDD hZ0 ⊢;clear hW;refine (Zh4 S n d 0 _ W (fun b h => by have := hS b h; omega) (hd.grow g0) HF.out hn).mono ?_;rw [← HK.out, hWs];rintro r w1 ⟨v1, rfl, h1, g1⟩;obtain ⟨b1, e1, l1, m1, rfl, h1b, h1l⟩ := h1.form;have hD1 := (g1.block _ (Zb hDD)).trans hDD;have hZ1 := (g1.block _ (Zb hZ0)).trans hZ0;have gw1 := g0.trans g1;obtain ⟨y0, y1⟩ := X1 hD1 rfl rfl;have f0 := Zr hD1 0;have f1 := Zr hD1 1;obtain ⟨hp1, hp2⟩ := Zc0 hD1 (.slice b1 K.blocks.length e1) (.slice l1 K.late.length m1);have hZ2 := (hp2.block _ (Zb hZ1) (by omega)).trans hZ1;have hbb := h1b.but hp2 (Yl hS (by omega));have hll := h1l.but hp2 (Yl hS (by omega));have gw2 := hp2.grow gw1 (Nat.le_refl _);have HSZ : Hid (w.heap.size + 2 ≤ ((w1.setCell ⟨w.heap.size, 0, none⟩ (.slice b1 K.blocks.length e1)).setCell ⟨w.heap.size, 1, none⟩ (.slice l1 K.late.length m1)).heap.size) := Zb hZ2;have cs := Zy;clear h1 h1b h1l hD1 hZ1 hp2 gw1 g1 g0 hDD hZ0 hd HF;go_wp2_with fail;clear y0 y1 f0 f1 cs;generalize (w1.setCell ⟨w.heap.size, 0, none⟩ (.slice b1 K.blocks.length e1)).setCell ⟨w.heap.size, 1, none⟩ (.slice l1 K.late.length m1) = W2 at *;have hsm := HFK.out.small (by omega)
 refine Y3 [px (.agg #[.slice b1 K.blocks.length e1, .slice l1 K.late.length m1]), px (.agg #[.slice b1 K.blocks.length e1, .slice l1 K.late.length m1]), pl ((fun v w' => Ys (Zx S (w.heap.size + 2)) w' v (Yi K 6))), pl ((fun v w' => ∃ ai ci, v = .agg #[.slice b1 K.blocks.length e1, .slice l1 K.late.length m1, .slice ai (Yi K 6).length ci, .int .i64 0] ∧ Ys (Zx S (w.heap.size + 2)) w' (.slice ai (Yi K 6).length ci) (Yi K 6))), pl ((fun _ w' => ∃ ai ci, w'.heap[w.heap.size + 1]? = some (.cells #[.slice b1 K.blocks.length e1, .slice l1 K.late.length m1, .slice ai (Yi K 6).length ci, .int .i64 0] 33 (0, 0)) ∧ Ys (Zx S (w.heap.size + 2)) w' (.slice ai (Yi K 6).length ci) (Yi K 6)))] [none, none, none, none, some ((Ju (w.heap.size + 1)))] (fun dn w' => Zp w w' ∧ w.heap.size + 2 ≤ w'.heap.size ∧ w'.heap[w.heap.size]? = some (.cells #[.slice b1 K.blocks.length e1, .slice l1 K.late.length m1] 30 (0, 0)) ∧ Yy (Zx S (w.heap.size + 2)) w' (.slice b1 K.blocks.length e1) K.blocks ∧ Xg (Zx S (w.heap.size + 2)) w' (.slice l1 K.late.length m1) K.late ∧ (dn 4 = false → w'.heap[w.heap.size + 1]? = some Xc)) (by kernel_rfl) (by kernel_rfl) ⟨se, se, Yk ((fun _ _ _ hg h => Yd.grow h hg)), Yk ((fun _ _ _ hg ⟨ai, ci, h1, h2⟩ => ⟨ai, ci, h1, Yd.grow h2 hg⟩)), Yk ((fun _ _ _ hg ⟨ai, ci, h1, h2⟩ => ⟨ai, ci, (hg.block _ (Zb h1)).trans h1, Yd.grow h2 hg⟩)), trivial⟩ ⟨⟨(fun w => Zu.refl _ w), ⟨x5, x5, .inr ((fun v _ w1 w' hs hq => Yd.but hq hs (Yl (fun b h => Nat.lt_succ_of_lt (hS b h)) (Nat.lt_succ_self _)))), .inr ((fun v _ w1 w' hs ⟨ai, ci, h1, h2⟩ => ⟨ai, ci, h1, Yd.but h2 hs (Yl (fun b h => Nat.lt_succ_of_lt (hS b h)) (Nat.lt_succ_self _))⟩)), .inl (by kernel_rfl), trivial⟩⟩, trivial⟩ ⟨n5, n5, n5, n5, fun _ _ _ _ h => h, trivial⟩ ⟨gw2.drew, HSZ.out, hp1, hbb, hll, fun _ => hZ2⟩ ?_ ?_
 ·refine ⟨?_, ?_, ?_, ?_, ?_, trivial⟩
  ·refine Zg rfl fun a w' ek ef dn hr hg hin => ?_;have e1 : a (.tmp 1) = .pointer (some ⟨w.heap.size, 0, none⟩) := Zq hin 1 rfl;have z0 := Ze hg.2.2.1 0 _ rfl;have z1 := Ze hg.2.2.1 1 _ rfl;refine Zk ?_ hg rfl;clear hin hg hr;go_simp;all_goals go_arith
  ·refine Zg rfl fun a w' ek ef dn hr hg hin => ?_;have e1 : a (.tmp 1) = .pointer (some ⟨w.heap.size, 0, none⟩) := Zq hin 1 rfl;have z0 := Ze hg.2.2.1 0 _ rfl;have z1 := Ze hg.2.2.1 1 _ rfl;refine Zk ?_ hg rfl;clear hin hg hr;go_simp;all_goals go_arith
  ·refine Zg rfl fun a w' ek ef dn hr hg hin => ?_;have e6 : a (.tmp 6) = _ := Zf hin 1 rfl;refine Yf (f := 45) (args := #[.agg #[.slice b1 K.blocks.length e1, .slice l1 K.late.length m1]]) ?_ ((Zg1 (Zx S (w.heap.size + 2)) K _ _ w' hg.2.2.2.1 hg.2.2.2.2.1 hsm.1 hsm.2).mono ?_)
   ·clear hin hg hr;go_simp;all_goals go_arith
   ·rintro e w2 ⟨v2, rfl, hE, g2⟩;refine ⟨_, rfl, g2, ⟨hg.1.trans g2, Nat.le_trans hg.2.1 g2.size, (g2.block _ (Zb hg.2.2.1)).trans hg.2.2.1, hg.2.2.2.1.grow g2, hg.2.2.2.2.1.grow g2, fun h => (g2.block _ (Zb (hg.2.2.2.2.2 h))).trans (hg.2.2.2.2.2 h)⟩, ?_⟩;rw [show K.blocks.length / 2 = 6 from by rw [HFK.out.len]] at hE;exact hE.mono (Ziy hg.2.1)
  ·refine Zg rfl fun a w' ek ef dn hr hg hin => ?_;have e5 : a (.tmp 5) = _ := Zf hin 0 rfl;have e7 : ((fun v w' => Ys (Zx S (w.heap.size + 2)) w' v (Yi K 6))) (a (.tmp 7)) w' := Zf hin 2 rfl;obtain ⟨ai, ci, h7⟩ := Yd.form e7;rw [h7] at e7;refine Zk (v := .agg #[.slice b1 K.blocks.length e1, .slice l1 K.late.length m1, .slice ai (Yi K 6).length ci, .int .i64 0]) ?_ hg ⟨ai, ci, rfl, e7⟩;clear hin hg hr e7;go_simp;all_goals go_arith
  ·refine Zg rfl fun a w' ek ef dn hr hg hin => ?_;have e2 : a (.tmp 2) = .pointer (some ⟨w.heap.size + 1, 0, none⟩) := Zq hin 2 rfl;have e8 : ((fun v w' => ∃ ai ci, v = .agg #[.slice b1 K.blocks.length e1, .slice l1 K.late.length m1, .slice ai (Yi K 6).length ci, .int .i64 0] ∧ Ys (Zx S (w.heap.size + 2)) w' (.slice ai (Yi K 6).length ci) (Yi K 6))) (a (.tmp 8)) w' := Zf hin 3 rfl;obtain ⟨ai, ci, h8, hE⟩ := e8;have hh := hg.2.2.2.2.2 hr.un;obtain ⟨hq1, hq2⟩ := Yn hh (.slice b1 K.blocks.length e1) (.slice l1 K.late.length m1) (.slice ai (Yi K 6).length ci) (.int .i64 0);obtain ⟨y0, y1, y2, y3⟩ := Yb hh rfl rfl rfl rfl;obtain ⟨f0, f1, f2, f3⟩ := Yu hh;have cs := Zy;have hnu : ¬ Zx S (w.heap.size + 2) (w.heap.size + 1) := Yl (fun b h => Nat.lt_succ_of_lt (hS b h)) (Nat.lt_succ_self _);refine Yj (w' := _) ?_ hq2 ⟨hq2.grow hg.1 (by omega), Nat.le_trans hg.2.1 hq2.size, (hq2.block _ (Zb hg.2.2.1) (by omega)).trans hg.2.2.1, hg.2.2.2.1.but hq2 hnu, hg.2.2.2.2.1.but hq2 hnu, fun h => by simp [upd] at h⟩ ⟨ai, ci, hq1, hE.but hq2 hnu⟩;clear hin hg hr hq1 hq2 hh hE hnu;go_simp;all_goals go_arith
 ·intro vs w' dn hdn hg ht;obtain ⟨q5, q6, q7, q8, qo4, -⟩ := ht;have r5 : vs 0 = .agg #[.slice b1 K.blocks.length e1, .slice l1 K.late.length m1] := q5;have r6 : vs 1 = .agg #[.slice b1 K.blocks.length e1, .slice l1 K.late.length m1] := q6;replace q7 : ((fun v w' => Ys (Zx S (w.heap.size + 2)) w' v (Yi K 6))) (vs 2) w' := q7;replace q8 : ((fun v w' => ∃ ai ci, v = .agg #[.slice b1 K.blocks.length e1, .slice l1 K.late.length m1, .slice ai (Yi K 6).length ci, .int .i64 0] ∧ Ys (Zx S (w.heap.size + 2)) w' (.slice ai (Yi K 6).length ci) (Yi K 6))) (vs 3) w' := q8;replace qo4 : ((fun _ w' => ∃ ai ci, w'.heap[w.heap.size + 1]? = some (.cells #[.slice b1 K.blocks.length e1, .slice l1 K.late.length m1, .slice ai (Yi K 6).length ci, .int .i64 0] 33 (0, 0)) ∧ Ys (Zx S (w.heap.size + 2)) w' (.slice ai (Yi K 6).length ci) (Yi K 6))) (vs 4) w' := qo4;clear q5 q6;simp only [Z9, Act.put, List.setIfInBounds_toArray, List.set_cons_zero, List.set_cons_succ, Nat.reduceAdd, r5, r6];clear r5 r6;obtain ⟨ai, ci, hp, hE⟩ := qo4;obtain ⟨y0, y1, y2, y3⟩ := Yb hp rfl rfl rfl rfl;have gE := hg.1;have hSt : Z4 (Zx S w.heap.size) ⟨K, Yi K 6, 0⟩ (.agg #[.slice b1 K.blocks.length e1, .slice l1 K.late.length m1, .slice ai (Yi K 6).length ci, .int .i64 0]) w' := ⟨_, _, _, rfl, hg.2.2.2.1.mono (Ya (by omega)), hg.2.2.2.2.1.mono (Ya (by omega)), hE.mono (Ya (by omega))⟩;clear q7 q8 hdn hg hp hE hp1 hZ2 hbb hll gw2;go_wp2_with fail
  exact bodyPost_ret (v := .agg #[.slice b1 K.blocks.length e1, .slice l1 K.late.length m1, .slice ai (Yi K 6).length ci, .int .i64 0]) (by simp [results, Tryz.results14, go_sem, y0, y1, y2, y3]) rfl ⟨_, rfl, hSt, gE⟩
theorem Zg4 (S : Nat → Prop) (w : World) (hS : ∀ b, S b → b < w.heap.size) :
  Calls Tryz.prog 9 #[] w fun r w' => ∃ v', r = .returned v' ∧ Z4 (Zx S w.heap.size) X3 v' w' ∧ Zp w w' := by
 have g0 := Zd w Xc;have hZ0 := Zn w #[.slice none 0 0, .slice none 0 0, .slice none 0 0, .int .i64 0] 33;have s0 := World.size_alloc w Xc;go_enter Tryz.func9, Tryz.ntmps9;go_wp2_with fail;generalize World.alloc w _ = W at *;refine (Zu7 S W).mono ?_;rintro r w1 ⟨v1, rfl, h1, g1⟩;have hZ1 := (g1.block _ (Zb hZ0)).trans hZ0;have gw1 := g0.trans g1;obtain ⟨ab, cb, al, cl, hv, -, -⟩ := h1.form;subst hv;clear hZ0 g0;go_wp2_with fail;have HSZ : Hid (W.heap.size ≤ w1.heap.size) := g1.size;refine (K2 (fun b => Zx S W.heap.size b ∧ b < w1.heap.size) 0 Dk.new _ w1 (fun b h => h.2) ?_ Zfa (by omega)).mono ?_
 ·obtain ⟨vb, vl, h2, h3, h4⟩ := h1;exact ⟨vb, vl, h2, h3.capd, h4.capd⟩
 ·rintro r w2 ⟨v2, rfl, h2, g2⟩;have hZ2 := (g2.block _ (Zb hZ1)).trans hZ1;have gw2 := gw1.trans g2;have h3 : Z4 (Zx S W.heap.size) X3 v2 w2 := h2.mono fun b h => h.elim (fun x => x.1) (fun x => .inr (Nat.le_trans HSZ.out x))
  obtain ⟨ab, cb, al, cl, ai, ci, hv, -, -, -⟩ := h3.form;subst hv;obtain ⟨hq1, hq2⟩ := Yn hZ2 (.slice ab X3.dk.blocks.length cb) (.slice al X3.dk.late.length cl) (.slice ai X3.idx.length ci) (.int .i64 X3.next);obtain ⟨y0, y1, y2, y3⟩ := Yb hZ2 rfl rfl rfl rfl;obtain ⟨f0, f1, f2, f3⟩ := Yu hZ2;have cs := Zy;obtain ⟨x0, x1, x2, x3⟩ := Yb hq1 rfl rfl rfl rfl;have gE := hq2.grow gw2 (Nat.le_refl _);have hE := (h3.but hq2 (Yl hS (by omega))).mono (Ya (B := w.heap.size) (by omega));clear hq1 hq2 h3 h2 hZ2 hZ1 gw2 gw1 g1 g2 h1;go_wp2_with fail;exact bodyPost_ret (v := .agg #[.slice ab X3.dk.blocks.length cb, .slice al X3.dk.late.length cl, .slice ai X3.idx.length ci, .int .i64 X3.next]) (by simp [results, Tryz.results9, go_sem, x0, x1, x2, x3]) rfl ⟨_, rfl, hE, gE⟩
end Go.Proofs.YtikhknkpndhakabGreat
