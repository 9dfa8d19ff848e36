import Derived.Test.YtpdnapbchcdhlacGreatRDo
set_option maxHeartbeats 8000000
namespace Go.Proofs.YtpdnapbchcdhlacGreat
set_option maxRecDepth 100000
open Go.RowKit
open Plain Reg
variable {S : Nat → Prop} {v : Value} {w w' : World}
structure St where
 dk : Dk
 idx : List Ent
 next : Int
def St.same (a b : St) : Bool := a.dk.same b.dk && Kx a.idx b.idx && decide (a.next = b.next)
theorem St.same_iff (a b : St) : a.same b = true ↔ a = b := by
 obtain ⟨d, l, n⟩ := a;obtain ⟨d', l', n'⟩ := b;unfold St.same;simp only [Bool.and_eq_true, Dk.same_iff, Jf, decide_eq_true_eq, St.mk.injEq, and_assoc]
theorem St.same_refl (a : St) : a.same a = true := (St.same_iff a a).2 rfl
def St.recs (s : St) : List Rec := s.idx.map Ent.rc
def X2 (d : Dk) : St := ⟨d.keep 0, Z5 (d.keep 0) 6, 0⟩
def Y1 : St := X2 Dk.new
def Yb (S : Nat → Prop) (s : St) (v : Value) (w : World) : Prop := ∃ vb vl vi, v = .agg #[vb, vl, vi, .int .i64 s.next] ∧ Y2 S w vb s.dk.blocks ∧ Xm S w vl s.dk.late ∧ Yr S w vi s.idx
theorem Yb.grow {s : St} (h : Yb S s v w) (hg : Zp w w') : Yb S s v w' := by
 obtain ⟨vb, vl, vi, h1, h2, h3, h4⟩ := h; exact ⟨vb, vl, vi, h1, h2.grow hg, h3.grow hg, h4.grow hg⟩
theorem Yb.mono {S' : Nat → Prop} {s : St} (h : Yb S s v w) (hS : ∀ b, S b → S' b) : Yb S' s v w := by
 obtain ⟨vb, vl, vi, h1, h2, h3, h4⟩ := h; exact ⟨vb, vl, vi, h1, h2.mono hS, h3.mono hS, h4.mono hS⟩
theorem Yb.but {g : Nat} {s : St} (h : Yb S s v w) (hg : Zq g w w') (hn : ¬ S g) : Yb S s v w' := by
 obtain ⟨vb, vl, vi, h1, h2, h3, h4⟩ := h; exact ⟨vb, vl, vi, h1, h2.but hg hn, h3.but hg hn, h4.but hg hn⟩
theorem Yb.form {s : St} (h : Yb S s v w) : ∃ ab cb al cl ai ci, v = .agg #[.slice ab s.dk.blocks.length cb, .slice al s.dk.late.length cl, .slice ai s.idx.length ci, .int .i64 s.next] ∧ Y2 S w (.slice ab s.dk.blocks.length cb) s.dk.blocks ∧ Xm S w (.slice al s.dk.late.length cl) s.dk.late ∧ Yr S w (.slice ai s.idx.length ci) s.idx := by
 obtain ⟨vb, vl, vi, h1, h2, h3, h4⟩ := h;obtain ⟨ab, cb, rfl⟩ := h2.p.form;obtain ⟨al, cl, rfl⟩ := h3.p.form;obtain ⟨ai, ci, rfl⟩ := h4.form;exact ⟨ab, cb, al, cl, ai, ci, h1, h2, h3, h4⟩
theorem Zj9 {B B' : Nat} (h : B ≤ B') : ∀ b, Zw (Zw S B) B' b → Zw S B b := fun _ hb => hb.elim (fun x => x) (fun x => .inr (Nat.le_trans h x))
theorem Y2.capd {bs : List (List UInt8)} (h : Y2 S w v bs) : Y2 (fun b => S b ∧ b < w.heap.size) w v bs := by
 by_cases h0 : bs = []
 ·subst h0;rcases h with h | ⟨b, off, cap, hS, rfl, h1, hc⟩
  ·exact .inl h
  ·exact .inl ⟨_, cap, rfl, rfl, fun h => by cases h⟩
 ·rcases h with ⟨_, _, _, h1, _⟩ | ⟨b, off, cap, hS, h2, h1, hc⟩
  ·exact absurd h1 h0
  ·obtain ⟨u, k1, _⟩ := hc 0 (List.length_pos_iff.2 h0);exact .inr ⟨b, off, cap, ⟨hS, Zu k1⟩, h2, h1, fun i hi => (hc i hi).imp fun _ x => ⟨x.1, x.2.caps⟩⟩
theorem Xm.capd {ws : List Wr} (h : Xm S w v ws) : Xm (fun b => S b ∧ b < w.heap.size) w v ws := by
 by_cases h0 : ws = []
 ·subst h0;rcases h with h | ⟨b, off, cap, hS, rfl, h1, hc⟩
  ·exact .inl h
  ·exact .inl ⟨_, cap, rfl, rfl, fun h => by cases h⟩
 ·rcases h with ⟨_, _, _, h1, _⟩ | ⟨b, off, cap, hS, h2, h1, hc⟩
  ·exact absurd h1 h0
  ·obtain ⟨k1, _⟩ := hc 0 (List.length_pos_iff.2 h0);exact .inr ⟨b, off, cap, ⟨hS, Zu k1⟩, h2, h1, fun i hi => ⟨(hc i hi).1, (hc i hi).2.imp fun _ x => ⟨x.1, x.2.caps⟩⟩⟩
theorem Yb.capd {s : St} (h : Yb S s v w) : Yb (fun b => S b ∧ b < w.heap.size) s v w := by
 obtain ⟨vb, vl, vi, h1, h2, h3, h4⟩ := h; exact ⟨vb, vl, vi, h1, h2.capd, h3.capd, h4.caps (by decide)⟩
theorem Dk.Fine.small {n : Nat} {d : Dk} (h : d.Fine n) (hn : n ≤ 1000) : d.blocks.length ≤ 256 ∧ d.late.length ≤ 999990 := ⟨by rw [h.len]; omega, by have := h.few; omega⟩
theorem Zf7 (a b : St) (S S' : Nat → Prop) (v u : Value) (w : World) (ha : Yb S a v w) (hb : Yb S' b u w) (h1 : a.dk.blocks.length ≤ 1000000) (h2 : a.dk.late.length ≤ 1000000) (h3 : a.idx.length ≤ 1000000) :
  Calls Tryz.prog 14 #[v, u] w fun e w' => e = .returned (.bool (a.same b)) ∧ Zp w w' := by
 obtain ⟨ab, cb, al, cl, ai, ci, rfl, a1, a2, a3⟩ := ha.form;obtain ⟨bb, eb, bl, el, bi, ei, rfl, b1, b2, b3⟩ := hb.form;have g0 := Zr w (.cells #[.slice ab a.dk.blocks.length cb, .slice al a.dk.late.length cl, .slice ai a.idx.length ci, .int .i64 a.next] 29) (.cells #[.slice bb b.dk.blocks.length eb, .slice bl b.dk.late.length el, .slice bi b.idx.length ei, .int .i64 b.next] 29);have hx0 := Zj w #[.slice ab a.dk.blocks.length cb, .slice al a.dk.late.length cl, .slice ai a.idx.length ci, .int .i64 a.next] 29;have hy0 := Zj (w.alloc (.cells #[.slice ab a.dk.blocks.length cb, .slice al a.dk.late.length cl, .slice ai a.idx.length ci, .int .i64 a.next] 29)) #[.slice bb b.dk.blocks.length eb, .slice bl b.dk.late.length el, .slice bi b.idx.length ei, .int .i64 b.next] 29;have hxx := ((Zc (w.alloc (.cells #[.slice ab a.dk.blocks.length cb, .slice al a.dk.late.length cl, .slice ai a.idx.length ci, .int .i64 a.next] 29)) (.cells #[.slice bb b.dk.blocks.length eb, .slice bl b.dk.late.length el, .slice bi b.idx.length ei, .int .i64 b.next] 29)).block _ (Za hx0)).trans hx0;rw [World.size_alloc] at hy0;clear hx0 ha hb;obtain ⟨R, hR⟩ : ∃ R, R = a.same b := ⟨_, rfl⟩;rw [← hR];have HR : Hid (R = (a.dk.same b.dk && Kx a.idx b.idx && decide (a.next = b.next))) := hR;clear hR;go_enter Tryz.func14, Tryz.ntmps14;go_wp2_with fail;generalize World.alloc (World.alloc w _) _ = W at *
 refine (Zv3 a.dk b.dk _ _ W ⟨_, _, rfl, a1.p.grow g0, a2.p.grow g0⟩ ⟨_, _, rfl, b1.p.grow g0, b2.p.grow g0⟩ h1 h2).mono ?_;obtain ⟨P, hP⟩ : ∃ P, P = a.dk.same b.dk := ⟨_, rfl⟩;rw [← hP];have HP : Hid _ := hP;clear hP a1 a2 b1 b2;rintro r w1 ⟨rfl, g1⟩;have gw := g0.trans g1;have hx := (g1.block _ (Za hxx)).trans hxx;have hy := (g1.block _ (Za hy0)).trans hy0;clear hxx hy0 g1;cases P with
 | false =>
  obtain rfl : R = false := by rw [HR.out, ← HP.out]; rfl
  clear HR HP;go_wp2_with fail;go_ret;exact ⟨rfl, gw⟩
 | true =>
  have HR2 : Hid (R = (Kx a.idx b.idx && decide (a.next = b.next))) := by show _ = _; rw [HR.out, ← HP.out]; rfl
  clear HR HP;have x2 := Zd hx 2 _ rfl;have y2 := Zd hy 2 _ rfl;go_wp2_with fail;refine (Zc2 a.idx b.idx _ _ S S' w1 (a3.grow gw) (b3.grow gw) (Nat.le_trans h3 (by decide))).mono ?_;obtain ⟨P, hP⟩ : ∃ P, P = Kx a.idx b.idx := ⟨_, rfl⟩;rw [← hP];have HP : Hid _ := hP;clear hP a3 b3 x2 y2 g0;rintro r w2 ⟨rfl, g2⟩;have gE := gw.trans g2;have hx2 := (g2.block _ (Za hx)).trans hx;have hy2 := (g2.block _ (Za hy)).trans hy;clear hx hy g2 gw;have x3 := Zd hx2 3 _ rfl;have y3 := Zd hy2 3 _ rfl;cases P with
  | false =>
   obtain rfl : R = false := by rw [HR2.out, ← HP.out]; rfl
   clear HR2 HP;go_wp2_with fail;go_ret;exact ⟨rfl, gE⟩
  | true =>
   have HR3 : Hid (R = decide (a.next = b.next)) := by show _ = _; rw [HR2.out, ← HP.out]; rfl
   clear HR2 HP;by_cases hn : a.next = b.next
   ·have dn : (a.next == b.next) = true := by simp [hn]
    obtain rfl : R = true := by rw [HR3.out]; exact decide_eq_true hn
    clear HR3 hn;go_wp2_with fail;go_ret;exact ⟨rfl, gE⟩
   ·have dn : (a.next == b.next) = false := by simp [hn]
    obtain rfl : R = false := by rw [HR3.out]; exact decide_eq_false hn
    clear HR3 hn;go_wp2_with fail;go_ret;exact ⟨rfl, gE⟩
theorem Zyy (w : World) (x y z u : Value) (e : TypeId) (j : Nat) (c : Value) (h : [x, y, z, u][j]? = some c) : (w.alloc (.cells #[x, y, z, u] e)).cell? ((⟨w.heap.size, 0, none⟩ : Addr).add j) = some c := by
 match j, h with
 | 0, h => simp at h; subst h; simp [Addr.add]
 | 1, h => simp at h; subst h; simp [Addr.add]
 | 2, h => simp at h; subst h; simp [Addr.add]
 | 3, h => simp at h; subst h; simp [Addr.add]
 | j + 4, h => simp at h
theorem Zja (S : Nat → Prop) (s : St) (v : Value) (w : World) (hS : ∀ b, S b → b < w.heap.size) (hs : Yb S s v w) (hn : s.idx.length ≤ 1000) :
  Calls Tryz.prog 25 #[v] w fun r w' => ∃ v', r = .returned v' ∧ Qs (Zw S w.heap.size) w' v' s.recs ∧ Zp w w' := by
 obtain ⟨i0, hif, hz0, hz1, hz2⟩ := info_parts K0;obtain ⟨ab, cb, al, cl, ai, ci, rfl, -, -, hi⟩ := hs.form;have g0 := Zc w (.cells #[.slice ab s.dk.blocks.length cb, .slice al s.dk.late.length cl, .slice ai s.idx.length ci, .int .i64 s.next] 29);have hx := Zj w #[.slice ab s.dk.blocks.length cb, .slice al s.dk.late.length cl, .slice ai s.idx.length ci, .int .i64 s.next] 29;have x2 := Zd hx 2 _ rfl;clear hs;have HLN : Hid (s.recs.length = s.idx.length) := List.length_map ..;go_enter Tryz.func25, Tryz.ntmps25;go_wp2_with fail;generalize World.alloc w _ = W at *;clear x2 hx;go_loopw [3, 9] (fun o i wr => ∃ (k : Nat) (css : List (List Value)), k ≤ s.idx.length ∧ i = .int .i64 (k : Int) ∧ Yv Yo S w.heap.size o (s.recs.take k) css wr ∧ Zp w wr) (fun _ i _ => s.idx.length - (intOf i).toNat)
 case atStart => exact ⟨0, [], Nat.zero_le _, rfl, Yv.nil _ _ _ _, g0⟩
 case round =>
  clear g0;obtain ⟨k, css, hk, rfl, hR, hg⟩ := hrel;by_cases hlt : k < s.idx.length
  ·obtain ⟨b, off, a1, c1, hv1, q0, q1, q2, q3, q4, hu⟩ := Kf (hi.grow hg) k hlt;cases hv1;have hxl : (s.recs.take k).length ≤ 1000 := by rw [List.length_take, HLN.out]; omega
   have HT : Hid (s.recs.take (k + 1) = s.recs.take k ++ [s.idx[k].rc]) := by
    show _ = _;rw [List.take_succ_eq_append_getElem (by rw [HLN.out]; exact hlt)];simp [St.recs]
   generalize s.idx[k] = x at *;generalize s.recs.take k = xs at *;obtain ⟨a0, c0, rfl⟩ := hR.form;have g1 := Zc wr (.cells #[.int .i64 x.rc.kind, .int .i64 x.rc.key, .int .i64 x.rc.ver, .slice a1 x.rc.data.length c1, .int .i64 x.pair] 92);have hX1 := Zj wr #[.int .i64 x.rc.kind, .int .i64 x.rc.key, .int .i64 x.rc.ver, .slice a1 x.rc.data.length c1, .int .i64 x.pair] 92;have hR3 := hR.grow g1;have hu3 := hu.grow g1;have gw3 := hg.trans g1;have s3 := World.size_alloc wr (.cells #[.int .i64 x.rc.kind, .int .i64 x.rc.key, .int .i64 x.rc.ver, .slice a1 x.rc.data.length c1, .int .i64 x.pair] 92);have HSZ : Hid (w.heap.size ≤ wr.heap.size) := hg.size;clear hR hu hg g1;obtain ⟨x0, x1, x2, x3⟩ := Z4 hX1 rfl rfl rfl rfl;have hnew : ∀ (j : Nat) u, ([.int .i64 x.rc.kind, .int .i64 x.rc.key, .int .i64 x.rc.ver, .slice a1 x.rc.data.length c1] : List Value)[j]? = some u → ((wr.alloc (.cells #[.int .i64 x.rc.kind, .int .i64 x.rc.key, .int .i64 x.rc.ver, .slice a1 x.rc.data.length c1, .int .i64 x.pair] 92)).alloc (.cells #[.int .i64 x.rc.kind, .int .i64 x.rc.key, .int .i64 x.rc.ver, .slice a1 x.rc.data.length c1] 61)).cell? ((⟨wr.heap.size + 1, 0, none⟩ : Addr).add j) = some u := fun j u hj => by rw [← s3]; exact Zyy _ _ _ _ _ 61 j u hj
   clear s3 hX1;go_wp2_with (first | (at_builtin; refine wpList_append_own _ rfl (.tmp 13) (.tmp 16) 58 rfl (w.heap.size) 61 i0 (.agg #[.int .i64 0, .int .i64 0, .int .i64 0, .slice none 0 0]) 4 48 Tryz.underlying58 hif hz0 hz1 hz2 rfl (by decide) (.slice a0 xs.length c0) _ _ rfl (hR3.row.alloc _) ⟨wr.heap.size + 1, 0, none⟩ 1 1 [.int .i64 x.rc.kind, .int .i64 x.rc.key, .int .i64 x.rc.ver, .slice a1 x.rc.data.length c1] rfl rfl hnew (by intro u hu; simp at hu; rcases hu with rfl | rfl | rfl | rfl <;> rfl) (by unfold maxLen; omega) (by omega) (by have := HSZ.out; simp; omega) ?_; intro v4 w4 hown4 hgrow4 _; have hR6 := hR3.step (x := x.rc) (by decide) hS ⟨_, rfl, hu3.mono (fun _ h => .inl h)⟩ hgrow4 hown4; have g6 : Zp w w4 := Yc (gw3.trans (Zc _ _)) hgrow4 (fun k hk => (hR3.row.lt k hk).1); have hsl := Y7 hown4; obtain ⟨a4, c4, hv4⟩ := hsl; subst hv4; clear hgrow4 hown4 hR3 hnew gw3));go_roundw
   case rel => exact ⟨k + 1, _, by omega, by go_num, by rw [HT.out]; exact hR6, g6⟩
   case measure => simp [intOf]; omega
  ·have hE := hR.slice;rw [List.take_of_length_le (by rw [HLN.out]; omega)] at hE;clear hR hi;obtain ⟨a4, c4, rfl⟩ := hE.form;go_wp2_with fail;go_ret;exact ⟨_, rfl, hE, hg⟩
variable {g : Nat}
theorem Ks {w : World} {T : TypeId} {f} {c0 c1 : Value} (h : w.heap[g]? = some (.cells #[c0, c1] T f)) (x0 x1 : Value) :
  ((w.setCell ⟨g, 0, none⟩ x0).setCell ⟨g, 1, none⟩ x1).heap[g]? = some (.cells #[x0, x1] T f) ∧ Zq g w ((w.setCell ⟨g, 0, none⟩ x0).setCell ⟨g, 1, none⟩ x1) :=
 ⟨Yg (Yg h 0 x0) 1 x1, ((Zq.refl g w).set _ _ _).set _ _ _⟩
abbrev Y4 : Obj := .cells #[.slice none 0 0, .slice none 0 0, .slice none 0 0, .int .i64 0] 29 (0, 0)
def Vu (g : Nat) (w w' : World) : Prop := Zq g w w'
theorem Yn {S : Nat → Prop} {B : Nat} (hS : ∀ b, S b → b < g) (hB : g < B) : ¬ Zw S B g := fun h => h.elim (fun x => by have := hS g x; omega) (fun x => by omega)
def Zi0 (S : Nat → Prop) (g : Nat) (s : St) (w : World) : Prop := ∃ v cs, v = .agg cs ∧ w.heap[g]? = some (.cells cs 29 (0, 0)) ∧ Yb S s v w
theorem Za6 (S : Nat → Prop) (n : Nat) (d : Dk) (v : Value) (w : World) (hS : ∀ b, S b → b < w.heap.size) (hd : Yu S d v w) (hF : d.Fine n) (hn : n ≤ 1000) :
  Calls Tryz.prog 56 #[v] w fun r w' => ∃ v', r = .returned v' ∧ Yb (Zw S w.heap.size) (X2 d) v' w' ∧ Zp w w' := by
 obtain ⟨ab, cb, al, cl, rfl, hb, hl⟩ := hd.form;have g0 := Zr w (.cells #[.slice ab d.blocks.length cb, .slice al d.late.length cl] 26) Y4;have hD0 := Zj w #[.slice ab d.blocks.length cb, .slice al d.late.length cl] 26;have hZ0 := Zj (w.alloc (.cells #[.slice ab d.blocks.length cb, .slice al d.late.length cl] 26)) #[.slice none 0 0, .slice none 0 0, .slice none 0 0, .int .i64 0] 29;have hDD := ((Zc (w.alloc (.cells #[.slice ab d.blocks.length cb, .slice al d.late.length cl] 26)) Y4).block _ (Za hD0)).trans hD0;rw [World.size_alloc] at hZ0;clear hD0 hb hl;have HF : Hid (d.Fine n) := hF;have HFK : Hid ((d.keep 0).Fine 0) := hF.kept 0;obtain ⟨K, hK⟩ : ∃ K, K = d.keep 0 := ⟨_, rfl⟩;have HM : Hid (X2 d = ⟨K, Z5 K 6, 0⟩) := by show _ = _; rw [hK]; rfl
 rw [HM.out];rw [← hK] at HFK;have HK : Hid _ := hK;clear hK hF HM;go_enter Tryz.func56, Tryz.ntmps56;go_wp2_with fail;obtain ⟨W, hW⟩ : ∃ W, W = (w.alloc (.cells #[.slice ab d.blocks.length cb, .slice al d.late.length cl] 26)).alloc Y4 := ⟨_, rfl⟩;have hWs : W.heap.size = w.heap.size + 2 := by rw [hW]; simp
 rw [← hW] at g0 hDD hZ0 ⊢;clear hW;refine (Zjc S n d 0 _ W (fun b h => by have := hS b h; omega) (hd.grow g0) HF.out hn).mono ?_;rw [← HK.out, hWs];rintro r w1 ⟨v1, rfl, h1, g1⟩;obtain ⟨b1, e1, l1, m1, rfl, h1b, h1l⟩ := h1.form;have hD1 := (g1.block _ (Za hDD)).trans hDD;have hZ1 := (g1.block _ (Za hZ0)).trans hZ0;have gw1 := g0.trans g1;obtain ⟨y0, y1⟩ := Xb hD1 rfl rfl;have f0 := Zl hD1 0;have f1 := Zl hD1 1;obtain ⟨hp1, hp2⟩ := Ks hD1 (.slice b1 K.blocks.length e1) (.slice l1 K.late.length m1);have hZ2 := (hp2.block _ (Za hZ1) (by omega)).trans hZ1;have hbb := h1b.but hp2 (Yn hS (by omega));have hll := h1l.but hp2 (Yn hS (by omega));have gw2 := hp2.grow gw1 (Nat.le_refl _);have HSZ : Hid (w.heap.size + 2 ≤ ((w1.setCell ⟨w.heap.size, 0, none⟩ (.slice b1 K.blocks.length e1)).setCell ⟨w.heap.size, 1, none⟩ (.slice l1 K.late.length m1)).heap.size) := Za hZ2;have cs := Zt;clear h1 h1b h1l hD1 hZ1 hp2 gw1 g1 g0 hDD hZ0 hd HF;go_wp2_with fail;clear y0 y1 f0 f1 cs;generalize (w1.setCell ⟨w.heap.size, 0, none⟩ (.slice b1 K.blocks.length e1)).setCell ⟨w.heap.size, 1, none⟩ (.slice l1 K.late.length m1) = W2 at *;have hsm := HFK.out.small (by omega)
 refine Yz [px (.agg #[.slice b1 K.blocks.length e1, .slice l1 K.late.length m1]), px (.agg #[.slice b1 K.blocks.length e1, .slice l1 K.late.length m1]), pl ((fun v w' => Yr (Zw S (w.heap.size + 2)) w' v (Z5 K 6))), pl ((fun v w' => ∃ ai ci, v = .agg #[.slice b1 K.blocks.length e1, .slice l1 K.late.length m1, .slice ai (Z5 K 6).length ci, .int .i64 0] ∧ Yr (Zw S (w.heap.size + 2)) w' (.slice ai (Z5 K 6).length ci) (Z5 K 6))), pl ((fun _ w' => ∃ ai ci, w'.heap[w.heap.size + 1]? = some (.cells #[.slice b1 K.blocks.length e1, .slice l1 K.late.length m1, .slice ai (Z5 K 6).length ci, .int .i64 0] 29 (0, 0)) ∧ Yr (Zw S (w.heap.size + 2)) w' (.slice ai (Z5 K 6).length ci) (Z5 K 6)))] [none, none, none, none, some ((Vu (w.heap.size + 1)))] (fun dn w' => Zp w w' ∧ w.heap.size + 2 ≤ w'.heap.size ∧ w'.heap[w.heap.size]? = some (.cells #[.slice b1 K.blocks.length e1, .slice l1 K.late.length m1] 26 (0, 0)) ∧ Y2 (Zw S (w.heap.size + 2)) w' (.slice b1 K.blocks.length e1) K.blocks ∧ Xm (Zw S (w.heap.size + 2)) w' (.slice l1 K.late.length m1) K.late ∧ (dn 4 = false → w'.heap[w.heap.size + 1]? = some Y4)) (by kernel_rfl) (by kernel_rfl) ⟨se, se, Yl ((fun _ _ _ hg h => Z9.grow h hg)), Yl ((fun _ _ _ hg ⟨ai, ci, h1, h2⟩ => ⟨ai, ci, h1, Z9.grow h2 hg⟩)), Yl ((fun _ _ _ hg ⟨ai, ci, h1, h2⟩ => ⟨ai, ci, (hg.block _ (Za h1)).trans h1, Z9.grow h2 hg⟩)), trivial⟩ ⟨⟨(fun w => Zq.refl _ w), ⟨x5, x5, .inr ((fun v _ w1 w' hs hq => Z9.but hq hs (Yn (fun b h => Nat.lt_succ_of_lt (hS b h)) (Nat.lt_succ_self _)))), .inr ((fun v _ w1 w' hs ⟨ai, ci, h1, h2⟩ => ⟨ai, ci, h1, Z9.but h2 hs (Yn (fun b h => Nat.lt_succ_of_lt (hS b h)) (Nat.lt_succ_self _))⟩)), .inl (by kernel_rfl), trivial⟩⟩, trivial⟩ ⟨n5, n5, n5, n5, fun _ _ _ _ h => h, trivial⟩ ⟨gw2.drew, HSZ.out, hp1, hbb, hll, fun _ => hZ2⟩ ?_ ?_
 ·refine ⟨?_, ?_, ?_, ?_, ?_, trivial⟩
  ·refine Ze rfl fun a _ _ _ _ C B A => ?_;have e1 : a (.tmp 1) = .pointer (some ⟨w.heap.size, 0, none⟩) := Zn A 1 rfl;have z0 := Zd B.2.2.1 0 _ rfl;have z1 := Zd B.2.2.1 1 _ rfl;refine Zk ?_ B rfl;clear A B C;go_simp;all_goals go_arith
  ·refine Ze rfl fun a _ _ _ _ C B A => ?_;have e1 : a (.tmp 1) = .pointer (some ⟨w.heap.size, 0, none⟩) := Zn A 1 rfl;have z0 := Zd B.2.2.1 0 _ rfl;have z1 := Zd B.2.2.1 1 _ rfl;refine Zk ?_ B rfl;clear A B C;go_simp;all_goals go_arith
  ·refine Ze rfl fun a B _ _ _ D C A => ?_;have e6 : a (.tmp 6) = _ := Zg A 1 rfl;refine Yh (f := 27) (args := #[.agg #[.slice b1 K.blocks.length e1, .slice l1 K.late.length m1]]) ?_ ((Zea (Zw S (w.heap.size + 2)) K _ _ B C.2.2.2.1 C.2.2.2.2.1 hsm.1 hsm.2).mono ?_)
   ·clear A C D;go_simp;all_goals go_arith
   ·rintro e w2 ⟨v2, rfl, hE, g2⟩;refine ⟨_, rfl, g2, ⟨C.1.trans g2, Nat.le_trans C.2.1 g2.size, (g2.block _ (Za C.2.2.1)).trans C.2.2.1, C.2.2.2.1.grow g2, C.2.2.2.2.1.grow g2, fun h => (g2.block _ (Za (C.2.2.2.2.2 h))).trans (C.2.2.2.2.2 h)⟩, ?_⟩;rw [show K.blocks.length / 2 = 6 from by rw [HFK.out.len]] at hE;exact hE.mono (Zj9 C.2.1)
  ·refine Ze rfl fun a B _ _ _ D C A => ?_;have e5 : a (.tmp 5) = _ := Zg A 0 rfl;have e7 : ((fun v B => Yr (Zw S (w.heap.size + 2)) B v (Z5 K 6))) (a (.tmp 7)) B := Zg A 2 rfl;obtain ⟨ai, ci, h7⟩ := Z9.form e7;rw [h7] at e7;refine Zk (v := .agg #[.slice b1 K.blocks.length e1, .slice l1 K.late.length m1, .slice ai (Z5 K 6).length ci, .int .i64 0]) ?_ C ⟨ai, ci, rfl, e7⟩;clear A C D e7;go_simp;all_goals go_arith
  ·refine Ze rfl fun a w' _ _ _ C B A => ?_;have e2 : a (.tmp 2) = .pointer (some ⟨w.heap.size + 1, 0, none⟩) := Zn A 2 rfl;have e8 : ((fun v w' => ∃ ai ci, v = .agg #[.slice b1 K.blocks.length e1, .slice l1 K.late.length m1, .slice ai (Z5 K 6).length ci, .int .i64 0] ∧ Yr (Zw S (w.heap.size + 2)) w' (.slice ai (Z5 K 6).length ci) (Z5 K 6))) (a (.tmp 8)) w' := Zg A 3 rfl;obtain ⟨ai, ci, h8, hE⟩ := e8;have hh := B.2.2.2.2.2 C.un;obtain ⟨hq1, hq2⟩ := Ye hh (.slice b1 K.blocks.length e1) (.slice l1 K.late.length m1) (.slice ai (Z5 K 6).length ci) (.int .i64 0);obtain ⟨y0, y1, y2, y3⟩ := Z4 hh rfl rfl rfl rfl;obtain ⟨f0, f1, f2, f3⟩ := Yq hh;have cs := Zt;have hnu : ¬ Zw S (w.heap.size + 2) (w.heap.size + 1) := Yn (fun b h => Nat.lt_succ_of_lt (hS b h)) (Nat.lt_succ_self _);refine Yj (w' := _) ?_ hq2 ⟨hq2.grow B.1 (by omega), Nat.le_trans B.2.1 hq2.size, (hq2.block _ (Za B.2.2.1) (by omega)).trans B.2.2.1, B.2.2.2.1.but hq2 hnu, B.2.2.2.2.1.but hq2 hnu, fun h => by simp [upd] at h⟩ ⟨ai, ci, hq1, hE.but hq2 hnu⟩;clear A B C hq1 hq2 hh hE hnu;go_simp;all_goals go_arith
 ·intro vs w' dn hdn hg ht;obtain ⟨q5, q6, q7, q8, qo4, -⟩ := ht;have r5 : vs 0 = _ := q5;have r6 : vs 1 = _ := q6;replace q7 : ((fun v w' => Yr (Zw S (w.heap.size + 2)) w' v (Z5 K 6))) (vs 2) w' := q7;replace q8 : ((fun v w' => ∃ ai ci, v = .agg #[.slice b1 K.blocks.length e1, .slice l1 K.late.length m1, .slice ai (Z5 K 6).length ci, .int .i64 0] ∧ Yr (Zw S (w.heap.size + 2)) w' (.slice ai (Z5 K 6).length ci) (Z5 K 6))) (vs 3) w' := q8;replace qo4 : ((fun _ w' => ∃ ai ci, w'.heap[w.heap.size + 1]? = some (.cells #[.slice b1 K.blocks.length e1, .slice l1 K.late.length m1, .slice ai (Z5 K 6).length ci, .int .i64 0] 29 (0, 0)) ∧ Yr (Zw S (w.heap.size + 2)) w' (.slice ai (Z5 K 6).length ci) (Z5 K 6))) (vs 4) w' := qo4;clear q5 q6;simp only [Yf, Act.put, List.setIfInBounds_toArray, List.set_cons_zero, List.set_cons_succ, Nat.reduceAdd, r5, r6];clear r5 r6;obtain ⟨ai, ci, hp, hE⟩ := qo4;obtain ⟨y0, y1, y2, y3⟩ := Z4 hp rfl rfl rfl rfl;have gE := hg.1;have hSt : Yb (Zw S w.heap.size) ⟨K, Z5 K 6, 0⟩ (.agg #[.slice b1 K.blocks.length e1, .slice l1 K.late.length m1, .slice ai (Z5 K 6).length ci, .int .i64 0]) w' := ⟨_, _, _, rfl, hg.2.2.2.1.mono (Zz (by omega)), hg.2.2.2.2.1.mono (Zz (by omega)), hE.mono (Zz (by omega))⟩;clear q7 q8 hdn hg hp hE hp1 hZ2 hbb hll gw2;go_wp2_with fail
  exact bodyPost_ret (v := .agg #[.slice b1 K.blocks.length e1, .slice l1 K.late.length m1, .slice ai (Z5 K 6).length ci, .int .i64 0]) (by simp [results, Tryz.results56, go_sem, y0, y1, y2, y3]) rfl ⟨_, rfl, hSt, gE⟩
theorem Zia (S : Nat → Prop) (w : World) (hS : ∀ b, S b → b < w.heap.size) :
  Calls Tryz.prog 30 #[] w fun r w' => ∃ v', r = .returned v' ∧ Yb (Zw S w.heap.size) Y1 v' w' ∧ Zp w w' := by
 have g0 := Zc w Y4;have hZ0 := Zj w #[.slice none 0 0, .slice none 0 0, .slice none 0 0, .int .i64 0] 29;have s0 := World.size_alloc w Y4;go_enter Tryz.func30, Tryz.ntmps30;go_wp2_with fail;generalize World.alloc w _ = W at *;refine (Zxu S W).mono ?_;rintro r w1 ⟨v1, rfl, h1, g1⟩;have hZ1 := (g1.block _ (Za hZ0)).trans hZ0;have gw1 := g0.trans g1;obtain ⟨ab, cb, al, cl, hv, -, -⟩ := h1.form;subst hv;clear hZ0 g0;go_wp2_with fail;have HSZ : Hid (W.heap.size ≤ w1.heap.size) := g1.size;refine (Za6 (fun b => Zw S W.heap.size b ∧ b < w1.heap.size) 0 Dk.new _ w1 (fun b h => h.2) ?_ Zap (by omega)).mono ?_
 ·obtain ⟨vb, vl, h2, h3, h4⟩ := h1;exact ⟨vb, vl, h2, h3.capd, h4.capd⟩
 ·rintro r w2 ⟨v2, rfl, h2, g2⟩;have hZ2 := (g2.block _ (Za hZ1)).trans hZ1;have gw2 := gw1.trans g2;have h3 : Yb (Zw S W.heap.size) Y1 v2 w2 := h2.mono fun b h => h.elim (fun x => x.1) (fun x => .inr (Nat.le_trans HSZ.out x))
  obtain ⟨ab, cb, al, cl, ai, ci, hv, -, -, -⟩ := h3.form;subst hv;obtain ⟨hq1, hq2⟩ := Ye hZ2 (.slice ab Y1.dk.blocks.length cb) (.slice al Y1.dk.late.length cl) (.slice ai Y1.idx.length ci) (.int .i64 Y1.next);obtain ⟨y0, y1, y2, y3⟩ := Z4 hZ2 rfl rfl rfl rfl;obtain ⟨f0, f1, f2, f3⟩ := Yq hZ2;have cs := Zt;obtain ⟨x0, x1, x2, x3⟩ := Z4 hq1 rfl rfl rfl rfl;have gE := hq2.grow gw2 (Nat.le_refl _);have hE := (h3.but hq2 (Yn hS (by omega))).mono (Zz (B := w.heap.size) (by omega));clear hq1 hq2 h3 h2 hZ2 hZ1 gw2 gw1 g1 g2 h1;go_wp2_with fail;exact bodyPost_ret (v := .agg #[.slice ab Y1.dk.blocks.length cb, .slice al Y1.dk.late.length cl, .slice ai Y1.idx.length ci, .int .i64 Y1.next]) (by simp [results, Tryz.results30, go_sem, x0, x1, x2, x3]) rfl ⟨_, rfl, hE, gE⟩
def Zw9 : Prop := ∀ (d : Dd) (a : Option Addr) (c : Nat) (w : World), d.data.length ≤ 140737488355328 → Bytes w (.slice a d.data.length c) d.data →
 Calls Tryz.prog 98 #[.agg #[.int .i64 d.kind, .int .i64 d.key, .int .i64 d.num, .slice a d.data.length c]] w fun r w' => r = .returned (.int .i64 (Ys d)) ∧ Zp w w'
def Zma (l : List Rec) (r : Rec) : Bool := l.any fun x => Qw x r
def Zd8 (a b : List Rec) : Bool := a.all (Zma b) && decide (a.length = b.length)
variable {d : Dd}
def Zyp : Prop := ∀ (S : Nat → Prop) (l : List Rec) (v : Value) (w : World), Za7 l = true → Qs S w v l →
 Calls Tryz.prog 134 #[v] w fun r w' => r = .returned (.int .i64 (Xy l)) ∧ Zp w w'
def Zzk : Prop := ∀ (S : Nat → Prop) (l : List Rec) (d : Dd) (v : Value) (a : Option Addr) (c : Nat) (w : World), (∀ b, S b → b < w.heap.size) → Za7 l = true → Ys d = 0 → Qs S w v l → Z3 S w (.slice a d.data.length c) d.data →
 Calls Tryz.prog 65 #[v, .agg #[.int .i64 d.kind, .int .i64 d.key, .int .i64 d.num, .slice a d.data.length c]] w fun r w' => ∃ v', r = .returned (.tuple #[v', .int .i64 (doR l d).n, .int .i64 (doR l d).e]) ∧ Qs (Zw S w.heap.size) w' v' (doR l d).l ∧ Zp w w'
theorem Zf8 (l : List Rec) : Za7 l = true ↔ (∀ r ∈ l, Yd r = 0 ∧ r.kind ≠ 1) ∧ l.length ≤ 40 := by
 unfold Za7 Zxc;simp only [Bool.and_eq_true, List.all_eq_true, decide_eq_true_eq]
theorem Zaf (h : Ys d = 0) : 1 ≤ d.kind ∧ d.kind ≤ 3 ∧ 1 ≤ d.key ∧ d.key ≤ 255 ∧ d.data.length ≤ 8 ∧ (d.kind = 1 ∨ d.data.length = 0) := by
 unfold Ys at h;by_cases h1 : d.kind < 1 ∨ 3 < d.kind
 ·rw [if_pos h1] at h; omega
 ·rw [if_neg h1] at h;generalize (if d.kind = 3 then (1 : Int) else 0) = lo at h;generalize (if d.kind = 3 then (60000 : Int) else 0) = hi at h;by_cases h2 : d.key < 1 ∨ 255 < d.key ∨ d.num < lo ∨ hi < d.num
  ·rw [if_pos h2] at h; omega
  ·rw [if_neg h2] at h;by_cases h3 : 8 < d.data.length ∨ d.kind ≠ 1 ∧ d.data.length ≠ 0
   ·rw [if_pos h3] at h; omega
   ·omega
theorem Zih : ∀ (l : List Rec) (n : Int), n ≤ l.foldl (fun n r => if n ≤ r.ver then r.ver + 1 else n) n ∧ ∀ r ∈ l, r.ver < l.foldl (fun n r => if n ≤ r.ver then r.ver + 1 else n) n
 | [], n => ⟨Int.le_refl _, fun r h => by cases h⟩
 | x :: l, n => by
  rw [List.foldl_cons];obtain ⟨h1, h2⟩ := Zih l (if n ≤ x.ver then x.ver + 1 else n);have h3 : n ≤ (if n ≤ x.ver then x.ver + 1 else n) ∧ x.ver < (if n ≤ x.ver then x.ver + 1 else n) := by split <;> omega
  refine ⟨by omega, fun r hr => ?_⟩;rcases List.mem_cons.1 hr with rfl | hr
  ·omega
  ·exact h2 r hr
theorem Zfj {l : List Rec} : 1 ≤ Xy l ∧ ∀ r ∈ l, r.ver < Xy l := Zih l 1
theorem Zc5 {n : Int} (hw : Ys d = 0) (hk : d.kind ≠ 3) (h0 : 1 ≤ n) (h1 : n ≤ 60000) : Yd (Xx d n) = 0 ∧ (Xx d n).kind ≠ 1 := by
 obtain ⟨a1, a2, a3, a4, a5, a6⟩ := Zaf hw;have hkk : d.kind = 1 ∨ d.kind = 2 := by omega
 refine ⟨?_, show 1 + d.kind ≠ 1 by omega⟩;obtain ⟨dk, dy, dn, dd⟩ := d;simp only at hkk a3 a4 a5 a6;rcases hkk with rfl | rfl
 ·show Yd ⟨2, dy, n, dd⟩ = 0;have h2 : Xi ⟨2, dy, n, dd⟩ = true := by simp [Xi]; omega
  unfold Yd;rw [if_neg (by simp), h2, if_neg (by simp), if_neg (by simp [Xg]; omega)]
 ·have h6 : dd = [] := List.eq_nil_of_length_eq_zero (by omega);show Yd ⟨3, dy, n, dd⟩ = 0;have h2 : Xi ⟨3, dy, n, dd⟩ = true := by simp [Xi]; omega
  unfold Yd;rw [if_neg (by simp), h2, if_neg (by simp), if_neg (by simp [Xg, h6])]
theorem Zkm (l : List Rec) : Zd8 l l = true := by
 unfold Zd8;simp only [Bool.and_eq_true, List.all_eq_true, decide_eq_true_eq, and_true];intro r hr;unfold Zma;rw [List.any_eq_true];exact ⟨r, hr, Zm0 r⟩
end Go.Proofs.YtpdnapbchcdhlacGreat
