import Derived.Test.YtpdnapbchcdhlacGreatRDo
set_option maxHeartbeats 8000000
namespace Go.Proofs.YtpdnapbchcdhlacGreat
set_option maxRecDepth 100000
open Go.RowKit
open Plain Reg
variable {S : Nat → Prop} {v : Value} {w w' : World}
structure St where
 dk : Dk
 idx : List Ent
 next : Int
def St.recs (s : St) : List Rec := s.idx.map Ent.rc
def X5 (d : Dk) : St := ⟨d.keep 0, Z3 (d.keep 0) 6, 0⟩
def Xg : St := X5 Dk.new
def Z8 (S : Nat → Prop) (s : St) (v : Value) (w : World) : Prop := ∃ vb vl vi, v = .agg #[vb, vl, vi, .int .i64 s.next] ∧ Y0 S w vb s.dk.blocks ∧ Xl S w vl s.dk.late ∧ Ys S w vi s.idx
theorem Z8.grow {s : St} (h : Z8 S s v w) (hg : Zn w w') : Z8 S s v w' := by
 obtain ⟨vb, vl, vi, h1, h2, h3, h4⟩ := h; exact ⟨vb, vl, vi, h1, h2.grow hg, h3.grow hg, h4.grow hg⟩
theorem Z8.mono {S' : Nat → Prop} {s : St} (h : Z8 S s v w) (hS : ∀ b, S b → S' b) : Z8 S' s v w := by
 obtain ⟨vb, vl, vi, h1, h2, h3, h4⟩ := h; exact ⟨vb, vl, vi, h1, h2.mono hS, h3.mono hS, h4.mono hS⟩
theorem Z8.but {g : Nat} {s : St} (h : Z8 S s v w) (hg : Zo g w w') (hn : ¬ S g) : Z8 S s v w' := by
 obtain ⟨vb, vl, vi, h1, h2, h3, h4⟩ := h; exact ⟨vb, vl, vi, h1, h2.but hg hn, h3.but hg hn, h4.but hg hn⟩
theorem Z8.form {s : St} (h : Z8 S s v w) : ∃ ab cb al cl ai ci, v = .agg #[.slice ab s.dk.blocks.length cb, .slice al s.dk.late.length cl, .slice ai s.idx.length ci, .int .i64 s.next] ∧ Y0 S w (.slice ab s.dk.blocks.length cb) s.dk.blocks ∧ Xl S w (.slice al s.dk.late.length cl) s.dk.late ∧ Ys S w (.slice ai s.idx.length ci) s.idx := by
 obtain ⟨vb, vl, vi, h1, h2, h3, h4⟩ := h;obtain ⟨ab, cb, rfl⟩ := h2.p.form;obtain ⟨al, cl, rfl⟩ := h3.p.form;obtain ⟨ai, ci, rfl⟩ := h4.form;exact ⟨ab, cb, al, cl, ai, ci, h1, h2, h3, h4⟩
theorem Zjn {B B' : Nat} (h : B ≤ B') : ∀ b, Zs (Zs S B) B' b → Zs S B b := fun _ hb => hb.elim (fun x => x) (fun x => .inr (Nat.le_trans h x))
theorem Y0.capd {bs : List (List UInt8)} (h : Y0 S w v bs) : Y0 (fun b => S b ∧ b < w.heap.size) w v bs := by
 by_cases h0 : bs = []
 ·subst h0;rcases h with h | ⟨b, off, cap, hS, rfl, h1, hc⟩
  ·exact .inl h
  ·exact .inl ⟨_, cap, rfl, rfl, fun h => by cases h⟩
 ·rcases h with ⟨_, _, _, h1, _⟩ | ⟨b, off, cap, hS, h2, h1, hc⟩
  ·exact absurd h1 h0
  ·obtain ⟨u, k1, _⟩ := hc 0 (List.length_pos_iff.2 h0);exact .inr ⟨b, off, cap, ⟨hS, Zv k1⟩, h2, h1, fun i hi => (hc i hi).imp fun _ x => ⟨x.1, x.2.caps⟩⟩
theorem Xl.capd {ws : List Wr} (h : Xl S w v ws) : Xl (fun b => S b ∧ b < w.heap.size) w v ws := by
 by_cases h0 : ws = []
 ·subst h0;rcases h with h | ⟨b, off, cap, hS, rfl, h1, hc⟩
  ·exact .inl h
  ·exact .inl ⟨_, cap, rfl, rfl, fun h => by cases h⟩
 ·rcases h with ⟨_, _, _, h1, _⟩ | ⟨b, off, cap, hS, h2, h1, hc⟩
  ·exact absurd h1 h0
  ·obtain ⟨k1, _⟩ := hc 0 (List.length_pos_iff.2 h0);exact .inr ⟨b, off, cap, ⟨hS, Zv k1⟩, h2, h1, fun i hi => ⟨(hc i hi).1, (hc i hi).2.imp fun _ x => ⟨x.1, x.2.caps⟩⟩⟩
theorem Z8.capd {s : St} (h : Z8 S s v w) : Z8 (fun b => S b ∧ b < w.heap.size) s v w := by
 obtain ⟨vb, vl, vi, h1, h2, h3, h4⟩ := h; exact ⟨vb, vl, vi, h1, h2.capd, h3.capd, h4.caps (by decide)⟩
theorem Dk.Fine.small {n : Nat} {d : Dk} (h : d.Fine n) (hn : n ≤ 1000) : d.blocks.length ≤ 256 ∧ d.late.length ≤ 999990 := ⟨by rw [h.len]; omega, by have := h.few; omega⟩
theorem Zyg (w : World) (x y z u : Value) (e : TypeId) (j : Nat) (c : Value) (h : [x, y, z, u][j]? = some c) : (w.alloc (.cells #[x, y, z, u] e)).cell? ((⟨w.heap.size, 0, none⟩ : Addr).add j) = some c := by
 match j, h with
 | 0, h => simp at h; subst h; simp [Addr.add]
 | 1, h => simp at h; subst h; simp [Addr.add]
 | 2, h => simp at h; subst h; simp [Addr.add]
 | 3, h => simp at h; subst h; simp [Addr.add]
 | j + 4, h => simp at h
theorem Zc9 (S : Nat → Prop) (s : St) (v : Value) (w : World) (hS : ∀ b, S b → b < w.heap.size) (hs : Z8 S s v w) (hn : s.idx.length ≤ 1000) :
  Calls Tryz.prog 25 #[v] w fun r w' => ∃ v', r = .returned v' ∧ Qs (Zs S w.heap.size) w' v' s.recs ∧ Zn w w' := by
 obtain ⟨i0, hif, hz0, hz1, hz2⟩ := info_parts Kv;obtain ⟨ab, cb, al, cl, ai, ci, rfl, -, -, hi⟩ := hs.form;have g0 := Zb w (.cells #[.slice ab s.dk.blocks.length cb, .slice al s.dk.late.length cl, .slice ai s.idx.length ci, .int .i64 s.next] 29);have hx := Zg w #[.slice ab s.dk.blocks.length cb, .slice al s.dk.late.length cl, .slice ai s.idx.length ci, .int .i64 s.next] 29;have x2 := Zc hx 2 _ rfl;clear hs;have HLN : Hid (s.recs.length = s.idx.length) := List.length_map ..;go_enter Tryz.func25, Tryz.ntmps25;go_wp2_with fail;generalize World.alloc w _ = W at *;clear x2 hx;go_loopw [3, 9] (fun o i wr => ∃ (k : Nat) (css : List (List Value)), k ≤ s.idx.length ∧ i = .int .i64 (k : Int) ∧ Yv Yo S w.heap.size o (s.recs.take k) css wr ∧ Zn w wr) (fun _ i _ => s.idx.length - (intOf i).toNat)
 case atStart => exact ⟨0, [], Nat.zero_le _, rfl, Yv.nil _ _ _ _, g0⟩
 case round =>
  clear g0;obtain ⟨k, css, hk, rfl, hR, hg⟩ := hrel;by_cases hlt : k < s.idx.length
  ·obtain ⟨b, off, a1, c1, hv1, q0, q1, q2, q3, q4, hu⟩ := Jb (hi.grow hg) k hlt;cases hv1;have hxl : (s.recs.take k).length ≤ 1000 := by rw [List.length_take, HLN.out]; omega
   have HT : Hid (s.recs.take (k + 1) = s.recs.take k ++ [s.idx[k].rc]) := by
    show _ = _;rw [List.take_succ_eq_append_getElem (by rw [HLN.out]; exact hlt)];simp [St.recs]
   generalize s.idx[k] = x at *;generalize s.recs.take k = xs at *;obtain ⟨a0, c0, rfl⟩ := hR.form;have g1 := Zb wr (.cells #[.int .i64 x.rc.kind, .int .i64 x.rc.key, .int .i64 x.rc.ver, .slice a1 x.rc.data.length c1, .int .i64 x.pair] 92);have hX1 := Zg wr #[.int .i64 x.rc.kind, .int .i64 x.rc.key, .int .i64 x.rc.ver, .slice a1 x.rc.data.length c1, .int .i64 x.pair] 92;have hR3 := hR.grow g1;have hu3 := hu.grow g1;have gw3 := hg.trans g1;have s3 := World.size_alloc wr (.cells #[.int .i64 x.rc.kind, .int .i64 x.rc.key, .int .i64 x.rc.ver, .slice a1 x.rc.data.length c1, .int .i64 x.pair] 92);have HSZ : Hid (w.heap.size ≤ wr.heap.size) := hg.size;clear hR hu hg g1;obtain ⟨x0, x1, x2, x3⟩ := Z4 hX1 rfl rfl rfl rfl;have hnew : ∀ (j : Nat) u, ([.int .i64 x.rc.kind, .int .i64 x.rc.key, .int .i64 x.rc.ver, .slice a1 x.rc.data.length c1] : List Value)[j]? = some u → ((wr.alloc (.cells #[.int .i64 x.rc.kind, .int .i64 x.rc.key, .int .i64 x.rc.ver, .slice a1 x.rc.data.length c1, .int .i64 x.pair] 92)).alloc (.cells #[.int .i64 x.rc.kind, .int .i64 x.rc.key, .int .i64 x.rc.ver, .slice a1 x.rc.data.length c1] 61)).cell? ((⟨wr.heap.size + 1, 0, none⟩ : Addr).add j) = some u := fun j u hj => by rw [← s3]; exact Zyg _ _ _ _ _ 61 j u hj
   clear s3 hX1;go_wp2_with (first | (at_builtin; refine wpList_append_own _ rfl (.tmp 13) (.tmp 16) 58 rfl (w.heap.size) 61 i0 (.agg #[.int .i64 0, .int .i64 0, .int .i64 0, .slice none 0 0]) 4 48 Tryz.underlying58 hif hz0 hz1 hz2 rfl (by decide) (.slice a0 xs.length c0) _ _ rfl (hR3.row.alloc _) ⟨wr.heap.size + 1, 0, none⟩ 1 1 [.int .i64 x.rc.kind, .int .i64 x.rc.key, .int .i64 x.rc.ver, .slice a1 x.rc.data.length c1] rfl rfl hnew (by intro u hu; simp at hu; rcases hu with rfl | rfl | rfl | rfl <;> rfl) (by unfold maxLen; omega) (by omega) (by have := HSZ.out; simp; omega) ?_; intro v4 w4 hown4 hgrow4 _; have hR6 := hR3.step (x := x.rc) (by decide) hS ⟨_, rfl, hu3.mono (fun _ h => .inl h)⟩ hgrow4 hown4; have g6 : Zn w w4 := Ya (gw3.trans (Zb _ _)) hgrow4 (fun k hk => (hR3.row.lt k hk).1); have hsl := Y4 hown4; obtain ⟨a4, c4, hv4⟩ := hsl; subst hv4; clear hgrow4 hown4 hR3 hnew gw3));go_roundw
   case rel => exact ⟨k + 1, _, by omega, by go_num, by rw [HT.out]; exact hR6, g6⟩
   case measure => simp [intOf]; omega
  ·have hE := hR.slice;rw [List.take_of_length_le (by rw [HLN.out]; omega)] at hE;clear hR hi;obtain ⟨a4, c4, rfl⟩ := hE.form;go_wp2_with fail;go_ret;exact ⟨_, rfl, hE, hg⟩
variable {g : Nat}
theorem Ko {w : World} {T : TypeId} {f} {c0 c1 : Value} (h : w.heap[g]? = some (.cells #[c0, c1] T f)) (x0 x1 : Value) :
  ((w.setCell ⟨g, 0, none⟩ x0).setCell ⟨g, 1, none⟩ x1).heap[g]? = some (.cells #[x0, x1] T f) ∧ Zo g w ((w.setCell ⟨g, 0, none⟩ x0).setCell ⟨g, 1, none⟩ x1) :=
 ⟨Ye (Ye h 0 x0) 1 x1, ((Zo.refl g w).set _ _ _).set _ _ _⟩
abbrev Y6 : Obj := .cells #[.slice none 0 0, .slice none 0 0, .slice none 0 0, .int .i64 0] 29 (0, 0)
def Vu (g : Nat) (w w' : World) : Prop := Zo g w w'
theorem Ym {S : Nat → Prop} {B : Nat} (hS : ∀ b, S b → b < g) (hB : g < B) : ¬ Zs S B g := fun h => h.elim (fun x => by have := hS g x; omega) (fun x => by omega)
def Zih (S : Nat → Prop) (g : Nat) (s : St) (w : World) : Prop := ∃ v cs, v = .agg cs ∧ w.heap[g]? = some (.cells cs 29 (0, 0)) ∧ Z8 S s v w
theorem Za1 (S : Nat → Prop) (n : Nat) (d : Dk) (v : Value) (w : World) (hS : ∀ b, S b → b < w.heap.size) (hd : Yu S d v w) (hF : d.Fine n) (hn : n ≤ 1000) :
  Calls Tryz.prog 56 #[v] w fun r w' => ∃ v', r = .returned v' ∧ Z8 (Zs S w.heap.size) (X5 d) v' w' ∧ Zn w w' := by
 obtain ⟨ab, cb, al, cl, rfl, hb, hl⟩ := hd.form;have g0 := Zp w (.cells #[.slice ab d.blocks.length cb, .slice al d.late.length cl] 26) Y6;have hD0 := Zg w #[.slice ab d.blocks.length cb, .slice al d.late.length cl] 26;have hZ0 := Zg (w.alloc (.cells #[.slice ab d.blocks.length cb, .slice al d.late.length cl] 26)) #[.slice none 0 0, .slice none 0 0, .slice none 0 0, .int .i64 0] 29;have hDD := ((Zb (w.alloc (.cells #[.slice ab d.blocks.length cb, .slice al d.late.length cl] 26)) Y6).block _ (Za hD0)).trans hD0;rw [World.size_alloc] at hZ0;clear hD0 hb hl;have HF : Hid (d.Fine n) := hF;have HFK : Hid ((d.keep 0).Fine 0) := hF.kept 0;obtain ⟨K, hK⟩ : ∃ K, K = d.keep 0 := ⟨_, rfl⟩;have HM : Hid (X5 d = ⟨K, Z3 K 6, 0⟩) := by show _ = _; rw [hK]; rfl
 rw [HM.out];rw [← hK] at HFK;have HK : Hid _ := hK;clear hK hF HM;go_enter Tryz.func56, Tryz.ntmps56;go_wp2_with fail;obtain ⟨W, hW⟩ : ∃ W, W = (w.alloc (.cells #[.slice ab d.blocks.length cb, .slice al d.late.length cl] 26)).alloc Y6 := ⟨_, rfl⟩;have hWs : W.heap.size = w.heap.size + 2 := by rw [hW]; simp
 rw [← hW] at g0 hDD hZ0 ⊢;clear hW;refine (Zir S n d 0 _ W (fun b h => by have := hS b h; omega) (hd.grow g0) HF.out hn).mono ?_;rw [← HK.out, hWs];rintro r w1 ⟨v1, rfl, h1, g1⟩;obtain ⟨b1, e1, l1, m1, rfl, h1b, h1l⟩ := h1.form;have hD1 := (g1.block _ (Za hDD)).trans hDD;have hZ1 := (g1.block _ (Za hZ0)).trans hZ0;have gw1 := g0.trans g1;obtain ⟨y0, y1⟩ := Y9 hD1 rfl rfl;have f0 := Zi hD1 0;have f1 := Zi hD1 1;obtain ⟨hp1, hp2⟩ := Ko hD1 (.slice b1 K.blocks.length e1) (.slice l1 K.late.length m1);have hZ2 := (hp2.block _ (Za hZ1) (by omega)).trans hZ1;have hbb := h1b.but hp2 (Ym hS (by omega));have hll := h1l.but hp2 (Ym hS (by omega));have gw2 := hp2.grow gw1 (Nat.le_refl _);have HSZ : Hid (w.heap.size + 2 ≤ ((w1.setCell ⟨w.heap.size, 0, none⟩ (.slice b1 K.blocks.length e1)).setCell ⟨w.heap.size, 1, none⟩ (.slice l1 K.late.length m1)).heap.size) := Za hZ2;have cs := Zr;clear h1 h1b h1l hD1 hZ1 hp2 gw1 g1 g0 hDD hZ0 hd HF;go_wp2_with fail;clear y0 y1 f0 f1 cs;generalize (w1.setCell ⟨w.heap.size, 0, none⟩ (.slice b1 K.blocks.length e1)).setCell ⟨w.heap.size, 1, none⟩ (.slice l1 K.late.length m1) = W2 at *;have hsm := HFK.out.small (by omega)
 refine Yx [px (.agg #[.slice b1 K.blocks.length e1, .slice l1 K.late.length m1]), px (.agg #[.slice b1 K.blocks.length e1, .slice l1 K.late.length m1]), pl ((fun v w' => Ys (Zs S (w.heap.size + 2)) w' v (Z3 K 6))), pl ((fun v w' => ∃ ai ci, v = .agg #[.slice b1 K.blocks.length e1, .slice l1 K.late.length m1, .slice ai (Z3 K 6).length ci, .int .i64 0] ∧ Ys (Zs S (w.heap.size + 2)) w' (.slice ai (Z3 K 6).length ci) (Z3 K 6))), pl ((fun _ w' => ∃ ai ci, w'.heap[w.heap.size + 1]? = some (.cells #[.slice b1 K.blocks.length e1, .slice l1 K.late.length m1, .slice ai (Z3 K 6).length ci, .int .i64 0] 29 (0, 0)) ∧ Ys (Zs S (w.heap.size + 2)) w' (.slice ai (Z3 K 6).length ci) (Z3 K 6)))] [none, none, none, none, some ((Vu (w.heap.size + 1)))] (fun dn w' => Zn w w' ∧ w.heap.size + 2 ≤ w'.heap.size ∧ w'.heap[w.heap.size]? = some (.cells #[.slice b1 K.blocks.length e1, .slice l1 K.late.length m1] 26 (0, 0)) ∧ Y0 (Zs S (w.heap.size + 2)) w' (.slice b1 K.blocks.length e1) K.blocks ∧ Xl (Zs S (w.heap.size + 2)) w' (.slice l1 K.late.length m1) K.late ∧ (dn 4 = false → w'.heap[w.heap.size + 1]? = some Y6)) (by kernel_rfl) (by kernel_rfl) ⟨se, se, Yj ((fun _ _ _ hg h => Z7.grow h hg)), Yj ((fun _ _ _ hg ⟨ai, ci, h1, h2⟩ => ⟨ai, ci, h1, Z7.grow h2 hg⟩)), Yj ((fun _ _ _ hg ⟨ai, ci, h1, h2⟩ => ⟨ai, ci, (hg.block _ (Za h1)).trans h1, Z7.grow h2 hg⟩)), trivial⟩ ⟨⟨(fun w => Zo.refl _ w), ⟨x5, x5, .inr ((fun v _ w1 w' hs hq => Z7.but hq hs (Ym (fun b h => Nat.lt_succ_of_lt (hS b h)) (Nat.lt_succ_self _)))), .inr ((fun v _ w1 w' hs ⟨ai, ci, h1, h2⟩ => ⟨ai, ci, h1, Z7.but h2 hs (Ym (fun b h => Nat.lt_succ_of_lt (hS b h)) (Nat.lt_succ_self _))⟩)), .inl (by kernel_rfl), trivial⟩⟩, trivial⟩ ⟨n5, n5, n5, n5, fun _ _ _ _ h => h, trivial⟩ ⟨gw2.drew, HSZ.out, hp1, hbb, hll, fun _ => hZ2⟩ ?_ ?_
 ·refine ⟨?_, ?_, ?_, ?_, ?_, trivial⟩
  ·refine Zd rfl fun a _ _ _ _ C B A => ?_;have e1 : a (.tmp 1) = .pointer (some ⟨w.heap.size, 0, none⟩) := Zl A 1 rfl;have z0 := Zc B.2.2.1 0 _ rfl;have z1 := Zc B.2.2.1 1 _ rfl;refine Zh ?_ B rfl;clear A B C;go_simp;all_goals go_arith
  ·refine Zd rfl fun a _ _ _ _ C B A => ?_;have e1 : a (.tmp 1) = .pointer (some ⟨w.heap.size, 0, none⟩) := Zl A 1 rfl;have z0 := Zc B.2.2.1 0 _ rfl;have z1 := Zc B.2.2.1 1 _ rfl;refine Zh ?_ B rfl;clear A B C;go_simp;all_goals go_arith
  ·refine Zd rfl fun a B _ _ _ D C A => ?_;have e6 : a (.tmp 6) = _ := Ze A 1 rfl;refine Yf (f := 27) (args := #[.agg #[.slice b1 K.blocks.length e1, .slice l1 K.late.length m1]]) ?_ ((Zht (Zs S (w.heap.size + 2)) K _ _ B C.2.2.2.1 C.2.2.2.2.1 hsm.1 hsm.2).mono ?_)
   ·clear A C D;go_simp;all_goals go_arith
   ·rintro e w2 ⟨v2, rfl, hE, g2⟩;refine ⟨_, rfl, g2, ⟨C.1.trans g2, Nat.le_trans C.2.1 g2.size, (g2.block _ (Za C.2.2.1)).trans C.2.2.1, C.2.2.2.1.grow g2, C.2.2.2.2.1.grow g2, fun h => (g2.block _ (Za (C.2.2.2.2.2 h))).trans (C.2.2.2.2.2 h)⟩, ?_⟩;rw [show K.blocks.length / 2 = 6 from by rw [HFK.out.len]] at hE;exact hE.mono (Zjn C.2.1)
  ·refine Zd rfl fun a B _ _ _ D C A => ?_;have e5 : a (.tmp 5) = _ := Ze A 0 rfl;have e7 : ((fun v B => Ys (Zs S (w.heap.size + 2)) B v (Z3 K 6))) (a (.tmp 7)) B := Ze A 2 rfl;obtain ⟨ai, ci, h7⟩ := Z7.form e7;rw [h7] at e7;refine Zh (v := .agg #[.slice b1 K.blocks.length e1, .slice l1 K.late.length m1, .slice ai (Z3 K 6).length ci, .int .i64 0]) ?_ C ⟨ai, ci, rfl, e7⟩;clear A C D e7;go_simp;all_goals go_arith
  ·refine Zd rfl fun a w' _ _ _ C B A => ?_;have e2 : a (.tmp 2) = .pointer (some ⟨w.heap.size + 1, 0, none⟩) := Zl A 2 rfl;have e8 : ((fun v w' => ∃ ai ci, v = .agg #[.slice b1 K.blocks.length e1, .slice l1 K.late.length m1, .slice ai (Z3 K 6).length ci, .int .i64 0] ∧ Ys (Zs S (w.heap.size + 2)) w' (.slice ai (Z3 K 6).length ci) (Z3 K 6))) (a (.tmp 8)) w' := Ze A 3 rfl;obtain ⟨ai, ci, h8, hE⟩ := e8;have hh := B.2.2.2.2.2 C.un;obtain ⟨hq1, hq2⟩ := Yd hh (.slice b1 K.blocks.length e1) (.slice l1 K.late.length m1) (.slice ai (Z3 K 6).length ci) (.int .i64 0);obtain ⟨y0, y1, y2, y3⟩ := Z4 hh rfl rfl rfl rfl;obtain ⟨f0, f1, f2, f3⟩ := Yr hh;have cs := Zr;have hnu : ¬ Zs S (w.heap.size + 2) (w.heap.size + 1) := Ym (fun b h => Nat.lt_succ_of_lt (hS b h)) (Nat.lt_succ_self _);refine Yg (w' := _) ?_ hq2 ⟨hq2.grow B.1 (by omega), Nat.le_trans B.2.1 hq2.size, (hq2.block _ (Za B.2.2.1) (by omega)).trans B.2.2.1, B.2.2.2.1.but hq2 hnu, B.2.2.2.2.1.but hq2 hnu, fun h => by simp [upd] at h⟩ ⟨ai, ci, hq1, hE.but hq2 hnu⟩;clear A B C hq1 hq2 hh hE hnu;go_simp;all_goals go_arith
 ·intro vs w' dn hdn hg ht;obtain ⟨q5, q6, q7, q8, qo4, -⟩ := ht;have r5 : vs 0 = _ := q5;have r6 : vs 1 = _ := q6;replace q7 : ((fun v w' => Ys (Zs S (w.heap.size + 2)) w' v (Z3 K 6))) (vs 2) w' := q7;replace q8 : ((fun v w' => ∃ ai ci, v = .agg #[.slice b1 K.blocks.length e1, .slice l1 K.late.length m1, .slice ai (Z3 K 6).length ci, .int .i64 0] ∧ Ys (Zs S (w.heap.size + 2)) w' (.slice ai (Z3 K 6).length ci) (Z3 K 6))) (vs 3) w' := q8;replace qo4 : ((fun _ w' => ∃ ai ci, w'.heap[w.heap.size + 1]? = some (.cells #[.slice b1 K.blocks.length e1, .slice l1 K.late.length m1, .slice ai (Z3 K 6).length ci, .int .i64 0] 29 (0, 0)) ∧ Ys (Zs S (w.heap.size + 2)) w' (.slice ai (Z3 K 6).length ci) (Z3 K 6))) (vs 4) w' := qo4;clear q5 q6;simp only [Yi, Act.put, List.setIfInBounds_toArray, List.set_cons_zero, List.set_cons_succ, Nat.reduceAdd, r5, r6];clear r5 r6;obtain ⟨ai, ci, hp, hE⟩ := qo4;obtain ⟨y0, y1, y2, y3⟩ := Z4 hp rfl rfl rfl rfl;have gE := hg.1;have hSt : Z8 (Zs S w.heap.size) ⟨K, Z3 K 6, 0⟩ (.agg #[.slice b1 K.blocks.length e1, .slice l1 K.late.length m1, .slice ai (Z3 K 6).length ci, .int .i64 0]) w' := ⟨_, _, _, rfl, hg.2.2.2.1.mono (Zw (by omega)), hg.2.2.2.2.1.mono (Zw (by omega)), hE.mono (Zw (by omega))⟩;clear q7 q8 hdn hg hp hE hp1 hZ2 hbb hll gw2;go_wp2_with fail
  exact bodyPost_ret (v := .agg #[.slice b1 K.blocks.length e1, .slice l1 K.late.length m1, .slice ai (Z3 K 6).length ci, .int .i64 0]) (by simp [results, Tryz.results56, go_sem, y0, y1, y2, y3]) rfl ⟨_, rfl, hSt, gE⟩
theorem Zpu (S : Nat → Prop) (w : World) (hS : ∀ b, S b → b < w.heap.size) :
  Calls Tryz.prog 30 #[] w fun r w' => ∃ v', r = .returned v' ∧ Z8 (Zs S w.heap.size) Xg v' w' ∧ Zn w w' := by
 have g0 := Zb w Y6;have hZ0 := Zg w #[.slice none 0 0, .slice none 0 0, .slice none 0 0, .int .i64 0] 29;have s0 := World.size_alloc w Y6;go_enter Tryz.func30, Tryz.ntmps30;go_wp2_with fail;generalize World.alloc w _ = W at *;refine (Zxc S W).mono ?_;rintro r w1 ⟨v1, rfl, h1, g1⟩;have hZ1 := (g1.block _ (Za hZ0)).trans hZ0;have gw1 := g0.trans g1;obtain ⟨ab, cb, al, cl, hv, -, -⟩ := h1.form;subst hv;clear hZ0 g0;go_wp2_with fail;have HSZ : Hid (W.heap.size ≤ w1.heap.size) := g1.size;refine (Za1 (fun b => Zs S W.heap.size b ∧ b < w1.heap.size) 0 Dk.new _ w1 (fun b h => h.2) ?_ Zak (by omega)).mono ?_
 ·obtain ⟨vb, vl, h2, h3, h4⟩ := h1;exact ⟨vb, vl, h2, h3.capd, h4.capd⟩
 ·rintro r w2 ⟨v2, rfl, h2, g2⟩;have hZ2 := (g2.block _ (Za hZ1)).trans hZ1;have gw2 := gw1.trans g2;have h3 : Z8 (Zs S W.heap.size) Xg v2 w2 := h2.mono fun b h => h.elim (fun x => x.1) (fun x => .inr (Nat.le_trans HSZ.out x))
  obtain ⟨ab, cb, al, cl, ai, ci, hv, -, -, -⟩ := h3.form;subst hv;obtain ⟨hq1, hq2⟩ := Yd hZ2 (.slice ab Xg.dk.blocks.length cb) (.slice al Xg.dk.late.length cl) (.slice ai Xg.idx.length ci) (.int .i64 Xg.next);obtain ⟨y0, y1, y2, y3⟩ := Z4 hZ2 rfl rfl rfl rfl;obtain ⟨f0, f1, f2, f3⟩ := Yr hZ2;have cs := Zr;obtain ⟨x0, x1, x2, x3⟩ := Z4 hq1 rfl rfl rfl rfl;have gE := hq2.grow gw2 (Nat.le_refl _);have hE := (h3.but hq2 (Ym hS (by omega))).mono (Zw (B := w.heap.size) (by omega));clear hq1 hq2 h3 h2 hZ2 hZ1 gw2 gw1 g1 g2 h1;go_wp2_with fail;exact bodyPost_ret (v := .agg #[.slice ab Xg.dk.blocks.length cb, .slice al Xg.dk.late.length cl, .slice ai Xg.idx.length ci, .int .i64 Xg.next]) (by simp [results, Tryz.results30, go_sem, x0, x1, x2, x3]) rfl ⟨_, rfl, hE, gE⟩
def Zwr : Prop := ∀ (d : Dd) (a : Option Addr) (c : Nat) (w : World), d.data.length ≤ 140737488355328 → Bytes w (.slice a d.data.length c) d.data →
 Calls Tryz.prog 98 #[.agg #[.int .i64 d.kind, .int .i64 d.key, .int .i64 d.num, .slice a d.data.length c]] w fun r w' => r = .returned (.int .i64 (Yq d)) ∧ Zn w w'
def Zlp (l : List Rec) (r : Rec) : Bool := l.any fun x => Q6 x r
def Zdz (a b : List Rec) : Bool := a.all (Zlp b) && decide (a.length = b.length)
variable {d : Dd}
def Zx7 : Prop := ∀ (S : Nat → Prop) (l : List Rec) (v : Value) (w : World), Za2 l = true → Qs S w v l →
 Calls Tryz.prog 134 #[v] w fun r w' => r = .returned (.int .i64 (Xy l)) ∧ Zn w w'
def Zy1 : Prop := ∀ (S : Nat → Prop) (l : List Rec) (d : Dd) (v : Value) (a : Option Addr) (c : Nat) (w : World), (∀ b, S b → b < w.heap.size) → Za2 l = true → Yq d = 0 → Qs S w v l → Z0 S w (.slice a d.data.length c) d.data →
 Calls Tryz.prog 65 #[v, .agg #[.int .i64 d.kind, .int .i64 d.key, .int .i64 d.num, .slice a d.data.length c]] w fun r w' => ∃ v', r = .returned (.tuple #[v', .int .i64 (doR l d).n, .int .i64 (doR l d).e]) ∧ Qs (Zs S w.heap.size) w' v' (doR l d).l ∧ Zn w w'
theorem Zft (l : List Rec) : Za2 l = true ↔ (∀ r ∈ l, Z9 r = 0 ∧ r.kind ≠ 1) ∧ l.length ≤ 40 := by
 unfold Za2 Zwu;simp only [Bool.and_eq_true, List.all_eq_true, decide_eq_true_eq]
theorem Zaa (h : Yq d = 0) : 1 ≤ d.kind ∧ d.kind ≤ 3 ∧ 1 ≤ d.key ∧ d.key ≤ 255 ∧ d.data.length ≤ 8 ∧ (d.kind = 1 ∨ d.data.length = 0) := by
 unfold Yq at h;by_cases h1 : d.kind < 1 ∨ 3 < d.kind
 ·rw [if_pos h1] at h; omega
 ·rw [if_neg h1] at h;generalize (if d.kind = 3 then (1 : Int) else 0) = lo at h;generalize (if d.kind = 3 then (60000 : Int) else 0) = hi at h;by_cases h2 : d.key < 1 ∨ 255 < d.key ∨ d.num < lo ∨ hi < d.num
  ·rw [if_pos h2] at h; omega
  ·rw [if_neg h2] at h;by_cases h3 : 8 < d.data.length ∨ d.kind ≠ 1 ∧ d.data.length ≠ 0
   ·rw [if_pos h3] at h; omega
   ·omega
theorem Zj4 (w : World) (v : Value) (l : List UInt8) (h : Bytes w v l) : (convert 45 9 v).run Tryz.prog w = .ok (.string ⟨l.toArray⟩) w := Za0 w v l h
theorem Zh1 : ∀ (l : List Rec) (n : Int), n ≤ l.foldl (fun n r => if n ≤ r.ver then r.ver + 1 else n) n ∧ ∀ r ∈ l, r.ver < l.foldl (fun n r => if n ≤ r.ver then r.ver + 1 else n) n
 | [], n => ⟨Int.le_refl _, fun r h => by cases h⟩
 | x :: l, n => by
  rw [List.foldl_cons];obtain ⟨h1, h2⟩ := Zh1 l (if n ≤ x.ver then x.ver + 1 else n);have h3 : n ≤ (if n ≤ x.ver then x.ver + 1 else n) ∧ x.ver < (if n ≤ x.ver then x.ver + 1 else n) := by split <;> omega
  refine ⟨by omega, fun r hr => ?_⟩;rcases List.mem_cons.1 hr with rfl | hr
  ·omega
  ·exact h2 r hr
theorem Ze7 {l : List Rec} : 1 ≤ Xy l ∧ ∀ r ∈ l, r.ver < Xy l := Zh1 l 1
theorem Zcx {n : Int} (hw : Yq d = 0) (hk : d.kind ≠ 3) (h0 : 1 ≤ n) (h1 : n ≤ 60000) : Z9 (Y1 d n) = 0 ∧ (Y1 d n).kind ≠ 1 := by
 obtain ⟨a1, a2, a3, a4, a5, a6⟩ := Zaa hw;have hkk : d.kind = 1 ∨ d.kind = 2 := by omega
 refine ⟨?_, show 1 + d.kind ≠ 1 by omega⟩;obtain ⟨dk, dy, dn, dd⟩ := d;simp only at hkk a3 a4 a5 a6;rcases hkk with rfl | rfl
 ·show Z9 ⟨2, dy, n, dd⟩ = 0;have h2 : Xh ⟨2, dy, n, dd⟩ = true := by simp [Xh]; omega
  unfold Z9;rw [if_neg (by simp), h2, if_neg (by simp), if_neg (by simp [Xe]; omega)]
 ·have h6 : dd = [] := List.eq_nil_of_length_eq_zero (by omega);show Z9 ⟨3, dy, n, dd⟩ = 0;have h2 : Xh ⟨3, dy, n, dd⟩ = true := by simp [Xh]; omega
  unfold Z9;rw [if_neg (by simp), h2, if_neg (by simp), if_neg (by simp [Xe, h6])]
theorem Zjz (l : List Rec) : Zdz l l = true := by
 unfold Zdz;simp only [Bool.and_eq_true, List.all_eq_true, decide_eq_true_eq, and_true];intro r hr;unfold Zlp;rw [List.any_eq_true];exact ⟨r, hr, Zmh r⟩
end Go.Proofs.YtpdnapbchcdhlacGreat
