import Derived.Test.YtpdnapbchcdhlacGreatJPd
set_option maxHeartbeats 8000000
namespace Go.Proofs.YtpdnapbchcdhlacGreat
set_option maxRecDepth 100000
open Go.RowKit
open Plain Reg
variable {B n : Nat} {bs : List (List UInt8)} {d u v : Value} {e : TypeId} {l : List UInt8} {us xs : List Value} {w w' : World}
theorem Vl.snoc {v' : Value} {l : List UInt8} (h : Vl B v bs us w) (hr : w'.ownsRow B 45 1 v' (bs.length + 1) (us ++ [u]))
  (he : ∀ i (hi : i < bs.length), ∃ u, us[i]? = some u ∧ w'.ownsRow B 5 1 u bs[i].length (bs[i].map bv)) (hu : w'.ownsRow B 5 1 u l.length (l.map bv)) : Vl B v' (bs ++ [l]) (us ++ [u]) w' := by
 refine ⟨by simp [h.len], by simpa using hr, fun i hi => ?_⟩;by_cases hi2 : i < bs.length
 ·obtain ⟨y, h1, h2⟩ := he i hi2;refine ⟨y, by rw [List.getElem?_append_left (by have := h.len; omega)]; exact h1, ?_⟩;rw [List.getElem_append_left hi2]; exact h2
 ·have e : i = bs.length := by simp at hi; omega
  subst e;exact ⟨u, by rw [← h.len]; simp, by simpa using hu⟩
theorem Zri (w : World) (B n b0 : Nat) (d : Value) (us : List Value) (u : Value) (ty : TypeId) (hown : w.ownsRow B 45 1 d n us) (hx : w.heap[b0]? = some (.cells #[u] 45 (0, 0))) (hu : u.oneCell' = true) (hm : n < 1000) (hB : B ≤ w.heap.size) :
  ∃ v' w', (Builtin.append_ #[23, 23] ty #[d, .slice (some ⟨b0, 0, none⟩) 1 1]).run Tryz.prog w = .ok v' w' ∧ w'.ownsRow B 45 1 v' (n + 1) (us ++ [u]) ∧ w.grownBy w' d.ownBlock := by
 obtain ⟨i0, hif, hz0, hz1, hz2⟩ := info_parts Ji;obtain ⟨v', w', h1, h2, h3, _⟩ := run_append_own (P := Tryz.prog) w B 23 ty 45 i0 (.slice none 0 0) 1 24 Tryz.underlying23 hif hz0 hz1 hz2 rfl (by decide) d n us hown ⟨b0, 0, none⟩ 1 1 [u] rfl
  (fun j z hj => by
   match j, hj with
   | 0, hj => simp at hj; subst hj; simp [Addr.add, World.cell?, hx]
   | j + 1, hj => simp at hj) (by intro z hz; simp at hz; subst hz; exact hu) (by unfold maxLen; omega) (by omega) hB
 exact ⟨v', w', h1, h2, h3⟩
theorem Ziw {base size : Nat} (hs : Zbg d w w') (hd : ∀ q, d.ownBlock = some q → v.ownBlock ≠ some q) (h : w.ownsRow base e size v n xs) : w'.ownsRow base e size v n xs := by
 rcases hs with rfl | hs
 ·exact h
 ·refine ⟨h.1, Xq h.2 (fun x => x) fun ⟨q, cap, cur, h1, h2, h3, r⟩ => ⟨q, cap, cur, h1, h2, ?_, r⟩⟩;rw [hs.block _ (Za h3) (fun e => by subst h1; exact hd q e.symm rfl)];exact h3
def Zjh (B : Nat) (d : Value) (l : List UInt8) (v : Value) (w : World) : Prop := w.ownsRow B 5 1 v l.length (l.map bv) ∧ ∀ q, d.ownBlock = some q → v.ownBlock ≠ some q
theorem Zim (B : Nat) (d : Value) (l : List UInt8) : Xv (Zjh B d l) := fun _ _ _ hg h => ⟨Yb h.1 hg, h.2⟩
theorem Zoo (hs : Zbg d w w') (h : Zjh B d l v w) : Zjh B d l v w' := ⟨Ziw hs h.2 h.1, h.2⟩
theorem Zos (hs : Yw 26 w w') (h : Zjh B d l v w) : Zjh B d l v w' := ⟨Qo (by decide) hs h.1, h.2⟩
def Zls (B : Nat) (d : Value) (l : List UInt8) (v : Value) (w : World) : Prop := ∃ b0 u, v = .slice (some ⟨b0, 0, none⟩) 1 1 ∧ w.heap[b0]? = some (.cells #[u] 45 (0, 0)) ∧ (∀ q, d.ownBlock = some q → b0 ≠ q) ∧ Zjh B d l u w
theorem Zu4 (B : Nat) (d : Value) (l : List UInt8) : Xv (Zls B d l) := by
 rintro v w w' hg ⟨b0, u, h1, h2, h3, h4⟩; exact ⟨b0, u, h1, (hg.block _ (Za h2)).trans h2, h3, Zim _ _ _ _ _ _ hg h4⟩
theorem Zu9 (hs : Zbg d w w') (h : Zls B d l v w) : Zls B d l v w' := by
 obtain ⟨b0, u, h1, h2, h3, h4⟩ := h;refine ⟨b0, u, h1, ?_, h3, Zoo hs h4⟩;rcases hs with rfl | hs
 ·exact h2
 ·exact (hs.block _ (Za h2) (fun e => h3 b0 e.symm rfl)).trans h2
theorem Zvc (hs : Yw 26 w w') (h : Zls B d l v w) : Zls B d l v w' := by
 obtain ⟨b0, u, h1, h2, h3, h4⟩ := h;refine ⟨b0, u, h1, ?_, h3, Zos hs h4⟩;rcases hs with rfl | ⟨g', c1, c2, hb, h5, h6, h7⟩
 ·exact h2
 ·exact (hb.block _ (Za h2) (by rintro rfl; rw [h5] at h2; cases h2)).trans h2
def Zod (B n : Nat) (us : List Value) (l : List UInt8) (v : Value) (w : World) : Prop := ∃ u, w.ownsRow B 45 1 v (n + 1) (us ++ [u]) ∧ w.ownsRow B 5 1 u l.length (l.map bv)
theorem Zol (B n : Nat) (us : List Value) (l : List UInt8) : Xv (Zod B n us l) := by
 rintro v w w' hg ⟨u, h1, h2⟩; exact ⟨u, Yb h1 hg, Yb h2 hg⟩
theorem Zvd (hs : Yw 26 w w') (h : Zod B n us l v w) : Zod B n us l v w' := by
 obtain ⟨u, h1, h2⟩ := h; exact ⟨u, Qo (by decide) hs h1, Qo (by decide) hs h2⟩
def Zx3 (B g n : Nat) (us : List Value) (l : List UInt8) (v : Value) (w : World) : Prop := w.heap[g]? = some (.cells #[v, .slice none 0 0] 26 (0, 0)) ∧ Zod B n us l v w
theorem Zu1 (B g n : Nat) (us : List Value) (l : List UInt8) (i : Nat) : V1 (pl1 i (fun _ v w => Zx3 B g n us l v w)) := by
 rintro v ds w w' hg ⟨h1, h2⟩;exact ⟨(hg.block _ (Za h1)).trans h1, Zol _ _ _ _ _ _ _ hg h2⟩
def Zg5 (w : World) (v : Value) (bs : List (List UInt8)) (us : List Value) (dn : Nat → Bool) (w' : World) : Prop :=
 Zn w w' ∧ w'.heap[w.heap.size]? = some (.cells #[.slice none 0 0, .slice none 0 0] 26 (0, 0)) ∧ w.heap.size + 1 + 1 ≤ w'.heap.size ∧ (dn 8 = false → w'.heap[w.heap.size + 1]? = some (.cells #[v, .slice none 0 0] 26 (0, 0))) ∧
  (dn 6 = false → w'.ownsRow (w.heap.size + 1 + 1) 45 1 v bs.length us) ∧ (∀ i (hi : i < bs.length), ∃ u, us[i]? = some u ∧ w'.ownsRow (w.heap.size + 1 + 1) 5 1 u bs[i].length (bs[i].map bv))
theorem Zg5.grow {dn : Nat → Bool} {w'' : World} (h : Zg5 w v bs us dn w') (hg : Zn w' w'') : Zg5 w v bs us dn w'' :=
 ⟨h.1.trans hg, (hg.block _ (Za h.2.1)).trans h.2.1, Nat.le_trans h.2.2.1 hg.size, fun h8 => (hg.block _ (Za (h.2.2.2.1 h8))).trans (h.2.2.2.1 h8), fun h6 => Yb (h.2.2.2.2.1 h6) hg, fun i hi => (h.2.2.2.2.2 i hi).imp fun _ hu => ⟨hu.1, Yb hu.2 hg⟩⟩
def Zug (w : World) (bs : List (List UInt8)) (wr : World) : Prop :=
 Zn w wr ∧ wr.heap[w.heap.size]? = some (.cells #[.slice none 0 0, .slice none 0 0] 26 (0, 0)) ∧ ∃ v us, wr.heap[w.heap.size + 1]? = some (.cells #[v, .slice none 0 0] 26 (0, 0)) ∧ Vl (w.heap.size + 1 + 1) v bs us wr
theorem Zf3 {B' m size size' : Nat} {T : TypeId} {ys : List Value} (h : w.ownsRow B e size v n xs) (h' : w.ownsRow B' T size' u m ys) (hT : e ≠ T) : ∀ q, u.ownBlock = some q → v.ownBlock ≠ some q := by
 intro q h1 h2;rcases h.2 with ⟨rfl, _⟩ | ⟨g, cap, cur, rfl, _, hh, _⟩
 ·cases h2
 ·rcases h'.2 with ⟨rfl, _⟩ | ⟨g', cap', cur', rfl, _, hh', _⟩
  ·cases h1
  ·cases h1; cases h2; rw [hh] at hh'; cases hh'; exact hT rfl
theorem Zkr (w : World) : Calls Tryz.prog 61 #[] w fun e w' => ∃ v, e = .returned v ∧ Va w.heap.size Dk.new v w' ∧ Zn w w' := by
 have hstart : Zug w [] ((w.alloc (.cells #[.slice none 0 0, .slice none 0 0] 26)).alloc (.cells #[.slice none 0 0, .slice none 0 0] 26)) :=
  ⟨Zp _ _ _, hx1 _ _ _, .slice none 0 0, [], hy1 _ _ _, rfl, World.ownsRow_nil _ _ _ _, fun i hi => by simp at hi⟩
 go_enter Tryz.func61, Tryz.ntmps61;go_wp2_with fail;generalize World.alloc (World.alloc w _) _ = W at *;go_loopw [4] (fun i wr => ∃ k : Nat, k ≤ 12 ∧ i = .int .i64 k ∧ Zug w (Dk.new.blocks.take k) wr) (fun i _ => 12 - (intOf i).toNat)
 case atStart => exact ⟨0, Nat.zero_le _, rfl, hstart⟩
 case round =>
  clear hstart;obtain ⟨k, hk, rfl, gL, hLr, v, us, hLg, hU⟩ := hrel;by_cases hlt : k < 12
  ·have hkb : k < Dk.new.blocks.length := hlt;have HT : Hid (Dk.new.blocks.take (k + 1) = Dk.new.blocks.take k ++ [blk ⟨1, 0, 0, []⟩ (k : Int)]) := by
    show _ = _; rw [List.take_succ_eq_append_getElem hkb, Zm8 k hkb]
   have hpl : (Dk.new.blocks.take k).length = k := by rw [List.length_take, Zdg]; omega
   have HL16 : Hid ((blk ⟨1, 0, 0, []⟩ (k : Int)).length = 16) := Qm _ _ (by simp);generalize hbe : blk ⟨1, 0, 0, []⟩ (k : Int) = bl at *;have HBE : Hid _ := hbe;clear hbe;generalize Dk.new.blocks.take k = bs at *;have hz : w.heap.size + 1 < wr.heap.size := Za hLg;obtain ⟨av, cv, rfl⟩ := hU.p.form;go_wp2_with fail
   refine Yx [px (.pointer (some ⟨w.heap.size + 1, 0, none⟩)), px (.slice av bs.length cv), px (.agg #[.int .i64 1, .int .i64 0, .int .i64 0, .slice none 0 0]), px (.int .i64 (k : Int)), pl (Zjh (w.heap.size + 1 + 1) (.slice av bs.length cv) bl), pl (Zls (w.heap.size + 1 + 1) (.slice av bs.length cv) bl), pl (Zod (w.heap.size + 1 + 1) bs.length us bl), px (.pointer (some ⟨w.heap.size + 1, 0, none⟩)), pl1 6 ((fun _ v w' => Zx3 (w.heap.size + 1 + 1) (w.heap.size + 1) bs.length us bl v w'))] [none, none, none, none, none, none, some ((Zbg (.slice av bs.length cv))), none, some ((Yw 26))] (Zg5 w (.slice av bs.length cv) bs us) (by kernel_rfl) (by kernel_rfl) ⟨se, se, se, se, Yj (Zim _ _ _), Yj (Zu4 _ _ _), Yj (Zol _ _ _ _), se, Zu1 _ _ _ _ _ _, trivial⟩ ⟨⟨(fun w => .inl rfl), ⟨x5, x5, x5, x5, .inr ((fun v _ w w' hs hq => Zoo hs hq)), .inr ((fun v _ w w' hs hq => Zu9 hs hq)), .inl (by kernel_rfl), .inl (by kernel_rfl), .inl (by kernel_rfl), trivial⟩⟩, ⟨(fun w => .inl rfl), ⟨x5, x5, x5, x5, .inr ((fun v _ w w' hs hq => Zos hs hq)), .inr ((fun v _ w w' hs hq => Zvc hs hq)), .inr ((fun v _ w w' hs hq => Zvd hs hq)), x5, .inl (by kernel_rfl), trivial⟩⟩, trivial⟩ ⟨n5, n5, n5, n5, n5, n5, n5, n5, fun _ _ _ _ h => h, trivial⟩ ⟨gL.drew, hLr, by show _ ≤ wr.heap.size; omega, fun _ => hLg, fun _ => hU.row, hU.each⟩ ?_ ?_
   ·refine ⟨?_, ?_, ?_, ?_, ?_, ?_, ?_, ?_, ?_, trivial⟩
    ·refine Zd rfl fun a _ _ _ _ _ B A => ?_;have e1 : a (.tmp 1) = .pointer (some ⟨w.heap.size + 1, 0, none⟩) := Zl A 1 rfl;refine Zh ?_ B rfl;clear A B;go_simp;all_goals go_arith
    ·refine Zd rfl fun a _ _ _ _ C B A => ?_;have e7 : a (.tmp 7) = _ := Ze A 0 rfl;have n6 := C.not1 6 (by kernel_rfl);have n8 := C.notBy 8 6 n6 (by kernel_rfl);have z0 := Zc (B.2.2.2.1 n8) 0 _ rfl;refine Zh ?_ B rfl;clear A B C;go_simp;all_goals go_arith
    ·refine Zd rfl fun a B _ _ _ D C A => ?_;refine Yf (f := 83) (args := #[]) ?_ ((Zbu B).mono ?_)
     ·clear A C D;go_simp;all_goals go_arith
     ·rintro e w2 ⟨rfl, g2⟩;exact ⟨_, rfl, g2, Zg5.grow C g2, rfl⟩
    ·exact Zd rfl fun a _ _ _ _ _ B A => Z6 rfl B (Zl A 2 rfl)
    ·refine Zd rfl fun a B _ _ _ D C A => ?_;have e9 : a (.tmp 9) = _ := Ze A 2 rfl;have e10 : a (.tmp 10) = _ := Ze A 3 rfl;have n6 := D.not1 6 (by kernel_rfl);refine Yf (f := 95) (args := #[.agg #[.int .i64 1, .int .i64 0, .int .i64 0, .slice none 0 0], .int .i64 (k : Int)]) ?_ ((Zd2 1 0 0 (k : Int) [] _ B (Zid _) Zgr (by omega) (by omega)).mono ?_)
     ·clear A C D;go_simp;all_goals go_arith
     ·rintro e w2 ⟨v', rfl, ho, g2⟩;rw [HBE.out, ← HL16.out] at ho;have hJ2 := Zg5.grow C g2;exact ⟨_, rfl, g2, hJ2, Yk ho C.2.2.1, Zf3 ho (hJ2.2.2.2.2.1 n6) (by decide)⟩
    ·refine Zd rfl fun a w' _ _ _ C B A => ?_;have e11 : (Zjh (w.heap.size + 1 + 1) (.slice av bs.length cv) bl) (a (.tmp 11)) w' := Ze A 4 rfl;have n6 := C.not1 6 (by kernel_rfl);obtain ⟨a1, c1, h11⟩ := Yc e11.1;rw [h11] at e11;refine Ql (v := .slice (some ⟨w'.heap.size, 0, none⟩) 1 1) (w' := w'.alloc (.cells #[.slice a1 bl.length c1] 45)) ?_ (Zb _ _) (Zg5.grow B (Zb _ _)) ⟨_, _, rfl, Zg _ _ _, fun q hq => by have := ((B.2.2.2.2.1 n6).lt q hq).2; omega, Zim _ _ _ _ _ _ (Zb _ _) e11⟩;clear A B C e11;go_simp;all_goals go_arith
    ·refine Zd rfl fun a w' _ _ _ C B A => ?_;have e8 : a (.tmp 8) = _ := Ze A 1 rfl;have e12 : (Zls (w.heap.size + 1 + 1) (.slice av bs.length cv) bl) (a (.tmp 12)) w' := Ze A 5 rfl;obtain ⟨b0, u, h12, hh0, hb0, ho⟩ := e12;have hrow := B.2.2.2.2.1 C.un;obtain ⟨v', w2, hrun, ho2, hg2⟩ := Zri w' (w.heap.size + 1 + 1) bs.length b0 _ us u 23 hrow hh0 (by obtain ⟨a4, c4, rfl⟩ := Yc ho.1; rfl) (by omega) B.2.2.1;have hst : Zbg (.slice av bs.length cv) w' w2 := .inr hg2;refine Ql (v := v') (w' := w2) ?_ hst ⟨Ya B.1 hg2 (fun k hk => by have := (hrow.lt k hk).1; omega), (hg2.block _ (Za B.2.1) (Zix hrow (by decide) B.2.1)).trans B.2.1, Nat.le_trans B.2.2.1 hg2.size, fun h8 => ?_, fun h => by simp [upd] at h, fun i hi => (B.2.2.2.2.2 i hi).imp fun _ hu => ⟨hu.1, Ziw hst (Zf3 hu.2 hrow (by decide)) hu.2⟩⟩ ⟨u, ho2, Ziw hst ho.2 ho.1⟩
     ·exact Q1 (.tmp 8) (.tmp 12) 23 rfl _ _ e8 h12 hrun
     ·have h8' := B.2.2.2.1 h8;exact (hg2.block _ (Za h8') (Zix hrow (by decide) h8')).trans h8'
    ·refine Zd rfl fun a _ _ _ _ _ B A => ?_;have e1 : a (.tmp 1) = .pointer (some ⟨w.heap.size + 1, 0, none⟩) := Zl A 1 rfl;refine Zh ?_ B rfl;clear A B;go_simp;all_goals go_arith
    ·refine Zd rfl fun a w' _ _ D C B A => ?_;have e14 : a (.tmp 14) = _ := Ze A 7 rfl;have e13 : (Zod (w.heap.size + 1 + 1) bs.length us bl) (a (.tmp 13)) w' := Ze A 6 rfl;obtain ⟨u, ho, hu⟩ := e13;obtain ⟨a3, c3, h13⟩ := Yc ho;have hh8 := B.2.2.2.1 C.un;have y3 := Zc hh8 0 _ rfl;have f3 := Zi hh8 0;have hp1 := Ye hh8 0 (a (.tmp 13));have hp2 : (w'.setCell ⟨w.heap.size + 1, 0, none⟩ (a (.tmp 13))).heap[w.heap.size + 1]? = some (.cells #[a (.tmp 13), .slice none 0 0] 26 (0, 0)) := by simpa using hp1
     have hstep : Yw 26 w' (w'.setCell ⟨w.heap.size + 1, 0, none⟩ (a (.tmp 13))) := .inr ⟨w.heap.size + 1, _, _, (Zo.refl _ _).set _ _ _, hh8, hp1, by simp⟩;refine Yg (w' := w'.setCell ⟨w.heap.size + 1, 0, none⟩ (a (.tmp 13))) ?_ hstep ⟨Zx B.1 (by show w.heap.size ≤ w.heap.size + 1; omega) _, ?_, by simpa using B.2.2.1, fun h => by simp [upd] at h, fun h => ?_, fun i hi => (B.2.2.2.2.2 i hi).imp fun _ hu => ⟨hu.1, Qo (by decide) hstep hu.2⟩⟩ ⟨hp2, u, Qo (by decide) hstep ho, Qo (by decide) hstep hu⟩
     ·clear A B hh8 hp1 hp2 hstep ho hu C;go_simp;all_goals go_arith
     ·rw [Below.heap_setCell _ _ _ _ (by show w.heap.size ≠ w.heap.size + 1; omega)]; exact B.2.1
     ·have := C.rd 6 (by kernel_rfl);have h' : D 6 = false := h;rw [this] at h'; cases h'
   ·intro vs w' dn hdn hg ht;obtain ⟨q7, q8, q9, q10, q11, q12, q13, q14, qo8, -⟩ := ht;have r7 : vs 0 = _ := q7;have r8 : vs 1 = _ := q8;have r9 : vs 2 = _ := q9;have r10 : vs 3 = _ := q10;replace q11 : (Zjh (w.heap.size + 1 + 1) (.slice av bs.length cv) bl) (vs 4) w' := q11;replace q12 : (Zls (w.heap.size + 1 + 1) (.slice av bs.length cv) bl) (vs 5) w' := q12;replace q13 : (Zod (w.heap.size + 1 + 1) bs.length us bl) (vs 6) w' := q13;have r14 : vs 7 = _ := q14;replace qo8 : ((fun _ v w' => Zx3 (w.heap.size + 1 + 1) (w.heap.size + 1) bs.length us bl v w')) (vs 8) (vs 6) w' := qo8;clear q7 q8 q9 q10 q14;simp only [Yi, Act.put, List.setIfInBounds_toArray, List.set_cons_zero, List.set_cons_succ, Nat.reduceAdd, r7, r8, r9, r10, r14];clear r7 r8 r9 r10 r14;obtain ⟨hp2, u, ho, hu⟩ := qo8;have hL2 := Vl.snoc hU ho hg.2.2.2.2.2 hu;rw [← HT.out] at hL2;have hend : Zug w (Dk.new.blocks.take (k + 1)) w' := ⟨hg.1, hg.2.1, _, _, hp2, hL2⟩;clear hg hdn q11 q12 q13 hL2 hp2 ho hu hU hLr hLg gL;generalize vs 4 = u4;generalize vs 5 = u5;generalize vs 6 = u6;go_wp2_with fail;go_roundw
    case rel => exact ⟨k + 1, by omega, by simp, hend⟩
    case measure => simp [intOf]; omega
  ·have hk' : k = 12 := by omega
   subst hk';have hte : Dk.new.blocks.take 12 = Dk.new.blocks := List.take_of_length_le (by rw [Zdg]; omega);rw [hte] at hU;obtain ⟨av, cv, rfl⟩ := hU.p.form;obtain ⟨y0, y1⟩ := Y9 hLg rfl rfl;obtain ⟨z0, z1⟩ := Y9 hLr rfl rfl;have f0 := Zi hLr 0;have f1 := Zi hLr 1;have cs := Zr;obtain ⟨hp1, hp2⟩ := Xs hLr (.slice av Dk.new.blocks.length cv) (.slice none 0 0);have hstep : Yw 26 wr _ := .inr ⟨_, _, _, hp2, hLr, hp1, rfl⟩;have gE := hp2.grow gL (by omega);have hE := (hU.box hstep).mono (B' := w.heap.size) (by omega);clear hp1 hp2 hstep hU hLg hLr gL hte;generalize Dk.new.blocks.length = nn at *;go_wp2_with fail;exact bodyPost_ret (v := .agg #[.slice av nn cv, .slice none 0 0]) (by simp [results, Tryz.results61, go_sem, z0, z1, cs]) rfl ⟨_, rfl, ⟨_, _, rfl, ⟨us, hE⟩, Q4.nil _ _⟩, gE⟩
def Zg8 (S : Nat → Prop) (d : Dk) (w : World) (c : Array Value) (k : Nat) (wr : World) : Prop :=
 Zn w wr ∧ wr.heap[w.heap.size]? = some (.cells c 26 (0, 0)) ∧ wr.heap[w.heap.size + 1]? = some (.cells #[.slice none 0 0, .slice none 0 0] 26 (0, 0)) ∧
  Zax S (w.heap.size + 1 + 1 + 1) (w.heap.size + 1 + 1) (.slice none 0 0) ((List.range k).map fun (i : Nat) => (d.get (i : Int)).getD []) wr
theorem Zg8.grow {S : Nat → Prop} {d : Dk} {w : World} {c : Array Value} {k : Nat} {wr w' : World} (h : Zg8 S d w c k wr) (hg : Zn wr w') : Zg8 S d w c k w' :=
 ⟨h.1.trans hg, (hg.block _ (Za h.2.1)).trans h.2.1, (hg.block _ (Za h.2.2.1)).trans h.2.2.1, h.2.2.2.grow hg⟩
theorem Zqw (S : Nat → Prop) (d : Dk) (vb vl : Value) (w : World) (hS : ∀ b, S b → b < w.heap.size) (hb : Y0 S w vb d.blocks) (hl : Xl S w vl d.late) (hlen : d.blocks.length ≤ 256) (hm : d.late.length ≤ 999990) (hp : ∀ x ∈ d.late, 0 ≤ x.1) :
  Calls Tryz.prog 42 #[.agg #[vb, vl]] w fun e w' => ∃ vb', e = .returned (.agg #[vb', .slice none 0 0]) ∧ Y0 (Zs S w.heap.size) w' vb' d.flush.blocks ∧ Zn w w' := by
 obtain ⟨ab, cb, rfl⟩ := hb.p.form;obtain ⟨al, cl, rfl⟩ := hl.p.form;have HF : Hid (d.flush.blocks = (List.range d.blocks.length).map fun (i : Nat) => (d.get (i : Int)).getD []) := d.flush_map hp;obtain ⟨i0, hif, hz0, hz1, hz2⟩ := info_parts Ji;go_enter Tryz.func42, Tryz.ntmps42;go_wp2_with fail;have hstart : Zg8 S d w #[.slice ab d.blocks.length cb, .slice al d.late.length cl] 0 (((w.alloc (.cells #[.slice ab d.blocks.length cb, .slice al d.late.length cl] 26)).alloc (.cells #[.slice none 0 0, .slice none 0 0] 26)).alloc (.cells #[.slice none 0 0, .slice none 0 0] 26)) := by
  refine ⟨(Zp _ _ _).trans (Zb _ _), ((Zb _ _).block _ (by simp; omega)).trans (hx1 _ _ _), ((Zb _ _).block _ (by simp)).trans (hy1 _ _ _), Zax.start ?_⟩;have h := Zg ((w.alloc (.cells #[.slice ab d.blocks.length cb, .slice al d.late.length cl] 26)).alloc (.cells #[.slice none 0 0, .slice none 0 0] 26)) #[.slice none 0 0, .slice none 0 0] 26;rw [World.size_alloc, World.size_alloc] at h;exact h
 generalize World.alloc (World.alloc (World.alloc w _) _) _ = W at *;go_loopw [11] (fun i wr => ∃ k : Nat, k ≤ d.blocks.length ∧ i = .int .i64 k ∧ Zg8 S d w #[.slice ab d.blocks.length cb, .slice al d.late.length cl] k wr) (fun i _ => d.blocks.length - (intOf i).toNat)
 case atStart => exact ⟨0, Nat.zero_le _, rfl, hstart⟩
 case round =>
  clear hstart;obtain ⟨k, hk, rfl, hL⟩ := hrel;by_cases hlt : k < d.blocks.length
  ·have x0 := Zc hL.2.1 0 _ rfl;have x1 := Zc hL.2.1 1 _ rfl;go_wp2_with fail;refine (Za9 S d (k : Int) _ _ _ (hb.grow hL.1) (hl.grow hL.1) (by omega)).mono ?_;rintro e w1 ⟨v1, rfl, hv1, g1⟩;have hL1 := hL.grow g1;clear x0 x1 g1 hL;obtain ⟨gL, hLd, hLr, v, us, h3, h4, h5, h6⟩ := hL1;have hlr : ((List.range k).map fun (i : Nat) => (d.get (i : Int)).getD []).length = k := by simp
   have HBS : Hid (((List.range k).map fun (i : Nat) => (d.get (i : Int)).getD []) ++ [(d.get (k : Int)).getD []] = (List.range (k + 1)).map fun (i : Nat) => (d.get (i : Int)).getD []) := by show _ ++ _ = _; rw [List.range_succ]; simp
   generalize ((List.range k).map fun (i : Nat) => (d.get (i : Int)).getD []) = bs at *;subst hlr;generalize (d.get (bs.length : Int)).getD [] = b1 at *;obtain ⟨a1, c1, rfl, -, -⟩ := Yn hv1.p;obtain ⟨av, cv, rfl⟩ := Y4 h6;have y0 := Zc h3 0 _ rfl;have hgs : w.heap.size + 1 + 1 < w1.heap.size := Za h3;go_wp2_with (first
    | (at_builtin; refine wpList_append_own _ rfl (.tmp 21) (.tmp 23) 23 rfl (w.heap.size + 1 + 1 + 1) 45 i0 (.slice none 0 0) 1 24 Tryz.underlying23 hif hz0 hz1 hz2 rfl (by decide) (.slice av bs.length cv) bs.length us rfl (h6.alloc _) ⟨w1.heap.size, 0, none⟩ 1 1 [.slice a1 b1.length c1] rfl rfl (fun j u hj => Zga w1 _ _ j u hj) (by intro u hu; simp at hu; subst hu; rfl) (by unfold maxLen; omega) (by omega) (by simp; omega) ?_; intro v3 w3 hown3 hgrow3 _; have hb3 := Ze6 h6 (by decide) h3 hgrow3; have f0 := Zi hb3 0; have hst := Zax.step h3 h4 h5 h6 (fun b h => by have := hS b h; omega) (by omega) (hv1.mono (fun _ h => .inl h)) hgrow3 hown3; have hsl := Y4 hown3; obtain ⟨a3, c3, hv3⟩ := hsl; subst hv3; have y3 := Zc hb3 0 _ rfl; have cs := Zr; clear y0))
   go_roundw
   case rel =>
    have hBx := Zd7 hgs h6 hgrow3;have hB2 : Below (w.heap.size + 1 + 1) w1 (w3.setCell ⟨w.heap.size + 1 + 1, 0, none⟩ (.slice a3 (bs.length + 1) c3)) := Below.setCell (hBx.mono (by omega)) (by show w.heap.size + 1 + 1 ≤ w.heap.size + 1 + 1; omega) _;refine ⟨bs.length + 1, by omega, by simp, Below.trans gL (hB2.mono (by omega)), (hB2.block _ (by omega)).trans hLd, (hB2.block _ (by omega)).trans hLr, by rw [← HBS.out]; exact hst⟩
   case measure => simp [intOf]; omega
  ·have hk' : k = d.blocks.length := by omega
   subst hk';obtain ⟨vo, hbo, hbs⟩ := hL.2.2.2.blocks;obtain ⟨ao, co, rfl⟩ := hbs.p.form;obtain ⟨x0, x1⟩ := Y9 hbo rfl rfl;have y0 := Zc hL.2.2.1 0 _ rfl;have y1 := Zc hL.2.2.1 1 _ rfl;have f0 := Zi hL.2.2.1 0;have f1 := Zi hL.2.2.1 1;have cs := Zr;rename_i wr _;obtain ⟨hq1, hq2⟩ := Xs hL.2.2.1 (.slice ao (((List.range d.blocks.length).map fun (i : Nat) => (d.get (i : Int)).getD []).length) co) (.slice none 0 0);have gE := hq2.grow hL.1 (by omega);have hbE := (hbs.but hq2 (fun h => h.elim (fun h => by have := hS _ h; omega) (fun h => by omega))).mono (Zw (B := w.heap.size) (by omega));rw [← HF.out, Dk.flush_length] at hbE gE;clear hq1 hq2 hbs hbo hL hlt hb hl;go_wp2_with fail;exact bodyPost_ret (v := .agg #[.slice ao d.blocks.length co, .slice none 0 0]) (by simp [results, Tryz.results42, go_sem, y0, y1, cs]) rfl ⟨_, rfl, hbE, gE⟩
end Go.Proofs.YtpdnapbchcdhlacGreat
namespace Go.Proofs.YtpdnapbchcdhlacGreat
set_option maxRecDepth 100000
open Go.RowKit
open Plain Reg
variable {S : Nat → Prop} {bs : List (List UInt8)} {g : Nat} {w : World}
theorem Zn4 {v : Value} (h : Y0 S w v bs) (h0 : 0 < bs.length) :
  ∃ (ad : Addr) (cap : Nat) (us : List Value), v = .slice (some ad) bs.length cap ∧ us.length = bs.length ∧ (∀ (j : Nat) u, us[j]? = some u → w.cell? (ad.add j) = some u) ∧ (∀ i (hi : i < bs.length), ∃ u, us[i]? = some u ∧ Z0 S w u bs[i]) := by
 rcases h with ⟨ao, cap, rfl, rfl, h1⟩ | ⟨b, off, cap, hSb, rfl, h1, hc⟩
 ·simp at h0
 ·have hex : ∃ f : Nat → Value, ∀ i (hi : i < bs.length), w.cell? ⟨b, off + i, none⟩ = some (f i) ∧ Z0 S w (f i) bs[i] := by
   refine ⟨fun i => if hi : i < bs.length then (hc i hi).choose else undef, fun i hi => ?_⟩;simp only [hi, dif_pos];exact (hc i hi).choose_spec
  obtain ⟨f, hf⟩ := hex;refine ⟨_, cap, (List.range bs.length).map f, rfl, by simp, fun j u hj => ?_, fun i hi => ⟨f i, by simp [hi], (hf i hi).2⟩⟩;have hjl : j < bs.length := by
   rcases Nat.lt_or_ge j bs.length with h | h
   ·exact h
   ·rw [List.getElem?_eq_none (by simpa using h)] at hj; cases hj
  have e : u = f j := by simp [hjl] at hj; exact hj.symm
  subst e;have e2 : ∀ m, (⟨b, off, none⟩ : Addr).add m = ⟨b, off + m, none⟩ := fun m => by simp [Addr.add]
  rw [e2]; exact (hf j hjl).1
theorem Zax.put {S0 : Nat → Prop} {B q cap i : Nat} {lv u : Value} {us : List Value} {b : List UInt8} (h3 : w.heap[g]? = some (.cells #[.slice (some ⟨q, 0, none⟩) bs.length cap, lv] 26 (0, 0))) (h4 : us.length = bs.length)
  (h5 : ∀ i (hi : i < bs.length), ∃ u, us[i]? = some u ∧ Z0 (InS S0 B w) w u bs[i]) (h6 : w.ownsRow B 45 1 (.slice (some ⟨q, 0, none⟩) bs.length cap) bs.length us) (hS0 : ∀ b, S0 b → b < B) (hu : Z0 (InS S0 B w) w u b) (hi : i < bs.length) : Zax S0 B g lv (bs.set i b) (w.setCell ⟨q, i, none⟩ u) := by
 have hq : ∃ cur, w.heap[q]? = some (.cells cur 45 (0, 0)) := by
  rcases h6.2 with ⟨e, _⟩ | ⟨q', cap', cur, e, _, hh, _⟩
  ·cases e
  ·cases e; exact ⟨cur, hh⟩
 obtain ⟨cur, hq⟩ := hq;have hqB : B ≤ q := (h6.lt q rfl).1;have keep : ∀ b, InS S0 B w b → (w.setCell ⟨q, i, none⟩ u).heap[b]? = w.heap[b]? := by
  intro b hSb;refine Below.heap_setCell _ _ _ _ ?_;rintro rfl;rcases hSb with h | ⟨_, c, f, h⟩
  ·have := hS0 _ h; omega
  ·rw [hq] at h; cases h
 have keep' : ∀ b, InS S0 B w b → InS S0 B (w.setCell ⟨q, i, none⟩ u) b := fun b h => Xq h (fun x => x) fun ⟨k1, c, f, k2⟩ => ⟨k1, c, f, (keep b h).trans k2⟩
 have hgq : g ≠ q := by rintro rfl; rw [h3] at hq; cases hq
 refine ⟨.slice (some ⟨q, 0, none⟩) bs.length cap, us.set i u, ?_, by simp [h4], fun j hj => ?_, ?_⟩
 ·rw [Below.heap_setCell _ _ _ _ hgq]; exact h3
 ·rw [List.length_set] at hj;by_cases e : i = j
  ·subst e;refine ⟨u, by rw [List.getElem?_set]; simp [h4, hi], ?_⟩;simp only [List.getElem_set_self];exact (hu.keep keep).mono keep'
  ·obtain ⟨x, e1, e2⟩ := h5 j hj;refine ⟨x, by rw [List.getElem?_set]; simp [e, e1], ?_⟩;rw [List.getElem_set_ne e];exact (e2.keep keep).mono keep'
 ·rw [List.length_set]; exact (h6.stored i u).1
def Zg7 (S : Nat → Prop) (d : Dk) (bits : Int) (w : World) (g : Nat) (c : Array Value) (k : Nat) (wr : World) : Prop :=
 Zn w wr ∧ wr.heap[w.heap.size]? = some (.cells c 26 (0, 0)) ∧ wr.heap[w.heap.size + 1]? = some (.cells #[.slice none 0 0, .slice none 0 0] 26 (0, 0)) ∧
  Zax S (w.heap.size + 1 + 1) g (.slice none 0 0) (d.keepTo (Qb bits) k) wr
theorem Zg7.grow {d : Dk} {bits : Int} {c : Array Value} {k : Nat} {wr w' : World} (h : Zg7 S d bits w g c k wr) (hg : Zn wr w') : Zg7 S d bits w g c k w' :=
 ⟨h.1.trans hg, (hg.block _ (Za h.2.1)).trans h.2.1, (hg.block _ (Za h.2.2.1)).trans h.2.2.1, h.2.2.2.grow hg⟩
theorem Zpl (bits : Int) : Value.int .u64 (IntKind.u64.wrap bits) = .int .u64 (((bits % 18446744073709551616).toNat / 2 ^ 0 : Nat) : Int) := by
 rw [IntKind.wrap_u64, Nat.pow_zero, Nat.div_one]
 congr 1
 omega
theorem Zgp (bits : Int) (k U : Nat) (h : (bits % 18446744073709551616).toNat / 2 ^ k = U) : Value.int .u64 (IntKind.u64.wrap ((U : Int) / 2)) = .int .u64 (((bits % 18446744073709551616).toNat / 2 ^ (k + 1) : Nat) : Int) := by
 rw [Nat.pow_succ, ← Nat.div_div_eq_div_mul, h, IntKind.wrap_u64];have hle : U ≤ (bits % 18446744073709551616).toNat := by rw [← h]; exact Nat.div_le_self _ _
 congr 1
 omega
theorem Ztr (S : Nat → Prop) (d : Dk) (bits : Int) (vb vl : Value) (w : World) (hS : ∀ b, S b → b < w.heap.size) (hb : Y0 S w vb d.blocks) (hl : Xl S w vl d.late) (h0 : 0 < d.blocks.length) (hlen : d.blocks.length ≤ 256) (hm : d.late.length ≤ 999990) (hp : ∀ x ∈ d.late, 0 ≤ x.1 ∧ x.1 < (d.blocks.length : Int)) :
  Calls Tryz.prog 57 #[.agg #[vb, vl], .int .i64 bits] w fun e w' => ∃ vb', e = .returned (.agg #[vb', .slice none 0 0]) ∧ Y0 (Zs S w.heap.size) w' vb' (d.keep bits).blocks ∧ Zn w w' := by
 obtain ⟨ad, cb, us, rfl, hul, hcells, hus⟩ := Zn4 hb h0;obtain ⟨al, cl, rfl⟩ := hl.p.form;obtain ⟨i0, hif, hz0, hz1, hz2⟩ := info_parts Ji;have hone : ∀ u ∈ us, u.oneCell' = true := by
  intro u hu;obtain ⟨i, hi, rfl⟩ := List.mem_iff_getElem.1 hu;obtain ⟨u', h2, h3⟩ := hus i (by omega);rw [List.getElem?_eq_getElem hi] at h2;cases h2;exact Zic h3.p
 have hc1 : ∀ (j : Nat) u, us[j]? = some u → (((w.alloc (.cells #[.slice (some ad) d.blocks.length cb, .slice al d.late.length cl] 26)).alloc (.cells #[.slice none 0 0, .slice none 0 0] 26)).alloc (.cells #[] 45)).cell? (ad.add j) = some u := by
  intro j u hj;have h2 := hcells j u hj;rw [← h2];exact Below.cell ((Zp _ _ _).trans (Zb _ _)) (Zv h2)
 have hx := hx1 w #[.slice (some ad) d.blocks.length cb, .slice al d.late.length cl] #[.slice none 0 0, .slice none 0 0];have hy := hy1 w #[.slice (some ad) d.blocks.length cb, .slice al d.late.length cl] #[.slice none 0 0, .slice none 0 0];have gW := Zp w (.cells #[.slice (some ad) d.blocks.length cb, .slice al d.late.length cl] 26) (.cells #[.slice none 0 0, .slice none 0 0] 26);have ho : (((w.alloc (.cells #[.slice (some ad) d.blocks.length cb, .slice al d.late.length cl] 26)).alloc (.cells #[.slice none 0 0, .slice none 0 0] 26)).alloc (.cells #[] 45)).ownsRow (w.heap.size + 1 + 1) 45 1 (.slice (some ⟨w.heap.size + 1 + 1, 0, none⟩) 0 0) 0 [] :=
  ⟨rfl, .inr ⟨w.heap.size + 1 + 1, 0, #[], rfl, Nat.le_refl _, by have := Zg ((w.alloc (.cells #[.slice (some ad) d.blocks.length cb, .slice al d.late.length cl] 26)).alloc (.cells #[.slice none 0 0, .slice none 0 0] 26)) #[] 45; rw [World.size_alloc, World.size_alloc] at this; exact this, Nat.le_refl _, by unfold maxLen; omega, rfl, rfl⟩⟩
 clear hb hcells;go_enter Tryz.func57, Tryz.ntmps57;go_wp2_with (first
  | (at_builtin; refine wpList_append_own _ rfl (.tmp 9) (.tmp 11) 23 rfl (w.heap.size + 1 + 1) 45 i0 (.slice none 0 0) 1 24 Tryz.underlying23 hif hz0 hz1 hz2 rfl (by decide) (.slice (some ⟨w.heap.size + 1 + 1, 0, none⟩) 0 0) 0 [] rfl ho ad d.blocks.length cb us rfl (by omega) hc1 hone (by unfold maxLen; omega) (by omega) (by simp) ?_; intro v2 w2 hown2 hgrow2 _; simp only [Nat.zero_add, List.nil_append] at hown2; have hsl := Y4 hown2; obtain ⟨a2, c2, hv2⟩ := hsl; subst hv2; have g2 : Zn _ w2 := Ya (Zb _ _) hgrow2 (fun k hk => by cases hk; simp); have hx2 := (g2.block _ (Za hx)).trans hx; have hy2 := (g2.block _ (Za hy)).trans hy; have g3 := Zb w2 (.cells #[.slice a2 d.blocks.length c2, .slice none 0 0] 26); have hx3 := (g3.block _ (Za hx2)).trans hx2; have hy3 := (g3.block _ (Za hy2)).trans hy2; have x1 := Zc hx3 1 _ rfl))
 have hstart : Zg7 S d bits w w2.heap.size #[.slice (some ad) d.blocks.length cb, .slice al d.late.length cl] 0 (w2.alloc (.cells #[.slice a2 d.blocks.length c2, .slice none 0 0] 26)) :=
  ⟨gW.trans (g2.trans g3), hx3, hy3, _, us, Zg _ _ _, hul, fun i hi => (hus i hi).imp fun u hu => ⟨hu.1, (hu.2.grow (gW.trans (g2.trans g3))).mono (fun _ h => .inl h)⟩, Yb hown2 g3⟩
 clear hx hy hx2 hy2 hx3 hy3 x1 ho hc1 hone hown2 hgrow2 hus hul g2 g3 gW;generalize w2.heap.size = g at *;generalize World.alloc w2 _ = W at *;go_loopw [6, 19] (fun u i wr => ∃ k : Nat, k ≤ d.late.length ∧ u = .int .u64 (((bits % 18446744073709551616).toNat / 2 ^ k : Nat) : Int) ∧ i = .int .i64 k ∧ Zg7 S d bits w g #[.slice (some ad) d.blocks.length cb, .slice al d.late.length cl] k wr) (fun _ i _ => d.late.length - (intOf i).toNat)
 case atStart => exact ⟨0, Nat.zero_le _, Zpl bits, rfl, hstart⟩
 case round =>
  clear hstart;obtain ⟨k, hk, rfl, rfl, hL⟩ := hrel;by_cases hlt : k < d.late.length
  ·obtain ⟨b, off, hvl, hc0, u, hc1, hu⟩ := (hl.grow hL.1).at k hlt;cases hvl;obtain ⟨au, cu, rfl, -, -⟩ := Yn hu.p;have hK : d.keepTo (Qb bits) (k + 1) = if Qb bits k = true then (d.keepTo (Qb bits) k).set d.late[k].1.toNat d.late[k].2 else d.keepTo (Qb bits) k := by
    show (if Qb bits k = true then _ else _) = _;rw [Qp _ _ _ hlt]
   have HK : Hid _ := hK;have hpk := hp d.late[k] (List.getElem_mem _);clear hK;generalize d.late[k] = lk at *;obtain ⟨at_, data⟩ := lk;have HB : Hid (Qb bits k = (decide (k < 60) && ((bits % 18446744073709551616).toNat / 2 ^ k % 2 == 1))) := rfl;generalize hUU : (bits % 18446744073709551616).toNat / 2 ^ k = U at *;have HU : Hid _ := hUU;clear hUU;have g1 := Zb wr (.cells #[.int .i64 at_, .slice au data.length cu] 107);have hz := Zg wr #[.int .i64 at_, .slice au data.length cu] 107;have hL1 := hL.grow g1;have hu1 := hu.grow g1;by_cases hon : k < 60 ∧ U % 2 = 1
   ·have hb1 : Qb bits k = true := by rw [HB.out]; simp [hon.1, hon.2]
    have hK1 := HK.out;rw [if_pos hb1] at hK1;have HK1 : Hid _ := hK1;clear hK1 hb1 HK HB hu;obtain ⟨m, rfl⟩ := Int.eq_ofNat_of_zero_le hpk.1;obtain ⟨gL, hLd, hLr, v, us', h3, h4, h5, h6⟩ := hL1;have hbl : (d.keepTo (Qb bits) k).length = d.blocks.length := d.keepTo_length _ _;generalize d.keepTo (Qb bits) k = bs at *;have hrow : ∃ q cap, v = .slice (some ⟨q, 0, none⟩) bs.length cap := by
     rcases h6.2 with ⟨_, e⟩ | ⟨q, cap, cur, e, _⟩
     ·omega
     ·exact ⟨q, cap, e⟩
    obtain ⟨q, cap, rfl⟩ := hrow;have hm1 : m < bs.length := by have := hpk.2; simp only at this; omega
    have y0 := Zc h3 0 _ rfl;obtain ⟨z0, z1⟩ := Y9 hz rfl rfl;have fq := h6.frozenAt m;have cq := h6.cellAt m (by omega);have hux : us'[m]? = some us'[m] := List.getElem?_eq_getElem (by omega);rw [hux] at cq;clear hux;generalize us'[m] = xm at cq;have hput := Zax.put (i := m) h3 h4 h5 h6 (fun b h => by have := hS b h; omega) (hu1.mono (fun _ h => .inl h)) hm1;have hqB : w.heap.size + 1 + 1 ≤ q := (h6.lt q rfl).1;have hBe : Below (w.heap.size + 1 + 1) (wr.alloc (.cells #[.int .i64 (m : Int), .slice au data.length cu] 107)) ((wr.alloc (.cells #[.int .i64 (m : Int), .slice au data.length cu] 107)).setCell ⟨q, m, none⟩ (.slice au data.length cu)) := Below.setCell (Below.refl _ _) hqB _;have hend : Zg7 S d bits w g #[.slice (some ad) d.blocks.length cb, .slice (some ⟨b, off, none⟩) d.late.length cl] (k + 1) ((wr.alloc (.cells #[.int .i64 (m : Int), .slice au data.length cu] 107)).setCell ⟨q, m, none⟩ (.slice au data.length cu)) :=
     ⟨Below.trans gL (hBe.mono (by omega)), (hBe.block _ (by omega)).trans hLd, (hBe.block _ (by omega)).trans hLr, by rw [HK1.out]; exact hput⟩
    have hU2 : (U : Int) % 2 = 1 := by omega
    have hk60 : k < 60 := hon.1;clear hput h3 h4 h5 h6 hLd hLr gL hL hBe hz hon hu1;go_wp2_with fail;go_roundw
    case rel => exact ⟨k + 1, by omega, Zgp bits k U HU.out, by simp, hend⟩
    case measure => simp [intOf]; omega
   ·have hb1 : ¬ Qb bits k = true := by
     rw [HB.out]; simp only [Bool.and_eq_true, decide_eq_true_eq, beq_iff_eq]; exact hon
    have hK1 := HK.out;rw [if_neg hb1] at hK1;have hend : Zg7 S d bits w g #[.slice (some ad) d.blocks.length cb, .slice (some ⟨b, off, none⟩) d.late.length cl] (k + 1) (wr.alloc (.cells #[.int .i64 at_, .slice au data.length cu] 107)) :=
     ⟨hL1.1, hL1.2.1, hL1.2.2.1, by rw [hK1]; exact hL1.2.2.2⟩
    clear hK1 hb1 HK HB hu hu1 hL1 hL hz;by_cases hk60 : k < 60
    ·have hU2 : (U : Int) % 2 = 0 := by omega
     clear hon;go_wp2_with fail;go_roundw
     case rel => exact ⟨k + 1, by omega, Zgp bits k U HU.out, by simp, hend⟩
     case measure => simp [intOf]; omega
    ·have hk60' : 60 ≤ k := by omega
     clear hon;go_wp2_with fail;go_roundw
     case rel => exact ⟨k + 1, by omega, Zgp bits k U HU.out, by simp, hend⟩
     case measure => simp [intOf]; omega
  ·have hk' : k = d.late.length := by omega
   subst hk';obtain ⟨vo, hbo, hbs⟩ := hL.2.2.2.blocks;obtain ⟨ao, co, rfl⟩ := hbs.p.form;obtain ⟨x0, x1⟩ := Y9 hbo rfl rfl;have y0 := Zc hL.2.2.1 0 _ rfl;have y1 := Zc hL.2.2.1 1 _ rfl;have f0 := Zi hL.2.2.1 0;have f1 := Zi hL.2.2.1 1;have cs := Zr;rename_i wr _;obtain ⟨hq1, hq2⟩ := Xs hL.2.2.1 (.slice ao (d.keepTo (Qb bits) d.late.length).length co) (.slice none 0 0);have gE := hq2.grow hL.1 (by omega);have hbE := (hbs.but hq2 (fun h => h.elim (fun h => by have := hS _ h; omega) (fun h => by omega))).mono (Zw (B := w.heap.size) (by omega));clear hq1 hq2 hbs hbo hL hlt hl;go_wp2_with fail;exact bodyPost_ret (v := .agg #[.slice ao (d.keepTo (Qb bits) d.late.length).length co, .slice none 0 0]) (by simp [results, Tryz.results57, go_sem, y0, y1, cs]) rfl ⟨_, rfl, hbE, gE⟩
end Go.Proofs.YtpdnapbchcdhlacGreat
namespace Go.Proofs.YtpdnapbchcdhlacGreat
set_option maxRecDepth 100000
open Go.RowKit
open Plain Reg
variable {base : Nat} {v : Value} {w : World}
theorem Zwn (y : Int) : bits .and .i64 y 255 = y % 256 := by
 have e1 : (BitVec.ofInt 64 y).toNat = (y % 18446744073709551616).toNat := by simp [BitVec.toNat_ofInt]
 have e2 : (BitVec.ofInt 64 255).toNat = 255 := by decide
 show IntKind.i64.wrap ((BitVec.ofInt 64 y &&& BitVec.ofInt 64 255).toNat : Int) = _;rw [BitVec.toNat_and, e1, e2, Nat.and_two_pow_sub_one_eq_mod _ 8, IntKind.wrap_i64];omega
theorem Zuw (a b : Nat) (ha : a < 256) (hb : b < 256) : bits .xor .i64 (a : Int) (b : Int) = ((a ^^^ b : Nat) : Int) := by
 have hx : a ^^^ b < 2 ^ 8 := Nat.xor_lt_two_pow (by omega) (by omega);have e1 : (BitVec.ofInt 64 (a : Int)).toNat = a := by
  rw [BitVec.ofInt_natCast, BitVec.toNat_ofNat]; exact Nat.mod_eq_of_lt (by omega)
 have e2 : (BitVec.ofInt 64 (b : Int)).toNat = b := by
  rw [BitVec.ofInt_natCast, BitVec.toNat_ofNat]; exact Nat.mod_eq_of_lt (by omega)
 show IntKind.i64.wrap ((BitVec.ofInt 64 (a : Int) ^^^ BitVec.ofInt 64 (b : Int)).toNat : Int) = _;rw [BitVec.toNat_xor, e1, e2, IntKind.wrap_i64];omega
theorem Dk.spoil_map (d : Dk) (a n y : Int) : (d.spoil a n y).blocks = (List.range d.blocks.length).map fun (i : Nat) => if (i : Int) = a then X2 (d.blocks.getD i []) n y else d.blocks.getD i [] := by
 unfold Dk.spoil;refine List.ext_getElem (by split <;> simp) fun i h1 h2 => ?_;have hi : i < d.blocks.length := by simpa using h2
 rw [List.getElem_map, List.getElem_range];by_cases ha : 0 ≤ a ∧ a < (d.blocks.length : Int)
 ·simp only [if_pos ha];by_cases e : (i : Int) = a
  ·subst e; simp
  ·rw [List.getElem_set_ne (by omega), if_neg e, Qp _ _ _ hi]
 ·have e : ¬ (i : Int) = a := by omega
  simp only [if_neg ha, if_neg e];rw [Qp _ _ _ hi]
def Zuf (S : Nat → Prop) (d : Dk) (a n y : Int) (w : World) (c : Array Value) (lv : Value) (k : Nat) (wr : World) : Prop :=
 Zn w wr ∧ wr.heap[w.heap.size]? = some (.cells c 26 (0, 0)) ∧ wr.heap[w.heap.size + 1]? = some (.cells #[.slice none 0 0, .slice none 0 0] 26 (0, 0)) ∧
  Zax S (w.heap.size + 1 + 1 + 1) (w.heap.size + 1 + 1) lv ((List.range k).map fun (i : Nat) => if (i : Int) = a then X2 (d.blocks.getD i []) n y else d.blocks.getD i []) wr
theorem Zff (l : List UInt8) (m : Nat) (y : Int) (hm : m < l.length) : (l.map bv).set m (.int .u8 ((l[m] ^^^ lo y).toNat : Int)) = (X2 l (m : Int) y).map bv := by
 unfold X2;rw [if_pos (by omega), show ((m : Int)).toNat = m from by omega, Qp _ _ _ hm, List.map_set]; rfl
theorem J5 (l : List UInt8) (n y : Int) : (X2 l n y).length = l.length := by unfold X2; split <;> simp
theorem Zl2 (c : UInt8) (y : Int) : bits .xor .i64 (c.toNat : Int) (bits .and .i64 y 255) % 256 = ((c ^^^ lo y).toNat : Int) := by
 rw [Zwn, ← Kk y, Zuw _ _ (UInt8.toNat_lt _) (UInt8.toNat_lt _), UInt8.toNat_xor];have hx : c.toNat ^^^ (lo y).toNat < 2 ^ 8 := Nat.xor_lt_two_pow (UInt8.toNat_lt _) (UInt8.toNat_lt _);omega
theorem Zpn {m : Nat} {lb lt : List UInt8} {x c : Int} (hL : lt.length = lb.length) (hM : (lb.map bv).set m (.int .u8 c) = lt.map bv) (hx : x = c) (h : w.ownsRow base 5 1 v lb.length ((lb.map bv).set m (.int .u8 x))) : w.ownsRow base 5 1 v lt.length (lt.map bv) := by
 rw [hL, ← hM, ← hx]; exact h
theorem Zj8 {n : Nat} {e : TypeId} {xs : List Value} (h : w.ownsRow base e 1 v n xs) (hn : 0 < n) : ∃ q cap, v = .slice (some ⟨q, 0, none⟩) n cap := by
 rcases h.2 with ⟨_, e⟩ | ⟨q, cap, cur, e, _⟩
 ·omega
 ·exact ⟨q, cap, e⟩
theorem Zpo (S : Nat → Prop) (d : Dk) (a n y : Int) (vb vl : Value) (w : World) (hS : ∀ b, S b → b < w.heap.size) (hb : Y0 S w vb d.blocks) (hl : Xl S w vl d.late) (hlen : d.blocks.length ≤ 256) (h16 : ∀ x ∈ d.blocks, x.length ≤ 1000) :
  Calls Tryz.prog 47 #[.agg #[vb, vl], .int .i64 a, .int .i64 n, .int .i64 y] w fun e w' => ∃ vb', e = .returned (.agg #[vb', vl]) ∧ Y0 (Zs S w.heap.size) w' vb' (d.spoil a n y).blocks ∧ Zn w w' := by
 obtain ⟨ab, cb, rfl⟩ := hb.p.form;obtain ⟨al, cl, rfl⟩ := hl.p.form;clear hl;have HF : Hid _ := d.spoil_map a n y;obtain ⟨i0, hif, hz0, hz1, hz2⟩ := info_parts Ji;obtain ⟨j0, hjf, hj0, hj1, hj2⟩ := info_parts V7;go_enter Tryz.func47, Tryz.ntmps47;go_wp2_with fail;have hstart : Zuf S d a n y w #[.slice ab d.blocks.length cb, .slice al d.late.length cl] (.slice al d.late.length cl) 0 (((w.alloc (.cells #[.slice ab d.blocks.length cb, .slice al d.late.length cl] 26)).alloc (.cells #[.slice none 0 0, .slice none 0 0] 26)).alloc (.cells #[.slice none 0 0, .slice al d.late.length cl] 26)) := by
  refine ⟨(Zp _ _ _).trans (Zb _ _), ((Zb _ _).block _ (by simp; omega)).trans (hx1 _ _ _), ((Zb _ _).block _ (by simp)).trans (hy1 _ _ _), Zax.start ?_⟩;have h := Zg ((w.alloc (.cells #[.slice ab d.blocks.length cb, .slice al d.late.length cl] 26)).alloc (.cells #[.slice none 0 0, .slice none 0 0] 26)) #[.slice none 0 0, .slice al d.late.length cl] 26;rw [World.size_alloc, World.size_alloc] at h;exact h
 generalize World.alloc (World.alloc (World.alloc w _) _) _ = W at *;go_loopw [18] (fun i wr => ∃ k : Nat, k ≤ d.blocks.length ∧ i = .int .i64 k ∧ Zuf S d a n y w #[.slice ab d.blocks.length cb, .slice al d.late.length cl] (.slice al d.late.length cl) k wr) (fun i _ => d.blocks.length - (intOf i).toNat)
 case atStart => exact ⟨0, Nat.zero_le _, rfl, hstart⟩
 case round =>
  clear hstart;obtain ⟨k, hk, rfl, hL⟩ := hrel;by_cases hlt : k < d.blocks.length
  ·obtain ⟨b, off, hvb, u, hc0, hu⟩ := (hb.grow hL.1).at k hlt;cases hvb;have hx16 := h16 d.blocks[k] (List.getElem_mem _);have HBS : Hid (((List.range k).map fun (i : Nat) => if (i : Int) = a then X2 (d.blocks.getD i []) n y else d.blocks.getD i []) ++ [if (k : Int) = a then X2 d.blocks[k] n y else d.blocks[k]] = (List.range (k + 1)).map fun (i : Nat) => if (i : Int) = a then X2 (d.blocks.getD i []) n y else d.blocks.getD i []) := by
    show _ ++ _ = _; rw [List.range_succ, List.map_append, ← Qp d.blocks k [] hlt]; rfl
   generalize d.blocks[k] = bk at *;obtain ⟨au, cu, rfl, hnone, hcells⟩ := Yn hu.p;by_cases hon : (k : Int) = a ∧ 0 ≤ n ∧ n < (bk.length : Int)
   ·obtain ⟨rfl, hn0, hn1⟩ := hon;rw [if_pos rfl] at HBS;obtain ⟨m, rfl⟩ := Int.eq_ofNat_of_zero_le hn0;have hm1 : m < bk.length := by omega
    cases au with
    | none => exact absurd (hnone rfl).1 (by omega)
    | some ad =>
     have ho := Zca wr;have hc1 : ∀ (j : Nat) u, (bk.map bv)[j]? = some u → (wr.alloc (.cells #[] 5)).cell? (ad.add j) = some u := by
      intro j u hj;have h2 := hcells ad rfl j u hj;rw [← h2];exact Below.cell (Zb wr _) (Zv h2)
     have hlr : ((List.range k).map fun (i : Nat) => if (i : Int) = (k : Int) then X2 (d.blocks.getD i []) (m : Int) y else d.blocks.getD i []).length = k := by simp
     obtain ⟨gL0, hLd0, hLr0, hO0⟩ := hL;generalize ((List.range k).map fun (i : Nat) => if (i : Int) = (k : Int) then X2 (d.blocks.getD i []) (m : Int) y else d.blocks.getD i []) = bs at *;subst hlr;have hbm : (bk.map bv)[m]? = some (.int .u8 (bk[m].toNat : Int)) := by simp [hm1, bv]
     have HTM : Hid _ := Zff bk m y hm1;have HTL : Hid _ := J5 bk (m : Int) y;have HX : Hid _ := Zl2 bk[m] y;have hcb : bk[m].toNat < 256 := UInt8.toNat_lt _;have hgs0 : w.heap.size + 1 + 1 < wr.heap.size := by obtain ⟨v, us, h3, _⟩ := hO0; exact Za h3
     clear hcells hnone hu hn0 hn1;generalize bk[m] = cm at *;go_wp2_with (first
      | (at_builtin; refine wpList_append_own _ rfl (.tmp 36) (.tmp 37) 45 rfl wr.heap.size 5 j0 (.int .u8 0) 1 1 Tryz.underlying45 hjf hj0 hj1 hj2 rfl (by decide) (.slice (some ⟨wr.heap.size, 0, none⟩) 0 0) 0 [] rfl ho ad bk.length cu (bk.map bv) rfl (by simp) hc1 (Jk bk) (by unfold maxLen; omega) (by omega) (by simp) ?_; intro v2 w2 hown2 hgrow2 _; simp only [Nat.zero_add, List.nil_append] at hown2; have hrow := Zj8 hown2 (by omega); obtain ⟨q, c2, hv2⟩ := hrow; subst hv2; have cq := (hown2.cellAt m (by omega)).trans hbm; have fq := hown2.frozenAt m; have hqw := (hown2.lt q rfl).1; have g2 : Zn wr w2 := Ya (Zb wr _) hgrow2 (fun k hk => by cases hk; simp); have g2' := Zx g2 (a := ⟨q, m, none⟩) hqw (.int .u8 (bits .xor .i64 (cm.toNat : Int) (bits .and .i64 y 255) % 256)); have hst2 := Zpn (lt := X2 bk (m : Int) y) HTL.out HTM.out HX.out (hown2.stored m (.int .u8 (bits .xor .i64 (cm.toNat : Int) (bits .and .i64 y 255) % 256))).1; have hO2 := hO0.grow g2'; obtain ⟨v, us, h3, h4, h5, h6⟩ := hO2; have hsv := Y4 h6; obtain ⟨av, cv, hvv⟩ := hsv; subst hvv; have y0 := Zc h3 0 _ rfl; have hsz2 : (w2.setCell ⟨q, m, none⟩ (.int .u8 (bits .xor .i64 (cm.toNat : Int) (bits .and .i64 y 255) % 256))).heap.size = w2.heap.size := World.size_setCell _ _ _; have hgz := g2.size; clear hown2 hgrow2 hc1 ho)
      | (at_builtin; refine wpList_append_own _ rfl (.tmp 52) (.tmp 54) 23 rfl (w.heap.size + 1 + 1 + 1) 45 i0 (.slice none 0 0) 1 24 Tryz.underlying23 hif hz0 hz1 hz2 rfl (by decide) (.slice av bs.length cv) bs.length us rfl (h6.alloc _) ⟨w2.heap.size, 0, none⟩ 1 1 [.slice (some ⟨q, 0, none⟩) bk.length c2] rfl rfl (fun j u hj => by have := Zga (w2.setCell ⟨q, m, none⟩ (.int .u8 (bits .xor .i64 (cm.toNat : Int) (bits .and .i64 y 255) % 256))) _ 45 j u hj; rw [hsz2] at this; exact this) (by intro u hu; simp at hu; subst hu; rfl) (by unfold maxLen; omega) (by omega) (by simp; omega) ?_; intro v3 w3 hown3 hgrow3 _; have hb3 := Ze6 h6 (by decide) h3 hgrow3; have f0 := Zi hb3 0; have hst := Zax.step h3 h4 h5 h6 (fun b h => by have := hS b h; omega) (by omega) (Zd6 S (by omega) hst2) hgrow3 hown3; have hsl := Y4 hown3; obtain ⟨a3, c3, hv3⟩ := hsl; subst hv3; have y3 := Zc hb3 0 _ rfl; have cs := Zr; clear y0))
     go_roundw
     case rel =>
      have hBx := Zd7 (B := w.heap.size + 1 + 1 + 1) (o := .cells #[.slice (some ⟨q, 0, none⟩) bk.length c2] 45) (by omega) h6 hgrow3;have hB2 : Below (w.heap.size + 1 + 1) (w2.setCell ⟨q, m, none⟩ (.int .u8 (bits .xor .i64 (cm.toNat : Int) (bits .and .i64 y 255) % 256))) (w3.setCell ⟨w.heap.size + 1 + 1, 0, none⟩ (.slice a3 (bs.length + 1) c3)) := Below.setCell (hBx.mono (by omega)) (by show w.heap.size + 1 + 1 ≤ w.heap.size + 1 + 1; omega) _;exact ⟨bs.length + 1, by omega, by simp, Below.trans (gL0.trans g2') (hB2.mono (by omega)), (hB2.block _ (by omega)).trans ((g2'.block _ (Za hLd0)).trans hLd0), (hB2.block _ (by omega)).trans ((g2'.block _ (Za hLr0)).trans hLr0), by rw [← HBS.out]; exact hst⟩
     case measure => simp [intOf]; omega
   ·have hoff : (if (k : Int) = a then X2 bk n y else bk) = bk := by
     by_cases e : (k : Int) = a
     ·rw [if_pos e]; unfold X2; rw [if_neg (by omega)]
     ·rw [if_neg e]
    rw [hoff] at HBS;clear hoff hcells hnone;obtain ⟨gL, hLd, hLr, v, us, h3, h4, h5, h6⟩ := hL;have hlr : ((List.range k).map fun (i : Nat) => if (i : Int) = a then X2 (d.blocks.getD i []) n y else d.blocks.getD i []).length = k := by simp
    generalize ((List.range k).map fun (i : Nat) => if (i : Int) = a then X2 (d.blocks.getD i []) n y else d.blocks.getD i []) = bs at *;subst hlr;obtain ⟨av, cv, rfl⟩ := Y4 h6;have y0 := Zc h3 0 _ rfl;have hgs : w.heap.size + 1 + 1 < wr.heap.size := Za h3;have hcase : (bs.length : Int) ≠ a ∨ ((bs.length : Int) = a ∧ n < 0) ∨ ((bs.length : Int) = a ∧ 0 ≤ n ∧ (bk.length : Int) ≤ n) := by omega
    clear hon;rcases hcase with hn1 | ⟨rfl, hn2⟩ | ⟨rfl, hn2, hn3⟩
    all_goals
     first | (have hd0 : ((bs.length : Int) == a) = false := by simpa using hn1) | skip
     go_wp2_with (first
      | (at_builtin; refine wpList_append_own _ rfl (.tmp 52) (.tmp 54) 23 rfl (w.heap.size + 1 + 1 + 1) 45 i0 (.slice none 0 0) 1 24 Tryz.underlying23 hif hz0 hz1 hz2 rfl (by decide) (.slice av bs.length cv) bs.length us rfl (h6.alloc _) ⟨wr.heap.size, 0, none⟩ 1 1 [.slice au bk.length cu] rfl rfl (fun j u hj => Zga wr _ _ j u hj) (by intro u hu; simp at hu; subst hu; rfl) (by unfold maxLen; omega) (by omega) (by simp; omega) ?_; intro v3 w3 hown3 hgrow3 _; have hb3 := Ze6 h6 (by decide) h3 hgrow3; have f0 := Zi hb3 0; have hst := Zax.step h3 h4 h5 h6 (fun b h => by have := hS b h; omega) (by omega) (hu.mono (fun _ h => .inl h)) hgrow3 hown3; have hsl := Y4 hown3; obtain ⟨a3, c3, hv3⟩ := hsl; subst hv3; have y3 := Zc hb3 0 _ rfl; have cs := Zr; clear y0))
     go_roundw
     case rel =>
      have hBx := Zd7 (o := .cells #[.slice au bk.length cu] 45) hgs h6 hgrow3;have hB2 : Below (w.heap.size + 1 + 1) wr (w3.setCell ⟨w.heap.size + 1 + 1, 0, none⟩ (.slice a3 (bs.length + 1) c3)) := Below.setCell (hBx.mono (by omega)) (by show w.heap.size + 1 + 1 ≤ w.heap.size + 1 + 1; omega) _;exact ⟨bs.length + 1, by omega, by simp, Below.trans gL (hB2.mono (by omega)), (hB2.block _ (by omega)).trans hLd, (hB2.block _ (by omega)).trans hLr, by rw [← HBS.out]; exact hst⟩
     case measure => simp [intOf]; omega
  ·have hk' : k = d.blocks.length := by omega
   subst hk';obtain ⟨vo, hbo, hbs⟩ := hL.2.2.2.blocks;rw [← HF.out] at hbs;obtain ⟨ao, co, rfl⟩ := hbs.p.form;obtain ⟨x0, x1⟩ := Y9 hbo rfl rfl;have y0 := Zc hL.2.2.1 0 _ rfl;have y1 := Zc hL.2.2.1 1 _ rfl;have f0 := Zi hL.2.2.1 0;have f1 := Zi hL.2.2.1 1;have cs := Zr;rename_i wr _;obtain ⟨hq1, hq2⟩ := Xs hL.2.2.1 (.slice ao (d.spoil a n y).blocks.length co) (.slice al d.late.length cl);have gE := hq2.grow hL.1 (by omega);have hbE := (hbs.but hq2 (fun h => h.elim (fun h => by have := hS _ h; omega) (fun h => by omega))).mono (Zw (B := w.heap.size) (by omega));clear hq1 hq2 hbs hbo hL hlt hb HF;generalize hls : (d.spoil a n y).blocks = ls at *;have HLS : Hid _ := hls;clear hls;go_wp2_with fail;exact bodyPost_ret (v := .agg #[.slice ao ls.length co, .slice al d.late.length cl]) (by simp [results, Tryz.results47, go_sem, y0, y1, cs]) rfl ⟨_, rfl, by rw [HLS.out]; exact hbE, gE⟩
end Go.Proofs.YtpdnapbchcdhlacGreat
