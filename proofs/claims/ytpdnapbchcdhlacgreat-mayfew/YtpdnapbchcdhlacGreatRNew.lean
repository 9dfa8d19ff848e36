import Derived.Test.YtpdnapbchcdhlacGreatJPd
set_option maxHeartbeats 8000000
namespace Go.Proofs.YtpdnapbchcdhlacGreat
set_option maxRecDepth 100000
open Go.RowKit
open Plain Reg
variable {B n size : Nat} {bs : List (List UInt8)} {d u v : Value} {e : TypeId} {l : List UInt8} {us xs : List Value} {w w' : World}
theorem Q6.snoc {v' : Value} {l : List UInt8} (h : Q6 B v bs us w) (hr : w'.ownsRow B 45 1 v' (bs.length + 1) (us ++ [u]))
  (he : ∀ i (hi : i < bs.length), ∃ u, us[i]? = some u ∧ w'.ownsRow B 5 1 u bs[i].length (bs[i].map bv)) (hu : w'.ownsRow B 5 1 u l.length (l.map bv)) : Q6 B v' (bs ++ [l]) (us ++ [u]) w' := by
 refine ⟨by simp [h.len], by simpa using hr, fun i hi => ?_⟩;by_cases hi2 : i < bs.length
 ·obtain ⟨y, h1, h2⟩ := he i hi2;refine ⟨y, by rw [List.getElem?_append_left (by have := h.len; omega)]; exact h1, ?_⟩;rw [List.getElem_append_left hi2]; exact h2
 ·have e : i = bs.length := by simp at hi; omega
  subst e;exact ⟨u, by rw [← h.len]; simp, by simpa using hu⟩
theorem Zqr (w : World) (B n b0 : Nat) (d : Value) (us : List Value) (u : Value) (ty : TypeId) (hown : w.ownsRow B 45 1 d n us) (hx : w.heap[b0]? = some (.cells #[u] 45 (0, 0))) (hu : u.oneCell' = true) (hm : n < 1000) (hB : B ≤ w.heap.size) :
  ∃ v' w', (Builtin.append_ #[23, 23] ty #[d, .slice (some ⟨b0, 0, none⟩) 1 1]).run Tryz.prog w = .ok v' w' ∧ w'.ownsRow B 45 1 v' (n + 1) (us ++ [u]) ∧ w.grownBy w' d.ownBlock := by
 obtain ⟨i0, hif, hz0, hz1, hz2⟩ := info_parts Zcj;obtain ⟨v', w', h1, h2, h3, _⟩ := run_append_own (P := Tryz.prog) w B 23 ty 45 i0 (.slice none 0 0) 1 24 Tryz.underlying23 hif hz0 hz1 hz2 rfl (by decide) d n us hown ⟨b0, 0, none⟩ 1 1 [u] rfl
  (fun j z hj => by
   match j, hj with
   | 0, hj => simp at hj; subst hj; simp [Addr.add, World.cell?, hx]
   | j + 1, hj => simp at hj) (by intro z hz; simp at hz; subst hz; exact hu) (by unfold maxLen; omega) (by omega) hB
 exact ⟨v', w', h1, h2, h3⟩
theorem Zh6 {base : Nat} (hs : Zar d w w') (hd : ∀ q, d.ownBlock = some q → v.ownBlock ≠ some q) (h : w.ownsRow base e size v n xs) : w'.ownsRow base e size v n xs := by
 rcases hs with rfl | hs
 ·exact h
 ·refine ⟨h.1, Xk h.2 (fun x => x) fun ⟨q, cap, cur, h1, h2, h3, r⟩ => ⟨q, cap, cur, h1, h2, ?_, r⟩⟩;rw [hs.block _ (Za h3) (fun e => by subst h1; exact hd q e.symm rfl)];exact h3
def Zit (B : Nat) (d : Value) (l : List UInt8) (v : Value) (w : World) : Prop := w.ownsRow B 5 1 v l.length (l.map bv) ∧ ∀ q, d.ownBlock = some q → v.ownBlock ≠ some q
theorem Zh0 (B : Nat) (d : Value) (l : List UInt8) : Xq (Zit B d l) := fun _ _ _ hg h => ⟨Z7 h.1 hg, h.2⟩
theorem Znz (hs : Zar d w w') (h : Zit B d l v w) : Zit B d l v w' := ⟨Zh6 hs h.2 h.1, h.2⟩
theorem Zn2 (hs : Ys 26 w w') (h : Zit B d l v w) : Zit B d l v w' := ⟨Qh (by decide) hs h.1, h.2⟩
def Zk7 (B : Nat) (d : Value) (l : List UInt8) (v : Value) (w : World) : Prop := ∃ b0 u, v = .slice (some ⟨b0, 0, none⟩) 1 1 ∧ w.heap[b0]? = some (.cells #[u] 45 (0, 0)) ∧ (∀ q, d.ownBlock = some q → b0 ≠ q) ∧ Zit B d l u w
theorem Zuh (B : Nat) (d : Value) (l : List UInt8) : Xq (Zk7 B d l) := by
 rintro v w w' hg ⟨b0, u, h1, h2, h3, h4⟩; exact ⟨b0, u, h1, (hg.block _ (Za h2)).trans h2, h3, Zh0 _ _ _ _ _ _ hg h4⟩
theorem Zum (hs : Zar d w w') (h : Zk7 B d l v w) : Zk7 B d l v w' := by
 obtain ⟨b0, u, h1, h2, h3, h4⟩ := h;refine ⟨b0, u, h1, ?_, h3, Znz hs h4⟩;rcases hs with rfl | hs
 ·exact h2
 ·exact (hs.block _ (Za h2) (fun e => h3 b0 e.symm rfl)).trans h2
theorem Zup (hs : Ys 26 w w') (h : Zk7 B d l v w) : Zk7 B d l v w' := by
 obtain ⟨b0, u, h1, h2, h3, h4⟩ := h;refine ⟨b0, u, h1, ?_, h3, Zn2 hs h4⟩;rcases hs with rfl | ⟨g', c1, c2, hb, h5, h6, h7⟩
 ·exact h2
 ·exact (hb.block _ (Za h2) (by rintro rfl; rw [h5] at h2; cases h2)).trans h2
def Znq (B n : Nat) (us : List Value) (l : List UInt8) (v : Value) (w : World) : Prop := ∃ u, w.ownsRow B 45 1 v (n + 1) (us ++ [u]) ∧ w.ownsRow B 5 1 u l.length (l.map bv)
theorem Znx (B n : Nat) (us : List Value) (l : List UInt8) : Xq (Znq B n us l) := by
 rintro v w w' hg ⟨u, h1, h2⟩; exact ⟨u, Z7 h1 hg, Z7 h2 hg⟩
theorem Zuq (hs : Ys 26 w w') (h : Znq B n us l v w) : Znq B n us l v w' := by
 obtain ⟨u, h1, h2⟩ := h; exact ⟨u, Qh (by decide) hs h1, Qh (by decide) hs h2⟩
def Zw9 (B g n : Nat) (us : List Value) (l : List UInt8) (v : Value) (w : World) : Prop := w.heap[g]? = some (.cells #[v, .slice none 0 0] 26 (0, 0)) ∧ Znq B n us l v w
theorem Zue (B g n : Nat) (us : List Value) (l : List UInt8) (i : Nat) : Vz (pl1 i (fun _ v w => Zw9 B g n us l v w)) := by
 rintro v ds w w' hg ⟨h1, h2⟩;exact ⟨(hg.block _ (Za h1)).trans h1, Znx _ _ _ _ _ _ _ hg h2⟩
def Zgb (w : World) (v : Value) (bs : List (List UInt8)) (us : List Value) (dn : Nat → Bool) (w' : World) : Prop :=
 Zl w w' ∧ w'.heap[w.heap.size]? = some (.cells #[.slice none 0 0, .slice none 0 0] 26 (0, 0)) ∧ w.heap.size + 1 + 1 ≤ w'.heap.size ∧ (dn 8 = false → w'.heap[w.heap.size + 1]? = some (.cells #[v, .slice none 0 0] 26 (0, 0))) ∧
  (dn 6 = false → w'.ownsRow (w.heap.size + 1 + 1) 45 1 v bs.length us) ∧ (∀ i (hi : i < bs.length), ∃ u, us[i]? = some u ∧ w'.ownsRow (w.heap.size + 1 + 1) 5 1 u bs[i].length (bs[i].map bv))
theorem Zgb.grow {dn : Nat → Bool} {w'' : World} (h : Zgb w v bs us dn w') (hg : Zl w' w'') : Zgb w v bs us dn w'' :=
 ⟨h.1.trans hg, (hg.block _ (Za h.2.1)).trans h.2.1, Nat.le_trans h.2.2.1 hg.size, fun h8 => (hg.block _ (Za (h.2.2.2.1 h8))).trans (h.2.2.2.1 h8), fun h6 => Z7 (h.2.2.2.2.1 h6) hg, fun i hi => (h.2.2.2.2.2 i hi).imp fun _ hu => ⟨hu.1, Z7 hu.2 hg⟩⟩
def Ztt (w : World) (bs : List (List UInt8)) (wr : World) : Prop :=
 Zl w wr ∧ wr.heap[w.heap.size]? = some (.cells #[.slice none 0 0, .slice none 0 0] 26 (0, 0)) ∧ ∃ v us, wr.heap[w.heap.size + 1]? = some (.cells #[v, .slice none 0 0] 26 (0, 0)) ∧ Q6 (w.heap.size + 1 + 1) v bs us wr
theorem Zfi {B' m size' : Nat} {T : TypeId} {ys : List Value} (h : w.ownsRow B e size v n xs) (h' : w.ownsRow B' T size' u m ys) (hT : e ≠ T) : ∀ q, u.ownBlock = some q → v.ownBlock ≠ some q := by
 intro q h1 h2;rcases h.2 with ⟨rfl, _⟩ | ⟨g, cap, cur, rfl, _, hh, _⟩
 ·cases h2
 ·rcases h'.2 with ⟨rfl, _⟩ | ⟨g', cap', cur', rfl, _, hh', _⟩
  ·cases h1
  ·cases h1; cases h2; rw [hh] at hh'; cases hh'; exact hT rfl
theorem Zj2 (w : World) : Calls Tryz.prog 61 #[] w fun e w' => ∃ v, e = .returned v ∧ Qw w.heap.size Dk.new v w' ∧ Zl w w' := by
 have hstart : Ztt w [] ((w.alloc (.cells #[.slice none 0 0, .slice none 0 0] 26)).alloc (.cells #[.slice none 0 0, .slice none 0 0] 26)) :=
  ⟨Zq _ _ _, hx1 _ _ _, .slice none 0 0, [], hy1 _ _ _, rfl, World.ownsRow_nil _ _ _ _, fun i hi => by simp at hi⟩
 go_enter Tryz.func61, Tryz.ntmps61;go_wp2_with fail;generalize World.alloc (World.alloc w _) _ = W at *;go_loopw [4] (fun i wr => ∃ k : Nat, k ≤ 12 ∧ i = .int .i64 k ∧ Ztt w (Dk.new.blocks.take k) wr) (fun i _ => 12 - (intOf i).toNat)
 case atStart => exact ⟨0, Nat.zero_le _, rfl, hstart⟩
 case round =>
  clear hstart;obtain ⟨k, hk, rfl, gL, hLr, v, us, hLg, hU⟩ := hrel;by_cases hlt : k < 12
  ·have hkb : k < Dk.new.blocks.length := hlt;have HT : Hid (Dk.new.blocks.take (k + 1) = Dk.new.blocks.take k ++ [blk ⟨1, 0, 0, []⟩ (k : Int)]) := by
    show _ = _; rw [List.take_succ_eq_append_getElem hkb, Zmi k hkb]
   have hpl : (Dk.new.blocks.take k).length = k := by rw [List.length_take, Zcx]; omega
   have HL16 : Hid ((blk ⟨1, 0, 0, []⟩ (k : Int)).length = 16) := Vd _ _ (by simp);generalize hbe : blk ⟨1, 0, 0, []⟩ (k : Int) = bl at *;have HBE : Hid _ := hbe;clear hbe;generalize Dk.new.blocks.take k = bs at *;have hz : w.heap.size + 1 < wr.heap.size := Za hLg;obtain ⟨av, cv, rfl⟩ := hU.p.form;go_wp2_with fail
   refine Y1 [px (.pointer (some ⟨w.heap.size + 1, 0, none⟩)), px (.slice av bs.length cv), px (.agg #[.int .i64 1, .int .i64 0, .int .i64 0, .slice none 0 0]), px (.int .i64 (k : Int)), pl (Zit (w.heap.size + 1 + 1) (.slice av bs.length cv) bl), pl (Zk7 (w.heap.size + 1 + 1) (.slice av bs.length cv) bl), pl (Znq (w.heap.size + 1 + 1) bs.length us bl), px (.pointer (some ⟨w.heap.size + 1, 0, none⟩)), pl1 6 ((fun _ v w' => Zw9 (w.heap.size + 1 + 1) (w.heap.size + 1) bs.length us bl v w'))] [none, none, none, none, none, none, some ((Zar (.slice av bs.length cv))), none, some ((Ys 26))] (Zgb w (.slice av bs.length cv) bs us) (by kernel_rfl) (by kernel_rfl) ⟨se, se, se, se, Yn (Zh0 _ _ _), Yn (Zuh _ _ _), Yn (Znx _ _ _ _), se, Zue _ _ _ _ _ _, trivial⟩ ⟨⟨(fun w => .inl rfl), ⟨x5, x5, x5, x5, .inr ((fun v _ w w' hs hq => Znz hs hq)), .inr ((fun v _ w w' hs hq => Zum hs hq)), .inl (by kernel_rfl), .inl (by kernel_rfl), .inl (by kernel_rfl), trivial⟩⟩, ⟨(fun w => .inl rfl), ⟨x5, x5, x5, x5, .inr ((fun v _ w w' hs hq => Zn2 hs hq)), .inr ((fun v _ w w' hs hq => Zup hs hq)), .inr ((fun v _ w w' hs hq => Zuq hs hq)), x5, .inl (by kernel_rfl), trivial⟩⟩, trivial⟩ ⟨n5, n5, n5, n5, n5, n5, n5, n5, fun _ _ _ _ h => h, trivial⟩ ⟨gL.drew, hLr, by show _ ≤ wr.heap.size; omega, fun _ => hLg, fun _ => hU.row, hU.each⟩ ?_ ?_
   ·refine ⟨?_, ?_, ?_, ?_, ?_, ?_, ?_, ?_, ?_, trivial⟩
    ·refine Zd rfl fun a _ _ _ _ _ B A => ?_;have e1 : a (.tmp 1) = .pointer (some ⟨w.heap.size + 1, 0, none⟩) := Zm A 1 rfl;refine Zi ?_ B rfl;clear A B;go_simp;all_goals go_arith
    ·refine Zd rfl fun a _ _ _ _ C B A => ?_;have e7 : a (.tmp 7) = _ := Zf A 0 rfl;have n6 := C.not1 6 (by kernel_rfl);have n8 := C.notBy 8 6 n6 (by kernel_rfl);have z0 := Zc (B.2.2.2.1 n8) 0 _ rfl;refine Zi ?_ B rfl;clear A B C;go_simp;all_goals go_arith
    ·refine Zd rfl fun a B _ _ _ D C A => ?_;refine Yi (f := 83) (args := #[]) ?_ ((Za8 B).mono ?_)
     ·clear A C D;go_simp;all_goals go_arith
     ·rintro e w2 ⟨rfl, g2⟩;exact ⟨_, rfl, g2, Zgb.grow C g2, rfl⟩
    ·exact Zd rfl fun a _ _ _ _ _ B A => Z5 rfl B (Zm A 2 rfl)
    ·refine Zd rfl fun a B _ _ _ D C A => ?_;have e9 : a (.tmp 9) = _ := Zf A 2 rfl;have e10 : a (.tmp 10) = _ := Zf A 3 rfl;have n6 := D.not1 6 (by kernel_rfl);refine Yi (f := 95) (args := #[.agg #[.int .i64 1, .int .i64 0, .int .i64 0, .slice none 0 0], .int .i64 (k : Int)]) ?_ ((Zo6 1 0 0 (k : Int) [] _ B (Zhq _) Zf1 (by omega) (by omega)).mono ?_)
     ·clear A C D;go_simp;all_goals go_arith
     ·rintro e w2 ⟨v', rfl, ho, g2⟩;rw [HBE.out, ← HL16.out] at ho;have hJ2 := Zgb.grow C g2;exact ⟨_, rfl, g2, hJ2, Yd ho C.2.2.1, Zfi ho (hJ2.2.2.2.2.1 n6) (by decide)⟩
    ·refine Zd rfl fun a w' _ _ _ C B A => ?_;have e11 : (Zit (w.heap.size + 1 + 1) (.slice av bs.length cv) bl) (a (.tmp 11)) w' := Zf A 4 rfl;have n6 := C.not1 6 (by kernel_rfl);obtain ⟨a1, c1, h11⟩ := Z8 e11.1;rw [h11] at e11;refine X7 (v := .slice (some ⟨w'.heap.size, 0, none⟩) 1 1) (w' := w'.alloc (.cells #[.slice a1 bl.length c1] 45)) ?_ (Zb _ _) (Zgb.grow B (Zb _ _)) ⟨_, _, rfl, Zk _ _ _, fun q hq => by have := ((B.2.2.2.2.1 n6).lt q hq).2; omega, Zh0 _ _ _ _ _ _ (Zb _ _) e11⟩;clear A B C e11;go_simp;all_goals go_arith
    ·refine Zd rfl fun a w' _ _ _ C B A => ?_;have e8 : a (.tmp 8) = _ := Zf A 1 rfl;have e12 : (Zk7 (w.heap.size + 1 + 1) (.slice av bs.length cv) bl) (a (.tmp 12)) w' := Zf A 5 rfl;obtain ⟨b0, u, h12, hh0, hb0, ho⟩ := e12;have hrow := B.2.2.2.2.1 C.un;obtain ⟨v', w2, hrun, ho2, hg2⟩ := Zqr w' (w.heap.size + 1 + 1) bs.length b0 _ us u 23 hrow hh0 (by obtain ⟨a4, c4, rfl⟩ := Z8 ho.1; rfl) (by omega) B.2.2.1;have hst : Zar (.slice av bs.length cv) w' w2 := .inr hg2;refine X7 (v := v') (w' := w2) ?_ hst ⟨Yj B.1 hg2 (fun k hk => by have := (hrow.lt k hk).1; omega), (hg2.block _ (Za B.2.1) (Zsj hrow (by decide) B.2.1)).trans B.2.1, Nat.le_trans B.2.2.1 hg2.size, fun h8 => ?_, fun h => by simp [upd] at h, fun i hi => (B.2.2.2.2.2 i hi).imp fun _ hu => ⟨hu.1, Zh6 hst (Zfi hu.2 hrow (by decide)) hu.2⟩⟩ ⟨u, ho2, Zh6 hst ho.2 ho.1⟩
     ·exact Kj (.tmp 8) (.tmp 12) 23 rfl _ _ e8 h12 hrun
     ·have h8' := B.2.2.2.1 h8;exact (hg2.block _ (Za h8') (Zsj hrow (by decide) h8')).trans h8'
    ·refine Zd rfl fun a _ _ _ _ _ B A => ?_;have e1 : a (.tmp 1) = .pointer (some ⟨w.heap.size + 1, 0, none⟩) := Zm A 1 rfl;refine Zi ?_ B rfl;clear A B;go_simp;all_goals go_arith
    ·refine Zd rfl fun a w' _ _ D C B A => ?_;have e14 : a (.tmp 14) = _ := Zf A 7 rfl;have e13 : (Znq (w.heap.size + 1 + 1) bs.length us bl) (a (.tmp 13)) w' := Zf A 6 rfl;obtain ⟨u, ho, hu⟩ := e13;obtain ⟨a3, c3, h13⟩ := Z8 ho;have hh8 := B.2.2.2.1 C.un;have y3 := Zc hh8 0 _ rfl;have f3 := Zo hh8 0;have hp1 := Yb hh8 0 (a (.tmp 13));have hp2 : (w'.setCell ⟨w.heap.size + 1, 0, none⟩ (a (.tmp 13))).heap[w.heap.size + 1]? = some (.cells #[a (.tmp 13), .slice none 0 0] 26 (0, 0)) := by simpa using hp1
     have hstep : Ys 26 w' (w'.setCell ⟨w.heap.size + 1, 0, none⟩ (a (.tmp 13))) := .inr ⟨w.heap.size + 1, _, _, (Zp.refl _ _).set _ _ _, hh8, hp1, by simp⟩;refine Yg (w' := w'.setCell ⟨w.heap.size + 1, 0, none⟩ (a (.tmp 13))) ?_ hstep ⟨Zx B.1 (by show w.heap.size ≤ w.heap.size + 1; omega) _, ?_, by simpa using B.2.2.1, fun h => by simp [upd] at h, fun h => ?_, fun i hi => (B.2.2.2.2.2 i hi).imp fun _ hu => ⟨hu.1, Qh (by decide) hstep hu.2⟩⟩ ⟨hp2, u, Qh (by decide) hstep ho, Qh (by decide) hstep hu⟩
     ·clear A B hh8 hp1 hp2 hstep ho hu C;go_simp;all_goals go_arith
     ·rw [Below.heap_setCell _ _ _ _ (by show w.heap.size ≠ w.heap.size + 1; omega)]; exact B.2.1
     ·have := C.rd 6 (by kernel_rfl);have h' : D 6 = false := h;rw [this] at h'; cases h'
   ·intro vs w' dn hdn hg ht;obtain ⟨q7, q8, q9, q10, q11, q12, q13, q14, qo8, -⟩ := ht;have r7 : vs 0 = _ := q7;have r8 : vs 1 = _ := q8;have r9 : vs 2 = _ := q9;have r10 : vs 3 = _ := q10;replace q11 : (Zit (w.heap.size + 1 + 1) (.slice av bs.length cv) bl) (vs 4) w' := q11;replace q12 : (Zk7 (w.heap.size + 1 + 1) (.slice av bs.length cv) bl) (vs 5) w' := q12;replace q13 : (Znq (w.heap.size + 1 + 1) bs.length us bl) (vs 6) w' := q13;have r14 : vs 7 = _ := q14;replace qo8 : ((fun _ v w' => Zw9 (w.heap.size + 1 + 1) (w.heap.size + 1) bs.length us bl v w')) (vs 8) (vs 6) w' := qo8;clear q7 q8 q9 q10 q14;simp only [Ye, Act.put, List.setIfInBounds_toArray, List.set_cons_zero, List.set_cons_succ, Nat.reduceAdd, r7, r8, r9, r10, r14];clear r7 r8 r9 r10 r14;obtain ⟨hp2, u, ho, hu⟩ := qo8;have hL2 := Q6.snoc hU ho hg.2.2.2.2.2 hu;rw [← HT.out] at hL2;have hend : Ztt w (Dk.new.blocks.take (k + 1)) w' := ⟨hg.1, hg.2.1, _, _, hp2, hL2⟩;clear hg hdn q11 q12 q13 hL2 hp2 ho hu hU hLr hLg gL;generalize vs 4 = u4;generalize vs 5 = u5;generalize vs 6 = u6;go_wp2_with fail;go_roundw
    case rel => exact ⟨k + 1, by omega, by simp, hend⟩
    case measure => simp [intOf]; omega
  ·have hk' : k = 12 := by omega
   subst hk';have hte : Dk.new.blocks.take 12 = Dk.new.blocks := List.take_of_length_le (by rw [Zcx]; omega);rw [hte] at hU;obtain ⟨av, cv, rfl⟩ := hU.p.form;obtain ⟨y0, y1⟩ := X1 hLg rfl rfl;obtain ⟨z0, z1⟩ := X1 hLr rfl rfl;have f0 := Zo hLr 0;have f1 := Zo hLr 1;have cs := Zu;obtain ⟨hp1, hp2⟩ := Qa hLr (.slice av Dk.new.blocks.length cv) (.slice none 0 0);have hstep : Ys 26 wr _ := .inr ⟨_, _, _, hp2, hLr, hp1, rfl⟩;have gE := hp2.grow gL (by omega);have hE := (hU.box hstep).mono (B' := w.heap.size) (by omega);clear hp1 hp2 hstep hU hLg hLr gL hte;generalize Dk.new.blocks.length = nn at *;go_wp2_with fail;exact bodyPost_ret (v := .agg #[.slice av nn cv, .slice none 0 0]) (by simp [results, Tryz.results61, go_sem, z0, z1, cs]) rfl ⟨_, rfl, ⟨_, _, rfl, ⟨us, hE⟩, Qs.nil _ _⟩, gE⟩
end Go.Proofs.YtpdnapbchcdhlacGreat
