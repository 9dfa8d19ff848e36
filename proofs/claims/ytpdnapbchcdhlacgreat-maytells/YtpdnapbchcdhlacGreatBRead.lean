import Derived.Test.YtpdnapbchcdhlacGreatRBytes
set_option maxHeartbeats 8000000
namespace Go.Proofs.YtpdnapbchcdhlacGreat
set_option maxRecDepth 100000
open Go.RowKit
open Plain Reg
variable {T e : TypeId} {base g n off : Nat} {c : Array Value} {l : List UInt8} {v x0 x1 x2 x3 : Value} {w w' : World} {xs : List Value}
def J2 (w : World) (b off : Nat) (l : List UInt8) : Prop := ∀ (i : Nat) (h : i < l.length), w.cell? ⟨b, off + i, none⟩ = some (.int .u8 (l[i].toNat : Int))
theorem J2.at' {b : Nat} (h : J2 w b off l) (i : Nat) (hi : i < l.length) : w.cell? ⟨b, off + i, none⟩ = some (.int .u8 ((Plain.at' l i).toNat : Int)) := by
 rw [h i hi];unfold Plain.at';rw [List.getD_eq_getElem?_getD, List.getElem?_eq_getElem hi]; rfl
theorem J2.grow {b : Nat} (h : J2 w b off l) (hg : Zn w w') : J2 w' b off l := fun i hi => (Below.cell hg (Zv (h i hi))).trans (h i hi)
theorem J2.sub {b : Nat} (h : J2 w b off l) (i n cap : Nat) (hn : i + n ≤ l.length) (hc : n ≤ cap) : Bytes w (.slice (some ⟨b, off + i, none⟩) n cap) ((l.drop i).take n) := by
 have e : ((l.drop i).take n).length = n := by simp; omega
 refine .inr ⟨b, off + i, cap, by rw [e], by omega, fun j hj => ?_⟩;rw [Nat.add_assoc, h (i + j) (by omega)];simp
theorem Zk7 {a b : Bool} (h : a = b) : Ending.returned (.bool a) = .returned (.bool b) := by rw [h]
theorem Zfe (l : List UInt8) (b off cap : Nat) (w : World) (hl : l.length = 16) (hc : J2 w b off l) :
  Calls Tryz.prog 153 #[.slice (some ⟨b, off, none⟩) 16 cap] w fun e w' => e = .returned (.int .i64 (6 + ((at' l 5).toNat : Int))) ∧ w = w' := by
 have h5 := hc.at' 5 (by omega);have hb : (at' l 5).toNat < 256 := UInt8.toNat_lt _;clear hc hl;generalize (at' l 5).toNat = x at *;go_enter Tryz.func153, Tryz.ntmps153;go_wp2;go_ret;exact ⟨rfl, rfl⟩
theorem Zjv (l : List UInt8) (k : Nat) (h : k < l.length) : Y7 (l.take (k + 1)) = (Y7 (l.take k) && (l[k] == 0)) := by
 rw [Zeb l k h]; simp only [Y7, List.all_append, List.all_cons, List.all_nil, Bool.and_true]
theorem Zlo (l : List UInt8) (b off cap : Nat) (w : World) (hm : l.length ≤ 140737488355328) (hc : J2 w b off l) :
  Calls Tryz.prog 175 #[.slice (some ⟨b, off, none⟩) l.length cap] w fun e w' => e = .returned (.bool (Y7 l)) ∧ w = w' := by
 go_enter Tryz.func175, Tryz.ntmps175;go_wp2
 go_loop [7] (fun i => ∃ k : Nat, k ≤ l.length ∧ i = .int .i64 k ∧ Y7 (l.take k) = true) (fun i => l.length - (intOf i).toNat)
 case atStart => exact ⟨0, Nat.zero_le _, rfl, rfl⟩
 case round =>
  obtain ⟨k, hk, rfl, hn⟩ := hrel;by_cases hlt : k < l.length
  ·have hcell := hc k hlt;have hb : l[k].toNat < 256 := UInt8.toNat_lt _;have hs := Zjv l k hlt;rw [hn, Bool.true_and] at hs;have HN : Hid (Y7 (l.take k) = true) := hn;clear hn;by_cases h0 : l[k] = 0
   ·have HS : Hid (Y7 (l.take (k + 1)) = true) := by show Y7 _ = true; rw [hs, h0]; rfl
    have d0 : ((l[k].toNat : Int) != 0) = false := by simp [h0]
    clear hc hs h0;go_wp2
    go_round
    case rel => exact ⟨k + 1, by omega, by go_num, HS.out⟩
    case measure => simp [intOf]; omega
   ·have hne : l[k].toNat ≠ 0 := fun e => h0 (UInt8.toNat_inj.1 e)
    have d0 : ((l[k].toNat : Int) != 0) = true := by simp [hne]
    have HS : Hid (Y7 l = false) := by
     show Y7 l = false;unfold Y7;rw [List.all_eq_false];exact ⟨l[k], List.getElem_mem hlt, by simpa using h0⟩
    clear hc hs h0 hne;go_wp2;go_ret;exact ⟨Zk7 HS.out.symm, rfl⟩
  ·have HS : Hid (Y7 l = true) := by
    show Y7 l = true;rw [← hn, List.take_of_length_le (by omega)]
   clear hn;go_wp2;go_ret;exact ⟨Zk7 HS.out.symm, rfl⟩
theorem Zlp (ao : Option Addr) (cap : Nat) (w : World) :
  Calls Tryz.prog 175 #[.slice ao 0 cap] w fun e w' => e = .returned (.bool (Y7 [])) ∧ w = w' := by
 go_enter Tryz.func175, Tryz.ntmps175;go_wp2
 go_loop [7] (fun i => i = .int .i64 0) (fun i => 0)
 case atStart => rfl
 case round =>
  obtain rfl := hrel;go_wp2;go_ret;exact ⟨rfl, rfl⟩
theorem Zlq (l : List UInt8) (v : Value) (w : World) (hm : l.length ≤ 140737488355328) (h : Bytes w v l) :
  Calls Tryz.prog 175 #[v] w fun e w' => e = .returned (.bool (Y7 l)) ∧ w = w' := by
 rcases h with ⟨ao, cap, rfl, rfl, _⟩ | ⟨b, off, cap, rfl, _, hc⟩
 ·exact Zlp ao cap w
 ·exact Zlo l b off cap w hm hc
theorem Zku (l : List UInt8) (at_ : Int) (ao : Option Addr) (cap : Nat) (w : World) (hl : l.length ≠ 16) :
  Calls Tryz.prog 151 #[.slice ao l.length cap, .int .i64 at_] w fun e w' => e = .returned (.int .i64 (spoilt l at_)) ∧ Zn w w' := by
 have HS : Hid (spoilt l at_ = 2) := by show spoilt _ _ = 2; unfold spoilt; rw [if_pos hl]
 have d : ((l.length : Int) != 16) = true := by simp; omega
 go_enter Tryz.func151, Tryz.ntmps151;go_wp2_with fail;go_ret;exact ⟨Xk HS.out.symm, Zn.refl _⟩
theorem Zm9 (l : List UInt8) (at_ : Int) (b off cap : Nat) (w : World) (hl : l.length = 16) (hcap : 16 ≤ cap) (hc : J2 w b off l) :
  Calls Tryz.prog 151 #[.slice (some ⟨b, off, none⟩) 16 cap, .int .i64 at_] w fun e w' => e = .returned (.int .i64 (spoilt l at_)) ∧ Zn w w' := by
 have hB : Bytes w (.slice (some ⟨b, off, none⟩) 16 cap) l := .inr ⟨b, off, cap, by rw [hl], by omega, hc⟩;have HL : Hid (l.length = 16) := hl;have hw : spoilt l at_ = if Xj l = false then 7 else if ((at' l 1).toNat : Int) ≠ at_ then 8 else if 8 < (at' l 5).toNat then 4 else if Y7 (Vi l) = false then 2 else 0 := by
  unfold spoilt; rw [if_neg (by omega)]
 have HW : Hid _ := hw;clear hw hl;go_enter Tryz.func151, Tryz.ntmps151;go_wp2_with fail;refine (Zj0 l _ _ (by rw [HL.out]; omega) hB).mono ?_;cases hs : Xj l with
 | false =>
  have HF : Hid (spoilt l at_ = 7) := by show spoilt _ _ = 7; rw [HW.out, if_pos hs]
  clear hs hB hc;rintro e w1 ⟨rfl, g1⟩;go_wp2_with fail;go_ret;exact ⟨Xk HF.out.symm, g1⟩
 | true =>
  rintro e w1 ⟨rfl, g1⟩;have hc1 := hc.grow g1;have h1 := hc1.at' 1 (by rw [HL.out]; omega);have h5 := hc1.at' 5 (by rw [HL.out]; omega);have hb1 : (at' l 1).toNat < 256 := UInt8.toNat_lt _;have hb5 : (at' l 5).toNat < 256 := UInt8.toNat_lt _;have HS : Hid (Xj l = true) := hs;clear hs hB;by_cases hp : ((at' l 1).toNat : Int) = at_
  ·have d1 : (((at' l 1).toNat : Int) != at_) = false := by simp [hp]
   by_cases h8 : 8 < (at' l 5).toNat
   ·have HF : Hid (spoilt l at_ = 4) := by show spoilt _ _ = 4; rw [HW.out, if_neg (by rw [HS.out]; simp), if_neg (by simpa using hp), if_pos h8]
    clear hp hc hc1;generalize (at' l 5).toNat = x5 at *;generalize (at' l 1).toNat = x1 at *;go_wp2_with fail;go_ret;exact ⟨Xk HF.out.symm, g1⟩
   ·have hr : Bytes w1 (.slice (some ⟨b, off + (6 + (at' l 5).toNat), none⟩) (8 - (at' l 5).toNat) (cap - (6 + (at' l 5).toNat))) (Vi l) := hc1.sub _ _ _ (by rw [HL.out]; omega) (by omega);have HF : Hid (spoilt l at_ = if Y7 (Vi l) = false then 2 else 0) := by show spoilt _ _ = _; rw [HW.out, if_neg (by rw [HS.out]; simp), if_neg (by simpa using hp), if_neg h8]
    have hrl : (Vi l).length ≤ 8 := by unfold Vi; simp; omega
    clear hp hc;have hde := fun (cp : Nat) => Zfe l b off cp w1 HL.out hc1
    generalize hx5 : (at' l 5).toNat = x5 at *;generalize (at' l 1).toNat = x1 at *;clear hx5 hc1;go_wp2_with fail;refine (hde _).mono ?_;rintro e w' ⟨rfl, rfl⟩;clear hde;go_wp2_with fail;rw [show 14 - (6 + x5) = 8 - x5 from by omega];refine (Zlq _ _ _ (by omega) hr).mono ?_;rintro e w' ⟨rfl, rfl⟩;cases hn : Y7 (Vi l) with
    | false =>
     have HG : Hid (spoilt l at_ = 2) := by show spoilt _ _ = 2; rw [HF.out, if_pos hn]
     clear hn hr;go_wp2_with fail;go_ret;exact ⟨Xk HG.out.symm, g1⟩
    | true =>
     have HG : Hid (spoilt l at_ = 0) := by show spoilt _ _ = 0; rw [HF.out, if_neg (by rw [hn]; simp)]
     clear hn hr;go_wp2_with fail;go_ret;exact ⟨Xk HG.out.symm, g1⟩
  ·have d1 : (((at' l 1).toNat : Int) != at_) = true := by simp [hp]
   have HF : Hid (spoilt l at_ = 8) := by show spoilt _ _ = 8; rw [HW.out, if_neg (by rw [HS.out]; simp), if_pos hp]
   clear hp hc hc1;generalize (at' l 5).toNat = x5 at *;generalize (at' l 1).toNat = x1 at *;go_wp2_with fail;go_ret;exact ⟨Xk HF.out.symm, g1⟩
theorem Zf3 (l : List UInt8) (at_ : Int) (v : Value) (w : World) (h : Bytes w v l) :
  Calls Tryz.prog 151 #[v, .int .i64 at_] w fun e w' => e = .returned (.int .i64 (spoilt l at_)) ∧ Zn w w' := by
 by_cases hl : l.length = 16
 ·rcases h with ⟨ao, cap, rfl, rfl, _⟩ | ⟨b, off, cap, rfl, h1, hc⟩
  ·simp at hl
  ·rw [show (Value.slice (some ⟨b, off, none⟩) l.length cap) = .slice (some ⟨b, off, none⟩) 16 cap from by rw [hl]];exact Zm9 l at_ b off cap w hl (by omega) hc
 ·obtain ⟨ao, cap, rfl, -, -⟩ := Yp h;exact Zku l at_ ao cap w hl
def Zkk (T : TypeId) (m B : Nat) (v : Value) (w : World) : Prop := ∃ g c, v = .pointer (some ⟨g, 0, none⟩) ∧ B ≤ g ∧ w.heap[g]? = some (.cells c T (0, 0)) ∧ c.size = m
def Yz (T : TypeId) (w w' : World) : Prop := w' = w ∨ ∃ g c c', Zp g w w' ∧ w.heap[g]? = some (.cells c T (0, 0)) ∧ w'.heap[g]? = some (.cells c' T (0, 0)) ∧ c'.size = c.size
theorem Za {o : Obj} (h : w.heap[g]? = some o) : g < w.heap.size := by
 rcases Nat.lt_or_ge g w.heap.size with hl | hl
 ·exact hl
 ·rw [Array.getElem?_eq_none hl] at h; cases h
theorem Zto (T : TypeId) (m B : Nat) : Xx (Zkk T m B) := by
 rintro v w w' hg ⟨g, c, h1, h2, h3, h4⟩;exact ⟨g, c, h1, h2, (hg.block g (Za h3)).trans h3, h4⟩
theorem Ztw (T : TypeId) (m B : Nat) (v : Value) (w w' : World) (hs : Yz T w w') (h : Zkk T m B v w) : Zkk T m B v w' := by
 rcases hs with rfl | ⟨g', c1, c2, hb, h5, h6, h7⟩
 ·exact h
 ·obtain ⟨g, c, h1, h2, h3, h4⟩ := h;by_cases e : g = g'
  ·subst e;rw [h5] at h3; cases h3;exact ⟨g, c2, h1, h2, h6, by omega⟩
  ·exact ⟨g, c, h1, h2, (hb.block g (Za h3) e).trans h3, h4⟩
theorem Yd {size : Nat} (h : w.ownsRow base e size v n xs) (hg : Zn w w') : w'.ownsRow base e size v n xs :=
 ⟨h.1, Xo h.2 (fun x => x) fun ⟨g, cap, cur, h1, h2, h3, r⟩ => ⟨g, cap, cur, h1, h2, (hg.block g (Za h3)).trans h3, r⟩⟩
theorem Qt {size : Nat} (hne : e ≠ T) (hs : Yz T w w') (h : w.ownsRow base e size v n xs) : w'.ownsRow base e size v n xs := by
 rcases hs with rfl | ⟨g', c1, c2, hb, h5, h6, h7⟩
 ·exact h
 ·refine ⟨h.1, Xo h.2 (fun x => x) fun ⟨g, cap, cur, h1, h2, h3, r⟩ => ⟨g, cap, cur, h1, h2, (hb.block g (Za h3) ?_).trans h3, r⟩⟩;rintro rfl;rw [h5] at h3; cases h3; exact hne rfl
def Zs1 (B : Nat) (r : Rec) (v : Value) (w : World) : Prop := ∃ d, v = .agg #[.int .i64 r.kind, .int .i64 r.key, .int .i64 r.ver, d] ∧ w.ownsRow B 5 1 d r.data.length (r.data.map bv)
theorem Zys (B : Nat) (r : Rec) : Xx (Zs1 B r) := by
 rintro v w w' hg ⟨d, h1, h2⟩;exact ⟨d, h1, Yd h2 hg⟩
theorem Zyx (B : Nat) (r : Rec) (v : Value) (w w' : World) (hs : Yz 61 w w') (h : Zs1 B r v w) : Zs1 B r v w' := by
 obtain ⟨d, h1, h2⟩ := h;exact ⟨d, h1, Qt (by decide) hs h2⟩
def Zkh (B : Nat) (l : List UInt8) (v : Value) (w : World) : Prop := w.ownsRow B 5 1 v l.length (l.map bv)
theorem Ztg (B : Nat) (l : List UInt8) : Xx (Zkh B l) := fun _ _ _ hg h => Yd h hg
theorem Ztu (B : Nat) (l : List UInt8) (v : Value) (w w' : World) (hs : Yz 61 w w') (h : Zkh B l v w) : Zkh B l v w' := Qt (by decide) hs h
def Zmz (B : Nat) (r : Rec) (p : Value) (w : World) : Prop := ∃ g d, p = .pointer (some ⟨g, 0, none⟩) ∧ B ≤ g ∧ w.heap[g]? = some (.cells #[.int .i64 r.kind, .int .i64 r.key, .int .i64 r.ver, d] 61 (0, 0)) ∧ w.ownsRow B 5 1 d r.data.length (r.data.map bv)
theorem Zpq (B : Nat) (r : Rec) (i : Nat) : V7 (pl1 i (fun _ p w => Zmz B r p w)) := by
 rintro v ds w w' hg ⟨g, d, h1, h2, h3, h4⟩;exact ⟨g, d, h1, h2, (hg.block g (Za h3)).trans h3, Yd h4 hg⟩
theorem Zt9 (l : List UInt8) (at_ : Int) (v : Value) (w : World) (h : Bytes w v l) (hs : spoilt l at_ ≠ 0) :
  Calls Tryz.prog 116 #[v, .int .i64 at_] w fun e w' => ∃ d, e = .returned (.tuple #[.agg #[.int .i64 (Y4 l at_).kind, .int .i64 (Y4 l at_).key, .int .i64 (Y4 l at_).ver, d], .int .i64 (X5 l at_)]) ∧ w'.ownsRow w.heap.size 5 1 d (Y4 l at_).data.length ((Y4 l at_).data.map bv) ∧ Zn w w' := by
 have he : X5 l at_ = spoilt l at_ := by unfold X5; rw [if_neg hs]
 have hr : Y4 l at_ = Rec.none := by unfold Y4; rw [he, if_neg hs]
 rw [he, hr];clear he hr;have d0 : (spoilt l at_ != 0) = true := by simpa using hs
 clear hs;obtain ⟨ao, cap, rfl, -, -⟩ := Yp h;go_enter Tryz.func116, Tryz.ntmps116;go_wp2_with fail;refine (Zf3 l at_ _ _ (by exact Z3 h (Zb _ _))).mono ?_;rintro e w1 ⟨rfl, g1⟩;obtain ⟨hc, hf⟩ := Zqg g1;have cs := Zr;clear h;go_wp2_with fail;refine bodyPost_ret (v := .tuple #[.agg #[.int .i64 0, .int .i64 0, .int .i64 0, .slice none 0 0], .int .i64 (spoilt l at_)]) (by simp [results, Tryz.results116, go_sem, hc, cs]) rfl ⟨_, rfl, World.ownsRow_nil _ _ _ _, ?_⟩;exact Z1 (Z1 (Z1 (Z1 ((Zb _ _).trans g1) (by simp) _) (by simp) _) (by simp) _) (by simp) _
theorem Z0f (h : c.size = 4) : ∃ x0 x1 x2 x3, c = #[x0, x1, x2, x3] := by
 obtain ⟨l⟩ := c
 match l, h with
 | [x0, x1, x2, x3], _ => exact ⟨x0, x1, x2, x3, rfl⟩
theorem Yh {f} (h : w.heap[g]? = some (.cells c T f)) (i : Nat) (x : Value) : (w.setCell ⟨g, i, none⟩ x).heap[g]? = some (.cells (c.setIfInBounds i x) T f) := by
 simp only [World.setCell, Array.getElem?_modify, if_true, h, Option.map_some];rfl
theorem Yg {f} {c0 c1 c2 c3 : Value} (h : w.heap[g]? = some (.cells #[c0, c1, c2, c3] T f)) (x0 x1 x2 x3 : Value) :
  ((((w.setCell ⟨g, 0, none⟩ x0).setCell ⟨g, 1, none⟩ x1).setCell ⟨g, 2, none⟩ x2).setCell ⟨g, 3, none⟩ x3).heap[g]? = some (.cells #[x0, x1, x2, x3] T f) ∧ Zp g w ((((w.setCell ⟨g, 0, none⟩ x0).setCell ⟨g, 1, none⟩ x1).setCell ⟨g, 2, none⟩ x2).setCell ⟨g, 3, none⟩ x3) := by
 refine ⟨?_, ((((Zp.refl g w).set _ _ _).set _ _ _).set _ _ _).set _ _ _⟩;have h1 := Yh (Yh (Yh (Yh h 0 x0) 1 x1) 2 x2) 3 x3;simpa using h1
theorem Zc {f} (h : w.heap[g]? = some (.cells c T f)) (i : Nat) (x : Value) (hx : c[i]? = some x) : w.cell? ⟨g, i, none⟩ = some x := by
 simp [World.cell?, h, hx]
theorem Zk (h : w.heap[g]? = some (.cells c T (0, 0))) (i : Nat) : w.frozen? ⟨g, i, none⟩ = false := by
 simp [World.frozen?, h]
theorem Y9 {f} (h : w.heap[g]? = some (.cells c T f)) (h0 : c[0]? = some x0) (h1 : c[1]? = some x1) : w.cell? ⟨g, 0, none⟩ = some x0 ∧ w.cell? ⟨g, 1, none⟩ = some x1 := ⟨Zc h 0 _ h0, Zc h 1 _ h1⟩
theorem Zx2 {f} (h : w.heap[g]? = some (.cells c T f)) (h0 : c[0]? = some x0) (h1 : c[1]? = some x1) (h2 : c[2]? = some x2) : w.cell? ⟨g, 0, none⟩ = some x0 ∧ w.cell? ⟨g, 1, none⟩ = some x1 ∧ w.cell? ⟨g, 2, none⟩ = some x2 := ⟨Zc h 0 _ h0, Zc h 1 _ h1, Zc h 2 _ h2⟩
theorem Z7 {f} (h : w.heap[g]? = some (.cells c T f)) (h0 : c[0]? = some x0) (h1 : c[1]? = some x1) (h2 : c[2]? = some x2) (h3 : c[3]? = some x3) : w.cell? ⟨g, 0, none⟩ = some x0 ∧ w.cell? ⟨g, 1, none⟩ = some x1 ∧ w.cell? ⟨g, 2, none⟩ = some x2 ∧ w.cell? ⟨g, 3, none⟩ = some x3 := ⟨Zc h 0 _ h0, Zc h 1 _ h1, Zc h 2 _ h2, Zc h 3 _ h3⟩
theorem Qb {f} (h : w.heap[g]? = some (.cells c T f)) {x4 : Value} (h0 : c[0]? = some x0) (h1 : c[1]? = some x1) (h2 : c[2]? = some x2) (h3 : c[3]? = some x3) (h4 : c[4]? = some x4) : w.cell? ⟨g, 0, none⟩ = some x0 ∧ w.cell? ⟨g, 1, none⟩ = some x1 ∧ w.cell? ⟨g, 2, none⟩ = some x2 ∧ w.cell? ⟨g, 3, none⟩ = some x3 ∧ w.cell? ⟨g, 4, none⟩ = some x4 := ⟨Zc h 0 _ h0, Zc h 1 _ h1, Zc h 2 _ h2, Zc h 3 _ h3, Zc h 4 _ h4⟩
theorem Yr (h : w.heap[g]? = some (.cells c T (0, 0))) : w.frozen? ⟨g, 0, none⟩ = false ∧ w.frozen? ⟨g, 1, none⟩ = false ∧ w.frozen? ⟨g, 2, none⟩ = false ∧ w.frozen? ⟨g, 3, none⟩ = false := ⟨Zk h 0, Zk h 1, Zk h 2, Zk h 3⟩
theorem Zh (w : World) (c : Array Value) (T : TypeId) : (w.alloc (.cells c T)).heap[w.heap.size]? = some (.cells c T (0, 0)) := by
 show (w.heap.push _)[w.heap.size]? = _;simp
theorem J4 {at_ : Int} (h : spoilt l at_ = 0) : l.length = 16 ∧ Xj l = true ∧ ((at' l 1).toNat : Int) = at_ ∧ (at' l 5).toNat ≤ 8 ∧ Y7 (Vi l) = true := by
 unfold spoilt at h;by_cases h1 : l.length ≠ 16
 ·rw [if_pos h1] at h; omega
 ·rw [if_neg h1] at h;by_cases h2 : Xj l = false
  ·rw [if_pos h2] at h; omega
  ·rw [if_neg h2] at h;by_cases h3 : ((at' l 1).toNat : Int) ≠ at_
   ·rw [if_pos h3] at h; omega
   ·rw [if_neg h3] at h;by_cases h4 : 8 < (at' l 5).toNat
    ·rw [if_pos h4] at h; omega
    ·rw [if_neg h4] at h;by_cases h5 : Y7 (Vi l) = false
     ·rw [if_pos h5] at h; omega
     ·exact ⟨by omega, by simpa using h2, by simpa using h3, by omega, by simpa using h5⟩
theorem Zxb (l : List UInt8) (at_ : Int) (b off cap : Nat) (w : World) (hcap : 16 ≤ cap) (hC : J2 w b off l) (hs : spoilt l at_ = 0) :
  Calls Tryz.prog 116 #[.slice (some ⟨b, off, none⟩) 16 cap, .int .i64 at_] w fun e w' => ∃ d, e = .returned (.tuple #[.agg #[.int .i64 (Y4 l at_).kind, .int .i64 (Y4 l at_).key, .int .i64 (Y4 l at_).ver, d], .int .i64 (X5 l at_)]) ∧ w'.ownsRow w.heap.size 5 1 d (Y4 l at_).data.length ((Y4 l at_).data.map bv) ∧ Zn w w' := by
 obtain ⟨hl, -, -, h8, -⟩ := J4 hs;have he : X5 l at_ = Yc (Y0 l) := by unfold X5; rw [if_pos hs]
 have hB : Bytes w (.slice (some ⟨b, off, none⟩) 16 cap) l := .inr ⟨b, off, cap, by rw [hl], by omega, hC⟩;have HL : Hid (l.length = 16) := hl;have HS : Hid (spoilt l at_ = 0) := hs;have HE : Hid (X5 l at_ = Yc (Y0 l)) := he;have HR : Hid (Y4 l at_ = if Yc (Y0 l) = 0 then Y0 l else Rec.none) := by show Y4 _ _ = _; unfold Y4; rw [he]
 clear he hl hs;rw [HE.out];go_enter Tryz.func116, Tryz.ntmps116;go_wp2_with fail;refine (Zf3 l at_ _ _ (by exact Z3 hB (Zb _ _))).mono ?_;rw [HS.out];rintro e w1 ⟨rfl, g1⟩;have gw : Zn w w1 := (Zb _ _).trans g1;have hbox : w1.heap[w.heap.size]? = some (.cells #[.int .i64 0, .int .i64 0, .int .i64 0, .slice none 0 0] 61 (0, 0)) := (g1.block _ (by simp)).trans (Zh _ _ _);have hc1 := hC.grow gw;have hd : ((l.drop 6).take (at' l 5).toNat).length = (at' l 5).toNat := by simp; have := HL.out; omega
 have k0 := hc1.at' 0 (by rw [HL.out]; omega);rw [Nat.add_zero] at k0;have k2 := hc1.at' 2 (by rw [HL.out]; omega);have k3 := hc1.at' 3 (by rw [HL.out]; omega);have k4 := hc1.at' 4 (by rw [HL.out]; omega);have b0 : (at' l 0).toNat < 256 := UInt8.toNat_lt _;have b2 : (at' l 2).toNat < 256 := UInt8.toNat_lt _;clear hB hC;go_wp2_with fail
 refine Qo [px (.slice (some ⟨b, off, none⟩) 16 cap), px (.pointer (some ⟨b, off, none⟩)), px (.int .u8 ((at' l 0).toNat : Int)), px (.int .i64 ((at' l 0).toNat : Int)), px (.slice (some ⟨b, off, none⟩) 16 cap), px (.pointer (some ⟨b, off + 2, none⟩)), px (.int .u8 ((at' l 2).toNat : Int)), px (.int .i64 ((at' l 2).toNat : Int)), px (.slice (some ⟨b, off, none⟩) 16 cap), px (.pointer (some ⟨b, off + 3, none⟩)), px (.int .u8 ((at' l 3).toNat : Int)), px (.slice (some ⟨b, off, none⟩) 16 cap), px (.pointer (some ⟨b, off + 4, none⟩)), px (.int .u8 ((at' l 4).toNat : Int)), px (.int .i64 (((at' l 3).toNat : Int) * 256 + ((at' l 4).toNat : Int))), px (.slice (some ⟨b, off, none⟩) 16 cap), px (.slice (some ⟨b, off, none⟩) 16 cap), px (.int .i64 (6 + ((at' l 5).toNat : Int))), px (.slice (some ⟨b, off + 6, none⟩) (at' l 5).toNat (cap - 6)), pl (Zkh w1.heap.size ((l.drop 6).take (at' l 5).toNat)), pl (Zs1 w1.heap.size (Y0 l)), pl (Zkk 61 4 w1.heap.size), pl1 21 ((fun _ p w => Zmz w1.heap.size (Y0 l) p w))] [none, none, none, none, none, none, none, none, none, none, none, none, none, none, none, none, none, none, none, none, none, none, some ((Yz 61))] (fun w' => Zn w1 w') (by kernel_rfl) (by kernel_rfl) ⟨se, se, se, se, se, se, se, se, se, se, se, se, se, se, se, se, se, se, se, Yk (Ztg _ _), Yk (Zys _ _), Yk (Zto _ _ _), Zpq _ _ _, trivial⟩ ⟨⟨(fun w => .inl rfl), ⟨x5, x5, x5, x5, x5, x5, x5, x5, x5, x5, x5, x5, x5, x5, x5, x5, x5, x5, x5, .inr ((fun v _ w w' hs hq => Ztu _ _ v w w' hs hq)), .inr ((fun v _ w w' hs hq => Zyx _ _ v w w' hs hq)), .inr ((fun v _ w w' hs hq => Ztw _ _ _ v w w' hs hq)), .inl (by kernel_rfl), trivial⟩⟩, trivial⟩ ⟨n5, n5, n5, n5, n5, n5, n5, n5, n5, n5, n5, n5, n5, n5, n5, n5, n5, n5, n5, n5, n5, n5, fun _ _ _ _ h => h, trivial⟩ ?_ ?_ ?_
 ·exact (Zn.refl _).drew
 ·refine ⟨?_, ?_, ?_, ?_, ?_, ?_, ?_, ?_, ?_, ?_, ?_, ?_, ?_, ?_, ?_, ?_, ?_, ?_, ?_, ?_, ?_, ?_, ?_, trivial⟩
  ·exact Zl rfl fun a _ _ _ B A => Z4 rfl B (Zm A 0 rfl)
  ·refine Zl rfl fun a _ _ _ B A => ?_;have e16 : a (.tmp 16) = _ := Zf A 0 rfl;refine Zi ?_ B rfl;clear A B;go_simp;all_goals go_arith
  ·refine Zl rfl fun a _ _ _ B A => ?_;have e17 : a (.tmp 17) = _ := Zf A 1 rfl;have h1 := (Below.cell B (Zv k0)).trans k0;refine Zi ?_ B rfl;clear A B;go_simp;all_goals go_arith
  ·refine Zl rfl fun a _ _ _ B A => ?_;have e18 : a (.tmp 18) = _ := Zf A 2 rfl;refine Zi ?_ B rfl;clear A B;go_simp;all_goals go_arith
  ·exact Zl rfl fun a _ _ _ B A => Z4 rfl B (Zm A 0 rfl)
  ·refine Zl rfl fun a _ _ _ B A => ?_;have e20 : a (.tmp 20) = _ := Zf A 4 rfl;refine Zi ?_ B rfl;clear A B;go_simp;all_goals go_arith
  ·refine Zl rfl fun a _ _ _ B A => ?_;have e21 : a (.tmp 21) = _ := Zf A 5 rfl;have h1 := (Below.cell B (Zv k2)).trans k2;refine Zi ?_ B rfl;clear A B;go_simp;all_goals go_arith
  ·refine Zl rfl fun a _ _ _ B A => ?_;have e22 : a (.tmp 22) = _ := Zf A 6 rfl;refine Zi ?_ B rfl;clear A B;go_simp;all_goals go_arith
  ·exact Zl rfl fun a _ _ _ B A => Z4 rfl B (Zm A 0 rfl)
  ·refine Zl rfl fun a _ _ _ B A => ?_;have e24 : a (.tmp 24) = _ := Zf A 8 rfl;refine Zi ?_ B rfl;clear A B;go_simp;all_goals go_arith
  ·refine Zl rfl fun a _ _ _ B A => ?_;have e25 : a (.tmp 25) = _ := Zf A 9 rfl;have h1 := (Below.cell B (Zv k3)).trans k3;refine Zi ?_ B rfl;clear A B;go_simp;all_goals go_arith
  ·exact Zl rfl fun a _ _ _ B A => Z4 rfl B (Zm A 0 rfl)
  ·refine Zl rfl fun a _ _ _ B A => ?_;have e27 : a (.tmp 27) = _ := Zf A 11 rfl;refine Zi ?_ B rfl;clear A B;go_simp;all_goals go_arith
  ·refine Zl rfl fun a _ _ _ B A => ?_;have e28 : a (.tmp 28) = _ := Zf A 12 rfl;have h1 := (Below.cell B (Zv k4)).trans k4;refine Zi ?_ B rfl;clear A B;go_simp;all_goals go_arith
  ·refine Zl rfl fun a B _ _ C A => ?_;have e26 : a (.tmp 26) = _ := Zf A 10 rfl;have e29 : a (.tmp 29) = _ := Zf A 13 rfl;refine Yf (f := 152) (args := #[.int .u8 ((at' l 3).toNat : Int), .int .u8 ((at' l 4).toNat : Int)]) ?_ ((Zgm _ _ B).mono ?_)
   ·clear A C;go_simp;all_goals go_arith
   ·rintro e w2 ⟨rfl, rfl⟩;exact ⟨_, rfl, Zn.refl _, C, rfl⟩
  ·exact Zl rfl fun a _ _ _ B A => Z4 rfl B (Zm A 0 rfl)
  ·exact Zl rfl fun a _ _ _ B A => Z4 rfl B (Zm A 0 rfl)
  ·refine Zl rfl fun a B _ _ C A => ?_;have e32 : a (.tmp 32) = _ := Zf A 16 rfl;refine Yf (f := 153) (args := #[.slice (some ⟨b, off, none⟩) 16 cap]) ?_ ((Zfe l b off cap B HL.out (hc1.grow C)).mono ?_)
   ·clear A C;go_simp;all_goals go_arith
   ·rintro e w2 ⟨rfl, rfl⟩;exact ⟨_, rfl, Zn.refl _, C, rfl⟩
  ·refine Zl rfl fun a _ _ _ B A => ?_;have e31 : a (.tmp 31) = _ := Zf A 15 rfl;have e33 : a (.tmp 33) = _ := Zf A 17 rfl;refine Zi ?_ B rfl;clear A B hd hc1 k0 k2 k3 k4 b0 b2 HL HS HE HR gw hbox;generalize (at' l 5).toNat = x at *;go_simp;rw [if_pos (by omega), if_pos (by omega), if_neg (by omega), show (6 + (x : Int)).toNat - 6 = x from by omega]
  ·refine Zl rfl fun a B _ _ C A => ?_;have e34 : a (.tmp 34) = _ := Zf A 18 rfl;have hsrc := (hc1.grow C).sub 6 (at' l 5).toNat (cap - 6) (by rw [HL.out]; omega) (by omega);refine Yf (f := 108) (args := #[.slice (some ⟨b, off + 6, none⟩) (at' l 5).toNat (cap - 6)]) ?_ ((Kh _ _ B (by rw [hd]; omega) hsrc).mono ?_)
   ·clear A C hsrc;go_simp;all_goals go_arith
   ·rintro e w2 ⟨v', rfl, ho, g2⟩;exact ⟨_, rfl, g2, C.trans g2, Yj ho C.size⟩
  ·refine Zl rfl fun a B _ _ C A => ?_;have e19 : a (.tmp 19) = _ := Zf A 3 rfl;have e23 : a (.tmp 23) = _ := Zf A 7 rfl;have e30 : a (.tmp 30) = _ := Zf A 14 rfl;have e35 : (Zkh w1.heap.size ((l.drop 6).take (at' l 5).toNat)) (a (.tmp 35)) B := Zf A 19 rfl;obtain ⟨ao', cp', hv35⟩ := Ya e35;refine Zi (v := .agg #[.int .i64 ((at' l 0).toNat : Int), .int .i64 ((at' l 2).toNat : Int), .int .i64 (((at' l 3).toNat : Int) * 256 + ((at' l 4).toNat : Int)), a (.tmp 35)]) ?_ C ⟨_, rfl, e35⟩;clear A C e35;go_simp;all_goals go_arith
  ·refine Zl rfl fun a w' _ _ B A => ?_;refine Qr (v := .pointer (some ⟨w'.heap.size, 0, none⟩)) (w' := w'.alloc (.cells #[.int .i64 0, .int .i64 0, .int .i64 0, .slice none 0 0] 61)) ?_ (Zb _ _) (B.trans (Zb _ _)) ⟨_, _, rfl, B.size, Zh _ _ _, rfl⟩;clear A B;go_simp;all_goals go_arith
  ·refine Zl rfl fun a w' _ _ B A => ?_;have e7 : (Zkk 61 4 w1.heap.size) (a (.tmp 7)) w' := Zf A 21 rfl;have e36 : (Zs1 w1.heap.size (Y0 l)) (a (.tmp 36)) w' := Zf A 20 rfl;obtain ⟨g, c, h7, hgB, hh, hsz⟩ := e7;obtain ⟨d, h36, hown⟩ := e36;obtain ⟨ao', cp', rfl⟩ := Ya hown;obtain ⟨x0, x1, x2, x3, rfl⟩ := Z0f hsz;obtain ⟨hp1, hp2⟩ := Yg hh (.int .i64 (Y0 l).kind) (.int .i64 (Y0 l).key) (.int .i64 (Y0 l).ver) (.slice ao' (Y0 l).data.length cp');have hstep : Yz 61 w' _ := .inr ⟨g, _, _, hp2, hh, hp1, rfl⟩;refine Yi (w' := _) ?_ hstep (Z1 (Z1 (Z1 (Z1 B (by exact hgB) _) (by exact hgB) _) (by exact hgB) _) (by exact hgB) _) ⟨g, _, h7, hgB, hp1, Qt (by decide) hstep hown⟩;have y0 := Zc hh 0 x0 rfl;have y1 := Zc hh 1 x1 rfl;have y2 := Zc hh 2 x2 rfl;have y3 := Zc hh 3 x3 rfl;obtain ⟨f0, f1, f2, f3⟩ := Yr hh;have cs := Zr;clear A B hp1 hp2 hstep hown hh;generalize Y0 l = rr at *;go_simp;all_goals go_arith
 ·intro vs w' hg ht;obtain ⟨q16, q17, q18, q19, q20, q21, q22, q23, q24, q25, q26, q27, q28, q29, q30, q31, q32, q33, q34, q35, q36, q7, qo22, -⟩ := ht;have r16 : vs 0 = _ := q16;have r17 : vs 1 = _ := q17;have r18 : vs 2 = _ := q18;have r19 : vs 3 = _ := q19;have r20 : vs 4 = _ := q20;have r21 : vs 5 = _ := q21;have r22 : vs 6 = _ := q22;have r23 : vs 7 = _ := q23;have r24 : vs 8 = _ := q24;have r25 : vs 9 = _ := q25;have r26 : vs 10 = _ := q26;have r27 : vs 11 = _ := q27;have r28 : vs 12 = _ := q28;have r29 : vs 13 = _ := q29;have r30 : vs 14 = _ := q30;have r31 : vs 15 = _ := q31;have r32 : vs 16 = _ := q32;have r33 : vs 17 = _ := q33;have r34 : vs 18 = _ := q34;replace q35 : (Zkh w1.heap.size ((l.drop 6).take (at' l 5).toNat)) (vs 19) w' := q35;replace q36 : (Zs1 w1.heap.size (Y0 l)) (vs 20) w' := q36;replace q7 : (Zkk 61 4 w1.heap.size) (vs 21) w' := q7;replace qo22 : ((fun _ p w => Zmz w1.heap.size (Y0 l) p w)) (vs 22) (vs 21) w' := qo22;clear q16 q17 q18 q19 q20 q21 q22 q23 q24 q25 q26 q27 q28 q29 q30 q31 q32 q33 q34;simp only [Ye, Act.put, List.setIfInBounds_toArray, List.set_cons_zero, List.set_cons_succ, Nat.reduceAdd, r16, r17, r18, r19, r20, r21, r22, r23, r24, r25, r26, r27, r28, r29, r30, r31, r32, r33, r34];clear r16 r17 r18 r19 r20 r21 r22 r23 r24 r25 r26 r27 r28 r29 r30 r31 r32 r33 r34;obtain ⟨g, d, h7, hgB, hh, hown⟩ := qo22;rw [h7];obtain ⟨ao', cp', rfl⟩ := Ya hown;have hz : w.heap.size < g := by have := g1.size; simp at this; omega
  have hbox' := (hg.block _ (Za hbox)).trans hbox;have gw' := gw.trans hg;have hbs : w.heap.size < w1.heap.size := by have := g1.size; simp at this; omega
  clear q35 q36 q7 hg hbox gw g1 k0 k2 k3 k4 b0 b2 hc1 hd h7;generalize vs 19 = u19;generalize vs 20 = u20;obtain ⟨y0, y1, y2, y3⟩ := Z7 hh rfl rfl rfl rfl;go_wp2_with fail;refine (Zcf _ _ _ (Y0 l).data _ _ (Qq hown)).mono ?_;rintro e w2 ⟨rfl, g2⟩;have hh2 := (g2.block _ (Za hh)).trans hh;have hb2 := (g2.block _ (Za hbox')).trans hbox';have hown2 := Yd hown g2;have gw2 := gw'.trans g2;clear y0 y1 y2 y3 hown gw' hbox' hh;obtain ⟨y0, y1, y2, y3⟩ := Z7 hh2 rfl rfl rfl rfl;obtain ⟨z0, z1, z2, z3⟩ := Z7 hb2 rfl rfl rfl rfl;obtain ⟨f0, f1, f2, f3⟩ := Yr hb2;have cs := Zr;by_cases hw0 : Yc (Y0 l) = 0
  ·have HQ : Hid (Y4 l at_ = Y0 l) := by show Y4 _ _ = _; rw [HR.out, if_pos hw0]
   have HW : Hid (Yc (Y0 l) = 0) := hw0;have d0 : (Yc (Y0 l) != 0) = false := by rw [hw0]; rfl
   clear hw0 HR HE HS;go_wp2_with fail;refine bodyPost_ret (v := .tuple #[.agg #[.int .i64 (Y0 l).kind, .int .i64 (Y0 l).key, .int .i64 (Y0 l).ver, .slice ao' (Y0 l).data.length cp'], .int .i64 0]) (by simp [results, Tryz.results116, go_sem, z0, z1, z2, z3, cs]) rfl ⟨.slice ao' (Y0 l).data.length cp', ?_, ?_, ?_⟩
   ·rw [HQ.out, HW.out]
   ·rw [HQ.out];exact Yj (Xl (Xl (Xl (Xl hown2 (by exact hbs) _) (by exact hbs) _) (by exact hbs) _) (by exact hbs) _) (Nat.le_of_lt hbs)
   ·exact Z1 (Z1 (Z1 (Z1 gw2 (by simp) _) (by simp) _) (by simp) _) (by simp) _
  ·have HQ : Hid (Y4 l at_ = Rec.none) := by show Y4 _ _ = _; rw [HR.out, if_neg hw0]
   have d0 : (Yc (Y0 l) != 0) = true := by simpa using hw0
   clear hw0 HR HE HS y0 y1 y2 y3;go_wp2_with fail;refine bodyPost_ret (v := .tuple #[.agg #[.int .i64 0, .int .i64 0, .int .i64 0, .slice none 0 0], .int .i64 (Yc (Y0 l))]) (by simp [results, Tryz.results116, go_sem, z0, z1, z2, z3, cs]) rfl ⟨.slice none 0 0, ?_, ?_, ?_⟩
   ·rw [HQ.out]; rfl
   ·rw [HQ.out];exact World.ownsRow_nil _ _ _ _
   ·exact Z1 (Z1 (Z1 (Z1 gw2 (by simp) _) (by simp) _) (by simp) _) (by simp) _
theorem Zua (l : List UInt8) (at_ : Int) (v : Value) (w : World) (h : Bytes w v l) :
  Calls Tryz.prog 116 #[v, .int .i64 at_] w fun e w' => ∃ d, e = .returned (.tuple #[.agg #[.int .i64 (Y4 l at_).kind, .int .i64 (Y4 l at_).key, .int .i64 (Y4 l at_).ver, d], .int .i64 (X5 l at_)]) ∧ w'.ownsRow w.heap.size 5 1 d (Y4 l at_).data.length ((Y4 l at_).data.map bv) ∧ Zn w w' := by
 by_cases hs : spoilt l at_ = 0
 ·have hl := (J4 hs).1;rcases h with ⟨ao, cap, rfl, rfl, _⟩ | ⟨b, off, cap, rfl, h1, hc⟩
  ·simp at hl
  ·rw [show (Value.slice (some ⟨b, off, none⟩) l.length cap) = .slice (some ⟨b, off, none⟩) 16 cap from by rw [hl]];exact Zxb l at_ b off cap w (by omega) hc hs
 ·exact Zt9 l at_ v w h hs
end Go.Proofs.YtpdnapbchcdhlacGreat
