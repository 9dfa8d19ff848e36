import Derived.Test.YtgaecpdokgklpadGreatDoorBBytes
set_option maxHeartbeats 8000000
namespace Go.Proofs.YtgaecpdokgklpadGreatDoor
set_option maxRecDepth 100000
open Go.RowKit
open Plain Reg
def Zba (w : World) (b off : Nat) (l : List UInt8) : Prop := ∀ (i : Nat) (h : i < l.length), w.cell? ⟨b, off + i, none⟩ = some (.int .u8 (l[i].toNat : Int))
theorem Zba.at' {w : World} {b off : Nat} {l : List UInt8} (h : Zba w b off l) (i : Nat) (hi : i < l.length) : w.cell? ⟨b, off + i, none⟩ = some (.int .u8 ((Plain.at' l i).toNat : Int)) := by
 rw [h i hi];unfold Plain.at';rw [List.getD_eq_getElem?_getD, List.getElem?_eq_getElem hi]; rfl
theorem Zba.grow {w w' : World} {b off : Nat} {l : List UInt8} (h : Zba w b off l) (hg : Zj w w') : Zba w' b off l := fun i hi => (Below.cell hg (Zs (h i hi))).trans (h i hi)
theorem Zba.sub {w : World} {b off : Nat} {l : List UInt8} (h : Zba w b off l) (i n cap : Nat) (hn : i + n ≤ l.length) (hc : n ≤ cap) : Bytes w (.slice (some ⟨b, off + i, none⟩) n cap) ((l.drop i).take n) := by
 have e : ((l.drop i).take n).length = n := by simp; omega
 refine .inr ⟨b, off + i, cap, by rw [e], by omega, fun j hj => ?_⟩;rw [Nat.add_assoc, h (i + j) (by omega)];simp
theorem Zj0 {a b : Bool} (h : a = b) : Ending.returned (.bool a) = .returned (.bool b) := by rw [h]
theorem Zej (l : List UInt8) (b off cap : Nat) (w : World) (hl : l.length = 16) (hc : Zba w b off l) :
  Calls Tryz.prog 164 #[.slice (some ⟨b, off, none⟩) 16 cap] w fun e w' => e = .returned (.int .i64 (6 + ((at' l 5).toNat : Int))) ∧ w = w' := by
 have h5 := hc.at' 5 (by omega);have hb : (at' l 5).toNat < 256 := UInt8.toNat_lt _;clear hc hl;generalize (at' l 5).toNat = x at *;go_enter Tryz.func164, Tryz.ntmps164;go_wp2;go_ret;exact ⟨rfl, rfl⟩
theorem Zij (l : List UInt8) (k : Nat) (h : k < l.length) : Y1 (l.take (k + 1)) = (Y1 (l.take k) && (l[k] == 0)) := by
 rw [Ju l k h]; simp only [Y1, List.all_append, List.all_cons, List.all_nil, Bool.and_true]
theorem Zka (l : List UInt8) (b off cap : Nat) (w : World) (hm : l.length ≤ 140737488355328) (hc : Zba w b off l) :
  Calls Tryz.prog 178 #[.slice (some ⟨b, off, none⟩) l.length cap] w fun e w' => e = .returned (.bool (Y1 l)) ∧ w = w' := by
 go_enter Tryz.func178, Tryz.ntmps178;go_wp2
 go_loop [7] (fun i => ∃ k : Nat, k ≤ l.length ∧ i = .int .i64 k ∧ Y1 (l.take k) = true) (fun i => l.length - (intOf i).toNat)
 case atStart => exact ⟨0, Nat.zero_le _, rfl, rfl⟩
 case round =>
  obtain ⟨k, hk, rfl, hn⟩ := hrel;by_cases hlt : k < l.length
  ·have hcell := hc k hlt;have hb : l[k].toNat < 256 := UInt8.toNat_lt _;have hs := Zij l k hlt;rw [hn, Bool.true_and] at hs;have HN : Hid (Y1 (l.take k) = true) := hn;clear hn;by_cases h0 : l[k] = 0
   ·have HS : Hid (Y1 (l.take (k + 1)) = true) := by show Y1 _ = true; rw [hs, h0]; rfl
    have d0 : ((l[k].toNat : Int) != 0) = false := by simp [h0]
    clear hc hs h0;go_wp2
    go_round
    case rel => exact ⟨k + 1, by omega, by go_num, HS.out⟩
    case measure => simp [intOf]; omega
   ·have hne : l[k].toNat ≠ 0 := fun e => h0 (UInt8.toNat_inj.1 e)
    have d0 : ((l[k].toNat : Int) != 0) = true := by simp [hne]
    have HS : Hid (Y1 l = false) := by
     show Y1 l = false;unfold Y1;rw [List.all_eq_false];exact ⟨l[k], List.getElem_mem hlt, by simpa using h0⟩
    clear hc hs h0 hne;go_wp2;go_ret;exact ⟨Zj0 HS.out.symm, rfl⟩
  ·have HS : Hid (Y1 l = true) := by
    show Y1 l = true;rw [← hn, List.take_of_length_le (by omega)]
   clear hn;go_wp2;go_ret;exact ⟨Zj0 HS.out.symm, rfl⟩
theorem Zkb (ao : Option Addr) (cap : Nat) (w : World) :
  Calls Tryz.prog 178 #[.slice ao 0 cap] w fun e w' => e = .returned (.bool (Y1 [])) ∧ w = w' := by
 go_enter Tryz.func178, Tryz.ntmps178;go_wp2
 go_loop [7] (fun i => i = .int .i64 0) (fun i => 0)
 case atStart => rfl
 case round =>
  obtain rfl := hrel;go_wp2;go_ret;exact ⟨rfl, rfl⟩
theorem Zkc (l : List UInt8) (v : Value) (w : World) (hm : l.length ≤ 140737488355328) (h : Bytes w v l) :
  Calls Tryz.prog 178 #[v] w fun e w' => e = .returned (.bool (Y1 l)) ∧ w = w' := by
 rcases h with ⟨ao, cap, rfl, rfl, _⟩ | ⟨b, off, cap, rfl, _, hc⟩
 ·exact Zkb ao cap w
 ·exact Zka l b off cap w hm hc
theorem Zjq (l : List UInt8) (at_ : Int) (ao : Option Addr) (cap : Nat) (w : World) (hl : l.length ≠ 16) :
  Calls Tryz.prog 162 #[.slice ao l.length cap, .int .i64 at_] w fun e w' => e = .returned (.int .i64 (spoilt l at_)) ∧ Zj w w' := by
 have HS : Hid (spoilt l at_ = 2) := by show spoilt _ _ = 2; unfold spoilt; rw [if_pos hl]
 have d : ((l.length : Int) != 16) = true := by simp; omega
 go_enter Tryz.func162, Tryz.ntmps162;go_wp2_with fail;go_ret;exact ⟨Xf HS.out.symm, Zj.refl _⟩
theorem Zmc (l : List UInt8) (at_ : Int) (b off cap : Nat) (w : World) (hl : l.length = 16) (hcap : 16 ≤ cap) (hc : Zba w b off l) :
  Calls Tryz.prog 162 #[.slice (some ⟨b, off, none⟩) 16 cap, .int .i64 at_] w fun e w' => e = .returned (.int .i64 (spoilt l at_)) ∧ Zj w w' := by
 have hB : Bytes w (.slice (some ⟨b, off, none⟩) 16 cap) l := .inr ⟨b, off, cap, by rw [hl], by omega, hc⟩;have HL : Hid (l.length = 16) := hl;have hw : spoilt l at_ = if Xw l = false then 7 else if ((at' l 1).toNat : Int) ≠ at_ then 8 else if 8 < (at' l 5).toNat then 4 else if Y1 (Vh l) = false then 2 else 0 := by
  unfold spoilt; rw [if_neg (by omega)]
 have HW : Hid _ := hw;clear hw hl;go_enter Tryz.func162, Tryz.ntmps162;go_wp2_with fail;refine (Zip l _ _ (by rw [HL.out]; omega) hB).mono ?_;cases hs : Xw l with
 | false =>
  have HF : Hid (spoilt l at_ = 7) := by show spoilt _ _ = 7; rw [HW.out, if_pos hs]
  clear hs hB hc;rintro e w1 ⟨rfl, g1⟩;go_wp2_with fail;go_ret;exact ⟨Xf HF.out.symm, g1⟩
 | true =>
  rintro e w1 ⟨rfl, g1⟩;have hc1 := hc.grow g1;have h1 := hc1.at' 1 (by rw [HL.out]; omega);have h5 := hc1.at' 5 (by rw [HL.out]; omega);have hb1 : (at' l 1).toNat < 256 := UInt8.toNat_lt _;have hb5 : (at' l 5).toNat < 256 := UInt8.toNat_lt _;have HS : Hid (Xw l = true) := hs;clear hs hB;by_cases hp : ((at' l 1).toNat : Int) = at_
  ·have d1 : (((at' l 1).toNat : Int) != at_) = false := by simp [hp]
   by_cases h8 : 8 < (at' l 5).toNat
   ·have HF : Hid (spoilt l at_ = 4) := by show spoilt _ _ = 4; rw [HW.out, if_neg (by rw [HS.out]; simp), if_neg (by simpa using hp), if_pos h8]
    clear hp hc hc1;generalize (at' l 5).toNat = x5 at *;generalize (at' l 1).toNat = x1 at *;go_wp2_with fail;go_ret;exact ⟨Xf HF.out.symm, g1⟩
   ·have hr : Bytes w1 (.slice (some ⟨b, off + (6 + (at' l 5).toNat), none⟩) (8 - (at' l 5).toNat) (cap - (6 + (at' l 5).toNat))) (Vh l) := hc1.sub _ _ _ (by rw [HL.out]; omega) (by omega);have HF : Hid (spoilt l at_ = if Y1 (Vh l) = false then 2 else 0) := by show spoilt _ _ = _; rw [HW.out, if_neg (by rw [HS.out]; simp), if_neg (by simpa using hp), if_neg h8]
    have hrl : (Vh l).length ≤ 8 := by unfold Vh; simp; omega
    clear hp hc;have hde := fun (cp : Nat) => Zej l b off cp w1 HL.out hc1
    generalize hx5 : (at' l 5).toNat = x5 at *;generalize (at' l 1).toNat = x1 at *;clear hx5 hc1;go_wp2_with fail;refine (hde _).mono ?_;rintro e w' ⟨rfl, rfl⟩;clear hde;go_wp2_with fail;rw [show 14 - (6 + x5) = 8 - x5 from by omega];refine (Zkc _ _ _ (by omega) hr).mono ?_;rintro e w' ⟨rfl, rfl⟩;cases hn : Y1 (Vh l) with
    | false =>
     have HG : Hid (spoilt l at_ = 2) := by show spoilt _ _ = 2; rw [HF.out, if_pos hn]
     clear hn hr;go_wp2_with fail;go_ret;exact ⟨Xf HG.out.symm, g1⟩
    | true =>
     have HG : Hid (spoilt l at_ = 0) := by show spoilt _ _ = 0; rw [HF.out, if_neg (by rw [hn]; simp)]
     clear hn hr;go_wp2_with fail;go_ret;exact ⟨Xf HG.out.symm, g1⟩
  ·have d1 : (((at' l 1).toNat : Int) != at_) = true := by simp [hp]
   have HF : Hid (spoilt l at_ = 8) := by show spoilt _ _ = 8; rw [HW.out, if_neg (by rw [HS.out]; simp), if_pos hp]
   clear hp hc hc1;generalize (at' l 5).toNat = x5 at *;generalize (at' l 1).toNat = x1 at *;go_wp2_with fail;go_ret;exact ⟨Xf HF.out.symm, g1⟩
theorem Ze3 (l : List UInt8) (at_ : Int) (v : Value) (w : World) (h : Bytes w v l) :
  Calls Tryz.prog 162 #[v, .int .i64 at_] w fun e w' => e = .returned (.int .i64 (spoilt l at_)) ∧ Zj w w' := by
 by_cases hl : l.length = 16
 ·rcases h with ⟨ao, cap, rfl, rfl, _⟩ | ⟨b, off, cap, rfl, h1, hc⟩
  ·simp at hl
  ·rw [show (Value.slice (some ⟨b, off, none⟩) l.length cap) = .slice (some ⟨b, off, none⟩) 16 cap from by rw [hl]];exact Zmc l at_ b off cap w hl (by omega) hc
 ·obtain ⟨ao, cap, rfl, -, -⟩ := Yt h;exact Zjq l at_ ao cap w hl
def Zrk (T : TypeId) (m B : Nat) (v : Value) (w : World) : Prop := ∃ g c, v = .pointer (some ⟨g, 0, none⟩) ∧ B ≤ g ∧ w.heap[g]? = some (.cells c T (0, 0)) ∧ c.size = m
def Yu (T : TypeId) (w w' : World) : Prop := w' = w ∨ ∃ g c c', Zp g w w' ∧ w.heap[g]? = some (.cells c T (0, 0)) ∧ w'.heap[g]? = some (.cells c' T (0, 0)) ∧ c'.size = c.size
theorem Zb {w : World} {g : Nat} {o : Obj} (h : w.heap[g]? = some o) : g < w.heap.size := by
 rcases Nat.lt_or_ge g w.heap.size with hl | hl
 ·exact hl
 ·rw [Array.getElem?_eq_none hl] at h; cases h
theorem Zwt (T : TypeId) (m B : Nat) : Xy (Zrk T m B) := by
 rintro v w w' hg ⟨g, c, h1, h2, h3, h4⟩;exact ⟨g, c, h1, h2, (hg.block g (Zb h3)).trans h3, h4⟩
theorem Zwz (T : TypeId) (m B : Nat) (v : Value) (w w' : World) (hs : Yu T w w') (h : Zrk T m B v w) : Zrk T m B v w' := by
 rcases hs with rfl | ⟨g', c1, c2, hb, h5, h6, h7⟩
 ·exact h
 ·obtain ⟨g, c, h1, h2, h3, h4⟩ := h;by_cases e : g = g'
  ·subst e;rw [h5] at h3; cases h3;exact ⟨g, c2, h1, h2, h6, by omega⟩
  ·exact ⟨g, c, h1, h2, (hb.block g (Zb h3) e).trans h3, h4⟩
theorem Z5 {w w' : World} {base : Nat} {e : TypeId} {size : Nat} {v : Value} {n : Nat} {xs : List Value} (h : w.ownsRow base e size v n xs) (hg : Zj w w') : w'.ownsRow base e size v n xs :=
 ⟨h.1, Xh h.2 (fun x => x) fun ⟨g, cap, cur, h1, h2, h3, r⟩ => ⟨g, cap, cur, h1, h2, (hg.block g (Zb h3)).trans h3, r⟩⟩
theorem Vi {w w' : World} {base : Nat} {e T : TypeId} {size : Nat} {v : Value} {n : Nat} {xs : List Value} (hne : e ≠ T) (hs : Yu T w w') (h : w.ownsRow base e size v n xs) : w'.ownsRow base e size v n xs := by
 rcases hs with rfl | ⟨g', c1, c2, hb, h5, h6, h7⟩
 ·exact h
 ·refine ⟨h.1, Xh h.2 (fun x => x) fun ⟨g, cap, cur, h1, h2, h3, r⟩ => ⟨g, cap, cur, h1, h2, (hb.block g (Zb h3) ?_).trans h3, r⟩⟩;rintro rfl;rw [h5] at h3; cases h3; exact hne rfl
def Zrf (B : Nat) (r : Rec) (v : Value) (w : World) : Prop := ∃ d, v = .agg #[.int .i64 r.kind, .int .i64 r.key, .int .i64 r.ver, d] ∧ w.ownsRow B 5 1 d r.data.length (r.data.map bv)
theorem Zwq (B : Nat) (r : Rec) : Xy (Zrf B r) := by
 rintro v w w' hg ⟨d, h1, h2⟩;exact ⟨d, h1, Z5 h2 hg⟩
theorem Zww (B : Nat) (r : Rec) (v : Value) (w w' : World) (hs : Yu 49 w w') (h : Zrf B r v w) : Zrf B r v w' := by
 obtain ⟨d, h1, h2⟩ := h;exact ⟨d, h1, Vi (by decide) hs h2⟩
def Zrg (B : Nat) (l : List UInt8) (v : Value) (w : World) : Prop := w.ownsRow B 5 1 v l.length (l.map bv)
theorem Zwr (B : Nat) (l : List UInt8) : Xy (Zrg B l) := fun _ _ _ hg h => Z5 h hg
theorem Zwx (B : Nat) (l : List UInt8) (v : Value) (w w' : World) (hs : Yu 49 w w') (h : Zrg B l v w) : Zrg B l v w' := Vi (by decide) hs h
def Zuo (B : Nat) (r : Rec) (p : Value) (w : World) : Prop := ∃ g d, p = .pointer (some ⟨g, 0, none⟩) ∧ B ≤ g ∧ w.heap[g]? = some (.cells #[.int .i64 r.kind, .int .i64 r.key, .int .i64 r.ver, d] 49 (0, 0)) ∧ w.ownsRow B 5 1 d r.data.length (r.data.map bv)
theorem Zu5 (B : Nat) (r : Rec) (i : Nat) : Km (pl1 i (fun _ p w => Zuo B r p w)) := by
 rintro v ds w w' hg ⟨g, d, h1, h2, h3, h4⟩;exact ⟨g, d, h1, h2, (hg.block g (Zb h3)).trans h3, Z5 h4 hg⟩
theorem Zsk (l : List UInt8) (at_ : Int) (v : Value) (w : World) (h : Bytes w v l) (hs : spoilt l at_ ≠ 0) :
  Calls Tryz.prog 137 #[v, .int .i64 at_] w fun e w' => ∃ d, e = .returned (.tuple #[.agg #[.int .i64 (Y4 l at_).kind, .int .i64 (Y4 l at_).key, .int .i64 (Y4 l at_).ver, d], .int .i64 (Vb l at_)]) ∧ w'.ownsRow w.heap.size 5 1 d (Y4 l at_).data.length ((Y4 l at_).data.map bv) ∧ Zj w w' := by
 have he : Vb l at_ = spoilt l at_ := by unfold Vb; rw [if_neg hs]
 have hr : Y4 l at_ = Rec.none := by unfold Y4; rw [he, if_neg hs]
 rw [he, hr];clear he hr;have d0 : (spoilt l at_ != 0) = true := by simpa using hs
 clear hs;obtain ⟨ao, cap, rfl, -, -⟩ := Yt h;go_enter Tryz.func137, Tryz.ntmps137;go_wp2_with fail;refine (Ze3 l at_ _ _ (by exact Z0 h (Zd _ _))).mono ?_;rintro e w1 ⟨rfl, g1⟩;obtain ⟨hc, hf⟩ := Zoq g1;have cs := Zv;clear h;go_wp2_with fail;refine bodyPost_ret (v := .tuple #[.agg #[.int .i64 0, .int .i64 0, .int .i64 0, .slice none 0 0], .int .i64 (spoilt l at_)]) (by simp [results, Tryz.results137, go_sem, hc, cs]) rfl ⟨_, rfl, World.ownsRow_nil _ _ _ _, ?_⟩;exact Ya (Ya (Ya (Ya ((Zd _ _).trans g1) (by simp) _) (by simp) _) (by simp) _) (by simp) _
theorem Zyp {c : Array Value} (h : c.size = 4) : ∃ x0 x1 x2 x3, c = #[x0, x1, x2, x3] := by
 obtain ⟨l⟩ := c
 match l, h with
 | [x0, x1, x2, x3], _ => exact ⟨x0, x1, x2, x3, rfl⟩
theorem heap_set {w : World} {g : Nat} {c : Array Value} {T : TypeId} {f} (h : w.heap[g]? = some (.cells c T f)) (i : Nat) (x : Value) : (w.setCell ⟨g, i, none⟩ x).heap[g]? = some (.cells (c.setIfInBounds i x) T f) := by
 simp only [World.setCell, Array.getElem?_modify, if_true, h, Option.map_some];rfl
theorem Yg {w : World} {g : Nat} {T : TypeId} {f} {c0 c1 c2 c3 : Value} (h : w.heap[g]? = some (.cells #[c0, c1, c2, c3] T f)) (x0 x1 x2 x3 : Value) :
  ((((w.setCell ⟨g, 0, none⟩ x0).setCell ⟨g, 1, none⟩ x1).setCell ⟨g, 2, none⟩ x2).setCell ⟨g, 3, none⟩ x3).heap[g]? = some (.cells #[x0, x1, x2, x3] T f) ∧ Zp g w ((((w.setCell ⟨g, 0, none⟩ x0).setCell ⟨g, 1, none⟩ x1).setCell ⟨g, 2, none⟩ x2).setCell ⟨g, 3, none⟩ x3) := by
 refine ⟨?_, ((((Zp.refl g w).set _ _ _).set _ _ _).set _ _ _).set _ _ _⟩;have h1 := heap_set (heap_set (heap_set (heap_set h 0 x0) 1 x1) 2 x2) 3 x3;simpa using h1
theorem Zh {w : World} {g : Nat} {T : TypeId} {f} {c : Array Value} (h : w.heap[g]? = some (.cells c T f)) (i : Nat) (x : Value) (hx : c[i]? = some x) : w.cell? ⟨g, i, none⟩ = some x := by
 simp [World.cell?, h, hx]
theorem Zu {w : World} {g : Nat} {T : TypeId} {c : Array Value} (h : w.heap[g]? = some (.cells c T (0, 0))) (i : Nat) : w.frozen? ⟨g, i, none⟩ = false := by
 simp [World.frozen?, h]
theorem Q7 {w : World} {g : Nat} {T : TypeId} {f} {c : Array Value} (h : w.heap[g]? = some (.cells c T f)) {x0 x1 : Value} (h0 : c[0]? = some x0) (h1 : c[1]? = some x1) : w.cell? ⟨g, 0, none⟩ = some x0 ∧ w.cell? ⟨g, 1, none⟩ = some x1 := ⟨Zh h 0 _ h0, Zh h 1 _ h1⟩
theorem Zya {w : World} {g : Nat} {T : TypeId} {f} {c : Array Value} (h : w.heap[g]? = some (.cells c T f)) {x0 x1 x2 : Value} (h0 : c[0]? = some x0) (h1 : c[1]? = some x1) (h2 : c[2]? = some x2) : w.cell? ⟨g, 0, none⟩ = some x0 ∧ w.cell? ⟨g, 1, none⟩ = some x1 ∧ w.cell? ⟨g, 2, none⟩ = some x2 := ⟨Zh h 0 _ h0, Zh h 1 _ h1, Zh h 2 _ h2⟩
theorem Z8 {w : World} {g : Nat} {T : TypeId} {f} {c : Array Value} (h : w.heap[g]? = some (.cells c T f)) {x0 x1 x2 x3 : Value} (h0 : c[0]? = some x0) (h1 : c[1]? = some x1) (h2 : c[2]? = some x2) (h3 : c[3]? = some x3) : w.cell? ⟨g, 0, none⟩ = some x0 ∧ w.cell? ⟨g, 1, none⟩ = some x1 ∧ w.cell? ⟨g, 2, none⟩ = some x2 ∧ w.cell? ⟨g, 3, none⟩ = some x3 := ⟨Zh h 0 _ h0, Zh h 1 _ h1, Zh h 2 _ h2, Zh h 3 _ h3⟩
theorem Kl {w : World} {g : Nat} {T : TypeId} {f} {c : Array Value} (h : w.heap[g]? = some (.cells c T f)) {x0 x1 x2 x3 x4 : Value} (h0 : c[0]? = some x0) (h1 : c[1]? = some x1) (h2 : c[2]? = some x2) (h3 : c[3]? = some x3) (h4 : c[4]? = some x4) : w.cell? ⟨g, 0, none⟩ = some x0 ∧ w.cell? ⟨g, 1, none⟩ = some x1 ∧ w.cell? ⟨g, 2, none⟩ = some x2 ∧ w.cell? ⟨g, 3, none⟩ = some x3 ∧ w.cell? ⟨g, 4, none⟩ = some x4 := ⟨Zh h 0 _ h0, Zh h 1 _ h1, Zh h 2 _ h2, Zh h 3 _ h3, Zh h 4 _ h4⟩
theorem Yw {w : World} {g : Nat} {T : TypeId} {c : Array Value} (h : w.heap[g]? = some (.cells c T (0, 0))) : w.frozen? ⟨g, 0, none⟩ = false ∧ w.frozen? ⟨g, 1, none⟩ = false ∧ w.frozen? ⟨g, 2, none⟩ = false ∧ w.frozen? ⟨g, 3, none⟩ = false := ⟨Zu h 0, Zu h 1, Zu h 2, Zu h 3⟩
theorem Zk (w : World) (c : Array Value) (T : TypeId) : (w.alloc (.cells c T)).heap[w.heap.size]? = some (.cells c T (0, 0)) := by
 show (w.heap.push _)[w.heap.size]? = _;simp
theorem K8 {l : List UInt8} {at_ : Int} (h : spoilt l at_ = 0) : l.length = 16 ∧ Xw l = true ∧ ((at' l 1).toNat : Int) = at_ ∧ (at' l 5).toNat ≤ 8 ∧ Y1 (Vh l) = true := by
 unfold spoilt at h;by_cases h1 : l.length ≠ 16
 ·rw [if_pos h1] at h; omega
 ·rw [if_neg h1] at h;by_cases h2 : Xw l = false
  ·rw [if_pos h2] at h; omega
  ·rw [if_neg h2] at h;by_cases h3 : ((at' l 1).toNat : Int) ≠ at_
   ·rw [if_pos h3] at h; omega
   ·rw [if_neg h3] at h;by_cases h4 : 8 < (at' l 5).toNat
    ·rw [if_pos h4] at h; omega
    ·rw [if_neg h4] at h;by_cases h5 : Y1 (Vh l) = false
     ·rw [if_pos h5] at h; omega
     ·exact ⟨by omega, by simpa using h2, by simpa using h3, by omega, by simpa using h5⟩
theorem Zvi (l : List UInt8) (at_ : Int) (b off cap : Nat) (w : World) (hcap : 16 ≤ cap) (hC : Zba w b off l) (hs : spoilt l at_ = 0) :
  Calls Tryz.prog 137 #[.slice (some ⟨b, off, none⟩) 16 cap, .int .i64 at_] w fun e w' => ∃ d, e = .returned (.tuple #[.agg #[.int .i64 (Y4 l at_).kind, .int .i64 (Y4 l at_).key, .int .i64 (Y4 l at_).ver, d], .int .i64 (Vb l at_)]) ∧ w'.ownsRow w.heap.size 5 1 d (Y4 l at_).data.length ((Y4 l at_).data.map bv) ∧ Zj w w' := by
 obtain ⟨hl, -, -, h8, -⟩ := K8 hs;have he : Vb l at_ = Z6 (Xn l) := by unfold Vb; rw [if_pos hs]
 have hB : Bytes w (.slice (some ⟨b, off, none⟩) 16 cap) l := .inr ⟨b, off, cap, by rw [hl], by omega, hC⟩;have HL : Hid (l.length = 16) := hl;have HS : Hid (spoilt l at_ = 0) := hs;have HE : Hid (Vb l at_ = Z6 (Xn l)) := he;have HR : Hid (Y4 l at_ = if Z6 (Xn l) = 0 then Xn l else Rec.none) := by show Y4 _ _ = _; unfold Y4; rw [he]
 clear he hl hs;rw [HE.out];go_enter Tryz.func137, Tryz.ntmps137;go_wp2_with fail;refine (Ze3 l at_ _ _ (by exact Z0 hB (Zd _ _))).mono ?_;rw [HS.out];rintro e w1 ⟨rfl, g1⟩;have gw : Zj w w1 := (Zd _ _).trans g1;have hbox : w1.heap[w.heap.size]? = some (.cells #[.int .i64 0, .int .i64 0, .int .i64 0, .slice none 0 0] 49 (0, 0)) := (g1.block _ (by simp)).trans (Zk _ _ _);have hc1 := hC.grow gw;have hd : ((l.drop 6).take (at' l 5).toNat).length = (at' l 5).toNat := by simp; have := HL.out; omega
 have k0 := hc1.at' 0 (by rw [HL.out]; omega);rw [Nat.add_zero] at k0;have k2 := hc1.at' 2 (by rw [HL.out]; omega);have k3 := hc1.at' 3 (by rw [HL.out]; omega);have k4 := hc1.at' 4 (by rw [HL.out]; omega);have b0 : (at' l 0).toNat < 256 := UInt8.toNat_lt _;have b2 : (at' l 2).toNat < 256 := UInt8.toNat_lt _;clear hB hC;go_wp2_with fail
 refine K4 [px (.slice (some ⟨b, off, none⟩) 16 cap), px (.pointer (some ⟨b, off, none⟩)), px (.int .u8 ((at' l 0).toNat : Int)), px (.int .i64 ((at' l 0).toNat : Int)), px (.slice (some ⟨b, off, none⟩) 16 cap), px (.pointer (some ⟨b, off + 2, none⟩)), px (.int .u8 ((at' l 2).toNat : Int)), px (.int .i64 ((at' l 2).toNat : Int)), px (.slice (some ⟨b, off, none⟩) 16 cap), px (.pointer (some ⟨b, off + 3, none⟩)), px (.int .u8 ((at' l 3).toNat : Int)), px (.slice (some ⟨b, off, none⟩) 16 cap), px (.pointer (some ⟨b, off + 4, none⟩)), px (.int .u8 ((at' l 4).toNat : Int)), px (.int .i64 (((at' l 3).toNat : Int) * 256 + ((at' l 4).toNat : Int))), px (.slice (some ⟨b, off, none⟩) 16 cap), px (.slice (some ⟨b, off, none⟩) 16 cap), px (.int .i64 (6 + ((at' l 5).toNat : Int))), px (.slice (some ⟨b, off + 6, none⟩) (at' l 5).toNat (cap - 6)), pl (Zrg w1.heap.size ((l.drop 6).take (at' l 5).toNat)), pl (Zrf w1.heap.size (Xn l)), pl (Zrk 49 4 w1.heap.size), pl1 21 ((fun _ p w => Zuo w1.heap.size (Xn l) p w))] [none, none, none, none, none, none, none, none, none, none, none, none, none, none, none, none, none, none, none, none, none, none, some ((Yu 49))] (fun w' => Zj w1 w') (by kernel_rfl) (by kernel_rfl) ⟨se, se, se, se, se, se, se, se, se, se, se, se, se, se, se, se, se, se, se, Yn (Zwr _ _), Yn (Zwq _ _), Yn (Zwt _ _ _), Zu5 _ _ _, trivial⟩ ⟨⟨(fun w => .inl rfl), ⟨x5, x5, x5, x5, x5, x5, x5, x5, x5, x5, x5, x5, x5, x5, x5, x5, x5, x5, x5, .inr ((fun v _ w w' hs hq => Zwx _ _ v w w' hs hq)), .inr ((fun v _ w w' hs hq => Zww _ _ v w w' hs hq)), .inr ((fun v _ w w' hs hq => Zwz _ _ _ v w w' hs hq)), .inl (by kernel_rfl), trivial⟩⟩, trivial⟩ ⟨n5, n5, n5, n5, n5, n5, n5, n5, n5, n5, n5, n5, n5, n5, n5, n5, n5, n5, n5, n5, n5, n5, fun _ _ _ _ h => h, trivial⟩ ?_ ?_ ?_
 ·exact (Zj.refl _).drew
 ·refine ⟨?_, ?_, ?_, ?_, ?_, ?_, ?_, ?_, ?_, ?_, ?_, ?_, ?_, ?_, ?_, ?_, ?_, ?_, ?_, ?_, ?_, ?_, ?_, trivial⟩
  ·refine Zz rfl fun a w' ek ef hg hin => ?_;have e : a (.tmp 0) = .slice (some ⟨b, off, none⟩) 16 cap := Zt hin 0 rfl;exact Yj rfl hg e
  ·refine Zz rfl fun a w' ek ef hg hin => ?_;have e16 : a (.tmp 16) = _ := Zg hin 0 rfl;refine Zr ?_ hg rfl;clear hin hg;go_simp;all_goals go_arith
  ·refine Zz rfl fun a w' ek ef hg hin => ?_;have e17 : a (.tmp 17) = _ := Zg hin 1 rfl;have h1 := (Below.cell hg (Zs k0)).trans k0;refine Zr ?_ hg rfl;clear hin hg;go_simp;all_goals go_arith
  ·refine Zz rfl fun a w' ek ef hg hin => ?_;have e18 : a (.tmp 18) = _ := Zg hin 2 rfl;refine Zr ?_ hg rfl;clear hin hg;go_simp;all_goals go_arith
  ·refine Zz rfl fun a w' ek ef hg hin => ?_;have e : a (.tmp 0) = .slice (some ⟨b, off, none⟩) 16 cap := Zt hin 0 rfl;exact Yj rfl hg e
  ·refine Zz rfl fun a w' ek ef hg hin => ?_;have e20 : a (.tmp 20) = _ := Zg hin 4 rfl;refine Zr ?_ hg rfl;clear hin hg;go_simp;all_goals go_arith
  ·refine Zz rfl fun a w' ek ef hg hin => ?_;have e21 : a (.tmp 21) = _ := Zg hin 5 rfl;have h1 := (Below.cell hg (Zs k2)).trans k2;refine Zr ?_ hg rfl;clear hin hg;go_simp;all_goals go_arith
  ·refine Zz rfl fun a w' ek ef hg hin => ?_;have e22 : a (.tmp 22) = _ := Zg hin 6 rfl;refine Zr ?_ hg rfl;clear hin hg;go_simp;all_goals go_arith
  ·refine Zz rfl fun a w' ek ef hg hin => ?_;have e : a (.tmp 0) = .slice (some ⟨b, off, none⟩) 16 cap := Zt hin 0 rfl;exact Yj rfl hg e
  ·refine Zz rfl fun a w' ek ef hg hin => ?_;have e24 : a (.tmp 24) = _ := Zg hin 8 rfl;refine Zr ?_ hg rfl;clear hin hg;go_simp;all_goals go_arith
  ·refine Zz rfl fun a w' ek ef hg hin => ?_;have e25 : a (.tmp 25) = _ := Zg hin 9 rfl;have h1 := (Below.cell hg (Zs k3)).trans k3;refine Zr ?_ hg rfl;clear hin hg;go_simp;all_goals go_arith
  ·refine Zz rfl fun a w' ek ef hg hin => ?_;have e : a (.tmp 0) = .slice (some ⟨b, off, none⟩) 16 cap := Zt hin 0 rfl;exact Yj rfl hg e
  ·refine Zz rfl fun a w' ek ef hg hin => ?_;have e27 : a (.tmp 27) = _ := Zg hin 11 rfl;refine Zr ?_ hg rfl;clear hin hg;go_simp;all_goals go_arith
  ·refine Zz rfl fun a w' ek ef hg hin => ?_;have e28 : a (.tmp 28) = _ := Zg hin 12 rfl;have h1 := (Below.cell hg (Zs k4)).trans k4;refine Zr ?_ hg rfl;clear hin hg;go_simp;all_goals go_arith
  ·refine Zz rfl fun a w' ek ef hg hin => ?_;have e26 : a (.tmp 26) = _ := Zg hin 10 rfl;have e29 : a (.tmp 29) = _ := Zg hin 13 rfl;refine Yf (f := 163) (args := #[.int .u8 ((at' l 3).toNat : Int), .int .u8 ((at' l 4).toNat : Int)]) ?_ ((Zfl _ _ w').mono ?_)
   ·clear hin hg;go_simp;all_goals go_arith
   ·rintro e w2 ⟨rfl, rfl⟩;exact ⟨_, rfl, Zj.refl _, hg, rfl⟩
  ·refine Zz rfl fun a w' ek ef hg hin => ?_;have e : a (.tmp 0) = .slice (some ⟨b, off, none⟩) 16 cap := Zt hin 0 rfl;exact Yj rfl hg e
  ·refine Zz rfl fun a w' ek ef hg hin => ?_;have e : a (.tmp 0) = .slice (some ⟨b, off, none⟩) 16 cap := Zt hin 0 rfl;exact Yj rfl hg e
  ·refine Zz rfl fun a w' ek ef hg hin => ?_;have e32 : a (.tmp 32) = _ := Zg hin 16 rfl;refine Yf (f := 164) (args := #[.slice (some ⟨b, off, none⟩) 16 cap]) ?_ ((Zej l b off cap w' HL.out (hc1.grow hg)).mono ?_)
   ·clear hin hg;go_simp;all_goals go_arith
   ·rintro e w2 ⟨rfl, rfl⟩;exact ⟨_, rfl, Zj.refl _, hg, rfl⟩
  ·refine Zz rfl fun a w' ek ef hg hin => ?_;have e31 : a (.tmp 31) = _ := Zg hin 15 rfl;have e33 : a (.tmp 33) = _ := Zg hin 17 rfl;refine Zr ?_ hg rfl;clear hin hg hd hc1 k0 k2 k3 k4 b0 b2 HL HS HE HR gw hbox;generalize (at' l 5).toNat = x at *;go_simp;rw [if_pos (by omega), if_pos (by omega), if_neg (by omega), show (6 + (x : Int)).toNat - 6 = x from by omega]
  ·refine Zz rfl fun a w' ek ef hg hin => ?_;have e34 : a (.tmp 34) = _ := Zg hin 18 rfl;have hsrc := (hc1.grow hg).sub 6 (at' l 5).toNat (cap - 6) (by rw [HL.out]; omega) (by omega);refine Yf (f := 31) (args := #[.slice (some ⟨b, off + 6, none⟩) (at' l 5).toNat (cap - 6)]) ?_ ((Ve _ _ w' (by rw [hd]; omega) hsrc).mono ?_)
   ·clear hin hg hsrc;go_simp;all_goals go_arith
   ·rintro e w2 ⟨v', rfl, ho, g2⟩;exact ⟨_, rfl, g2, hg.trans g2, Yi ho hg.size⟩
  ·refine Zz rfl fun a w' ek ef hg hin => ?_;have e19 : a (.tmp 19) = _ := Zg hin 3 rfl;have e23 : a (.tmp 23) = _ := Zg hin 7 rfl;have e30 : a (.tmp 30) = _ := Zg hin 14 rfl;have e35 : (Zrg w1.heap.size ((l.drop 6).take (at' l 5).toNat)) (a (.tmp 35)) w' := Zg hin 19 rfl;obtain ⟨ao', cp', hv35⟩ := Ye e35;refine Zr (v := .agg #[.int .i64 ((at' l 0).toNat : Int), .int .i64 ((at' l 2).toNat : Int), .int .i64 (((at' l 3).toNat : Int) * 256 + ((at' l 4).toNat : Int)), a (.tmp 35)]) ?_ hg ⟨_, rfl, e35⟩;clear hin hg e35;go_simp;all_goals go_arith
  ·refine Zz rfl fun a w' ek ef hg hin => ?_;refine Vs (v := .pointer (some ⟨w'.heap.size, 0, none⟩)) (w' := w'.alloc (.cells #[.int .i64 0, .int .i64 0, .int .i64 0, .slice none 0 0] 49)) ?_ (Zd _ _) (hg.trans (Zd _ _)) ⟨_, _, rfl, hg.size, Zk _ _ _, rfl⟩;clear hin hg;go_simp;all_goals go_arith
  ·refine Zz rfl fun a w' ek ef hg hin => ?_;have e7 : (Zrk 49 4 w1.heap.size) (a (.tmp 7)) w' := Zg hin 21 rfl;have e36 : (Zrf w1.heap.size (Xn l)) (a (.tmp 36)) w' := Zg hin 20 rfl;obtain ⟨g, c, h7, hgB, hh, hsz⟩ := e7;obtain ⟨d, h36, hown⟩ := e36;obtain ⟨ao', cp', rfl⟩ := Ye hown;obtain ⟨x0, x1, x2, x3, rfl⟩ := Zyp hsz;obtain ⟨hp1, hp2⟩ := Yg hh (.int .i64 (Xn l).kind) (.int .i64 (Xn l).key) (.int .i64 (Xn l).ver) (.slice ao' (Xn l).data.length cp');have hstep : Yu 49 w' _ := .inr ⟨g, _, _, hp2, hh, hp1, rfl⟩;refine Y7 (w' := _) ?_ hstep (Ya (Ya (Ya (Ya hg (by exact hgB) _) (by exact hgB) _) (by exact hgB) _) (by exact hgB) _) ⟨g, _, h7, hgB, hp1, Vi (by decide) hstep hown⟩;have y0 := Zh hh 0 x0 rfl;have y1 := Zh hh 1 x1 rfl;have y2 := Zh hh 2 x2 rfl;have y3 := Zh hh 3 x3 rfl;obtain ⟨f0, f1, f2, f3⟩ := Yw hh;have cs := Zv;clear hin hg hp1 hp2 hstep hown hh;generalize Xn l = rr at *;go_simp;all_goals go_arith
 ·intro vs w' hg ht;obtain ⟨q16, q17, q18, q19, q20, q21, q22, q23, q24, q25, q26, q27, q28, q29, q30, q31, q32, q33, q34, q35, q36, q7, qo22, -⟩ := ht;have r16 : vs 0 = .slice (some ⟨b, off, none⟩) 16 cap := q16;have r17 : vs 1 = .pointer (some ⟨b, off, none⟩) := q17;have r18 : vs 2 = .int .u8 ((at' l 0).toNat : Int) := q18;have r19 : vs 3 = .int .i64 ((at' l 0).toNat : Int) := q19;have r20 : vs 4 = .slice (some ⟨b, off, none⟩) 16 cap := q20;have r21 : vs 5 = .pointer (some ⟨b, off + 2, none⟩) := q21;have r22 : vs 6 = .int .u8 ((at' l 2).toNat : Int) := q22;have r23 : vs 7 = .int .i64 ((at' l 2).toNat : Int) := q23;have r24 : vs 8 = .slice (some ⟨b, off, none⟩) 16 cap := q24;have r25 : vs 9 = .pointer (some ⟨b, off + 3, none⟩) := q25;have r26 : vs 10 = .int .u8 ((at' l 3).toNat : Int) := q26;have r27 : vs 11 = .slice (some ⟨b, off, none⟩) 16 cap := q27;have r28 : vs 12 = .pointer (some ⟨b, off + 4, none⟩) := q28;have r29 : vs 13 = .int .u8 ((at' l 4).toNat : Int) := q29;have r30 : vs 14 = .int .i64 (((at' l 3).toNat : Int) * 256 + ((at' l 4).toNat : Int)) := q30;have r31 : vs 15 = .slice (some ⟨b, off, none⟩) 16 cap := q31;have r32 : vs 16 = .slice (some ⟨b, off, none⟩) 16 cap := q32;have r33 : vs 17 = .int .i64 (6 + ((at' l 5).toNat : Int)) := q33;have r34 : vs 18 = .slice (some ⟨b, off + 6, none⟩) (at' l 5).toNat (cap - 6) := q34;replace q35 : (Zrg w1.heap.size ((l.drop 6).take (at' l 5).toNat)) (vs 19) w' := q35;replace q36 : (Zrf w1.heap.size (Xn l)) (vs 20) w' := q36
  replace q7 : (Zrk 49 4 w1.heap.size) (vs 21) w' := q7;replace qo22 : ((fun _ p w => Zuo w1.heap.size (Xn l) p w)) (vs 22) (vs 21) w' := qo22;clear q16 q17 q18 q19 q20 q21 q22 q23 q24 q25 q26 q27 q28 q29 q30 q31 q32 q33 q34;simp only [Z9, Act.put, List.setIfInBounds_toArray, List.set_cons_zero, List.set_cons_succ, Nat.reduceAdd, r16, r17, r18, r19, r20, r21, r22, r23, r24, r25, r26, r27, r28, r29, r30, r31, r32, r33, r34];clear r16 r17 r18 r19 r20 r21 r22 r23 r24 r25 r26 r27 r28 r29 r30 r31 r32 r33 r34;obtain ⟨g, d, h7, hgB, hh, hown⟩ := qo22;rw [h7];obtain ⟨ao', cp', rfl⟩ := Ye hown;have hz : w.heap.size < g := by have := g1.size; simp at this; omega
  have hbox' := (hg.block _ (Zb hbox)).trans hbox;have gw' := gw.trans hg;have hbs : w.heap.size < w1.heap.size := by have := g1.size; simp at this; omega
  clear q35 q36 q7 hg hbox gw g1 k0 k2 k3 k4 b0 b2 hc1 hd h7;generalize vs 19 = u19;generalize vs 20 = u20;obtain ⟨y0, y1, y2, y3⟩ := Z8 hh rfl rfl rfl rfl;go_wp2_with fail;refine (Zbb _ _ _ (Xn l).data _ _ (Qf hown)).mono ?_;rintro e w2 ⟨rfl, g2⟩;have hh2 := (g2.block _ (Zb hh)).trans hh;have hb2 := (g2.block _ (Zb hbox')).trans hbox';have hown2 := Z5 hown g2;have gw2 := gw'.trans g2;clear y0 y1 y2 y3 hown gw' hbox' hh;obtain ⟨y0, y1, y2, y3⟩ := Z8 hh2 rfl rfl rfl rfl;obtain ⟨z0, z1, z2, z3⟩ := Z8 hb2 rfl rfl rfl rfl;obtain ⟨f0, f1, f2, f3⟩ := Yw hb2;have cs := Zv;by_cases hw0 : Z6 (Xn l) = 0
  ·have HQ : Hid (Y4 l at_ = Xn l) := by show Y4 _ _ = _; rw [HR.out, if_pos hw0]
   have HW : Hid (Z6 (Xn l) = 0) := hw0;have d0 : (Z6 (Xn l) != 0) = false := by rw [hw0]; rfl
   clear hw0 HR HE HS;go_wp2_with fail;refine bodyPost_ret (v := .tuple #[.agg #[.int .i64 (Xn l).kind, .int .i64 (Xn l).key, .int .i64 (Xn l).ver, .slice ao' (Xn l).data.length cp'], .int .i64 0]) (by simp [results, Tryz.results137, go_sem, z0, z1, z2, z3, cs]) rfl ⟨.slice ao' (Xn l).data.length cp', ?_, ?_, ?_⟩
   ·rw [HQ.out, HW.out]
   ·rw [HQ.out];exact Yi (Xp (Xp (Xp (Xp hown2 (by exact hbs) _) (by exact hbs) _) (by exact hbs) _) (by exact hbs) _) (Nat.le_of_lt hbs)
   ·exact Ya (Ya (Ya (Ya gw2 (by simp) _) (by simp) _) (by simp) _) (by simp) _
  ·have HQ : Hid (Y4 l at_ = Rec.none) := by show Y4 _ _ = _; rw [HR.out, if_neg hw0]
   have d0 : (Z6 (Xn l) != 0) = true := by simpa using hw0
   clear hw0 HR HE HS y0 y1 y2 y3;go_wp2_with fail;refine bodyPost_ret (v := .tuple #[.agg #[.int .i64 0, .int .i64 0, .int .i64 0, .slice none 0 0], .int .i64 (Z6 (Xn l))]) (by simp [results, Tryz.results137, go_sem, z0, z1, z2, z3, cs]) rfl ⟨.slice none 0 0, ?_, ?_, ?_⟩
   ·rw [HQ.out]; rfl
   ·rw [HQ.out];exact World.ownsRow_nil _ _ _ _
   ·exact Ya (Ya (Ya (Ya gw2 (by simp) _) (by simp) _) (by simp) _) (by simp) _
theorem Zsl (l : List UInt8) (at_ : Int) (v : Value) (w : World) (h : Bytes w v l) :
  Calls Tryz.prog 137 #[v, .int .i64 at_] w fun e w' => ∃ d, e = .returned (.tuple #[.agg #[.int .i64 (Y4 l at_).kind, .int .i64 (Y4 l at_).key, .int .i64 (Y4 l at_).ver, d], .int .i64 (Vb l at_)]) ∧ w'.ownsRow w.heap.size 5 1 d (Y4 l at_).data.length ((Y4 l at_).data.map bv) ∧ Zj w w' := by
 by_cases hs : spoilt l at_ = 0
 ·have hl := (K8 hs).1;rcases h with ⟨ao, cap, rfl, rfl, _⟩ | ⟨b, off, cap, rfl, h1, hc⟩
  ·simp at hl
  ·rw [show (Value.slice (some ⟨b, off, none⟩) l.length cap) = .slice (some ⟨b, off, none⟩) 16 cap from by rw [hl]];exact Zvi l at_ b off cap w (by omega) hc hs
 ·exact Zsk l at_ v w h hs
end Go.Proofs.YtgaecpdokgklpadGreatDoor
