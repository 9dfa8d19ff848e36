/-
  What block.Read tells of any bytes at a place: the record that stands in them, or why they are no block of it.
  Condition: the slice holds those bytes.
-/
import Derived.Test.YtgaecpdokgklpabRBytes
namespace Go.Proofs.Ytgaecpdokgklpab
set_option maxRecDepth 100000
open Go.RowKit
open Go.Proofs.Ytgaecpdokgklpab.Plain Go.Proofs.Ytgaecpdokgklpab.Reg

/-- The cells of bytes that lie from an address on. -/
def Cells (w : World) (b off : Nat) (l : List UInt8) : Prop := ∀ (i : Nat) (h : i < l.length), w.cell? ⟨b, off + i, none⟩ = some (.int .u8 (l[i].toNat : Int))
theorem Cells.at' {w : World} {b off : Nat} {l : List UInt8} (h : Cells w b off l) (i : Nat) (hi : i < l.length) : w.cell? ⟨b, off + i, none⟩ = some (.int .u8 ((Plain.at' l i).toNat : Int)) := by
 rw [h i hi]
 unfold Plain.at'
 rw [List.getD_eq_getElem?_getD, List.getElem?_eq_getElem hi]; rfl
theorem Cells.grow {w w' : World} {b off : Nat} {l : List UInt8} (h : Cells w b off l) (hg : Grow w w') : Cells w' b off l := fun i hi => (Below.cell hg (cell_lt (h i hi))).trans (h i hi)
theorem Cells.sub {w : World} {b off : Nat} {l : List UInt8} (h : Cells w b off l) (i n cap : Nat) (hn : i + n ≤ l.length) (hc : n ≤ cap) : Bytes w (.slice (some ⟨b, off + i, none⟩) n cap) ((l.drop i).take n) := by
 have e : ((l.drop i).take n).length = n := by simp; omega
 refine .inr ⟨b, off + i, cap, by rw [e], by omega, fun j hj => ?_⟩
 rw [Nat.add_assoc, h (i + j) (by omega)]
 simp

theorem ret_bool {a b : Bool} (h : a = b) : Ending.returned (.bool a) = .returned (.bool b) := by rw [h]

set_option maxHeartbeats 400000 in
theorem dataEnd_any (l : List UInt8) (b off cap : Nat) (w : World) (hl : l.length = 16) (hc : Cells w b off l) :
  Calls Try.prog 107 #[.slice (some ⟨b, off, none⟩) 16 cap] w fun e w' => e = .returned (.int .i64 (6 + ((at' l 5).toNat : Int))) ∧ w = w' := by
 have h5 := hc.at' 5 (by omega)
 have hb : (at' l 5).toNat < 256 := UInt8.toNat_lt _
 clear hc hl
 generalize (at' l 5).toNat = x at *
 go_enter Try.func107, Try.ntmps107
 go_wp2
 go_ret
 exact ⟨rfl, rfl⟩

theorem noughts_snoc (l : List UInt8) (k : Nat) (h : k < l.length) : noughtsB (l.take (k + 1)) = (noughtsB (l.take k) && (l[k] == 0)) := by
 rw [take_snoc l k h]; simp only [noughtsB, List.all_append, List.all_cons, List.all_nil, Bool.and_true]

set_option maxHeartbeats 400000 in
theorem noughts_row (l : List UInt8) (b off cap : Nat) (w : World) (hm : l.length ≤ 140737488355328) (hc : Cells w b off l) :
  Calls Try.prog 115 #[.slice (some ⟨b, off, none⟩) l.length cap] w fun e w' => e = .returned (.bool (noughtsB l)) ∧ w = w' := by
 go_enter Try.func115, Try.ntmps115
 go_wp2
 go_loop [7] (fun i => ∃ k : Nat, k ≤ l.length ∧ i = .int .i64 k ∧ noughtsB (l.take k) = true) (fun i => l.length - (intOf i).toNat)
 case atStart => exact ⟨0, Nat.zero_le _, rfl, rfl⟩
 case round =>
  obtain ⟨k, hk, rfl, hn⟩ := hrel
  by_cases hlt : k < l.length
  ·have hcell := hc k hlt
   have hb : l[k].toNat < 256 := UInt8.toNat_lt _
   have hs := noughts_snoc l k hlt
   rw [hn, Bool.true_and] at hs
   have HN : Hid (noughtsB (l.take k) = true) := hn
   clear hn
   by_cases h0 : l[k] = 0
   ·have HS : Hid (noughtsB (l.take (k + 1)) = true) := by show noughtsB _ = true; rw [hs, h0]; rfl
    have d0 : ((l[k].toNat : Int) != 0) = false := by simp [h0]
    clear hc hs h0
    go_wp2
    go_round
    case rel => exact ⟨k + 1, by omega, by go_num, HS.out⟩
    case measure => simp [intOf]; omega
   ·have hne : l[k].toNat ≠ 0 := fun e => h0 (UInt8.toNat_inj.1 e)
    have d0 : ((l[k].toNat : Int) != 0) = true := by simp [hne]
    have HS : Hid (noughtsB l = false) := by
     show noughtsB l = false
     unfold noughtsB
     rw [List.all_eq_false]
     exact ⟨l[k], List.getElem_mem hlt, by simpa using h0⟩
    clear hc hs h0 hne
    go_wp2
    go_ret
    exact ⟨ret_bool HS.out.symm, rfl⟩
  ·have HS : Hid (noughtsB l = true) := by
    show noughtsB l = true
    rw [← hn, List.take_of_length_le (by omega)]
   clear hn
   go_wp2
   go_ret
   exact ⟨ret_bool HS.out.symm, rfl⟩

set_option maxHeartbeats 400000 in
theorem noughts_nil (ao : Option Addr) (cap : Nat) (w : World) :
  Calls Try.prog 115 #[.slice ao 0 cap] w fun e w' => e = .returned (.bool (noughtsB [])) ∧ w = w' := by
 go_enter Try.func115, Try.ntmps115
 go_wp2
 go_loop [7] (fun i => i = .int .i64 0) (fun i => 0)
 case atStart => rfl
 case round =>
  obtain rfl := hrel
  go_wp2
  go_ret
  exact ⟨rfl, rfl⟩

theorem noughts_any (l : List UInt8) (v : Value) (w : World) (hm : l.length ≤ 140737488355328) (h : Bytes w v l) :
  Calls Try.prog 115 #[v] w fun e w' => e = .returned (.bool (noughtsB l)) ∧ w = w' := by
 rcases h with ⟨ao, cap, rfl, rfl, _⟩ | ⟨b, off, cap, rfl, _, hc⟩
 ·exact noughts_nil ao cap w
 ·exact noughts_row l b off cap w hm hc

set_option maxHeartbeats 400000 in
theorem spoilt_size (l : List UInt8) (at_ : Int) (ao : Option Addr) (cap : Nat) (w : World) (hl : l.length ≠ 16) :
  Calls Try.prog 105 #[.slice ao l.length cap, .int .i64 at_] w fun e w' => e = .returned (.int .i64 (spoilt l at_)) ∧ Grow w w' := by
 have HS : Hid (spoilt l at_ = 2) := by show spoilt _ _ = 2; unfold spoilt; rw [if_pos hl]
 have d : ((l.length : Int) != 16) = true := by simp; omega
 go_enter Try.func105, Try.ntmps105
 go_wp2_with fail
 go_ret
 exact ⟨ret_int HS.out.symm, Grow.refl _⟩

set_option maxHeartbeats 1000000 in
theorem spoilt_row (l : List UInt8) (at_ : Int) (b off cap : Nat) (w : World) (hl : l.length = 16) (hcap : 16 ≤ cap) (hc : Cells w b off l) :
  Calls Try.prog 105 #[.slice (some ⟨b, off, none⟩) 16 cap, .int .i64 at_] w fun e w' => e = .returned (.int .i64 (spoilt l at_)) ∧ Grow w w' := by
 have hB : Bytes w (.slice (some ⟨b, off, none⟩) 16 cap) l := .inr ⟨b, off, cap, by rw [hl], by omega, hc⟩
 have HL : Hid (l.length = 16) := hl
 have hw : spoilt l at_ = if sealedB l = false then 7 else if ((at' l 1).toNat : Int) ≠ at_ then 8 else if 8 < (at' l 5).toNat then 4 else if noughtsB (restOf l) = false then 2 else 0 := by
  unfold spoilt; rw [if_neg (by omega)]
 have HW : Hid _ := hw
 clear hw hl
 go_enter Try.func105, Try.ntmps105
 go_wp2_with fail
 refine (issealed_any l _ _ (by rw [HL.out]; omega) hB).mono ?_
 cases hs : sealedB l with
 | false =>
  have HF : Hid (spoilt l at_ = 7) := by show spoilt _ _ = 7; rw [HW.out, if_pos hs]
  clear hs hB hc
  rintro e w1 ⟨rfl, g1⟩
  go_wp2_with fail
  go_ret
  exact ⟨ret_int HF.out.symm, g1⟩
 | true =>
  rintro e w1 ⟨rfl, g1⟩
  have hc1 := hc.grow g1
  have h1 := hc1.at' 1 (by rw [HL.out]; omega)
  have h5 := hc1.at' 5 (by rw [HL.out]; omega)
  have hb1 : (at' l 1).toNat < 256 := UInt8.toNat_lt _
  have hb5 : (at' l 5).toNat < 256 := UInt8.toNat_lt _
  have HS : Hid (sealedB l = true) := hs
  clear hs hB
  by_cases hp : ((at' l 1).toNat : Int) = at_
  ·have d1 : (((at' l 1).toNat : Int) != at_) = false := by simp [hp]
   by_cases h8 : 8 < (at' l 5).toNat
   ·have HF : Hid (spoilt l at_ = 4) := by show spoilt _ _ = 4; rw [HW.out, if_neg (by rw [HS.out]; simp), if_neg (by simpa using hp), if_pos h8]
    clear hp hc hc1
    generalize (at' l 5).toNat = x5 at *
    generalize (at' l 1).toNat = x1 at *
    go_wp2_with fail
    go_ret
    exact ⟨ret_int HF.out.symm, g1⟩
   ·have hr : Bytes w1 (.slice (some ⟨b, off + (6 + (at' l 5).toNat), none⟩) (8 - (at' l 5).toNat) (cap - (6 + (at' l 5).toNat))) (restOf l) := hc1.sub _ _ _ (by rw [HL.out]; omega) (by omega)
    have HF : Hid (spoilt l at_ = if noughtsB (restOf l) = false then 2 else 0) := by show spoilt _ _ = _; rw [HW.out, if_neg (by rw [HS.out]; simp), if_neg (by simpa using hp), if_neg h8]
    have hrl : (restOf l).length ≤ 8 := by unfold restOf; simp; omega
    clear hp hc
    have hde := fun (cp : Nat) => dataEnd_any l b off cp w1 HL.out hc1
    generalize hx5 : (at' l 5).toNat = x5 at *
    generalize (at' l 1).toNat = x1 at *
    clear hx5 hc1
    go_wp2_with fail
    refine (hde _).mono ?_
    rintro e w' ⟨rfl, rfl⟩
    clear hde
    go_wp2_with fail
    rw [show 14 - (6 + x5) = 8 - x5 from by omega]
    refine (noughts_any _ _ _ (by omega) hr).mono ?_
    rintro e w' ⟨rfl, rfl⟩
    cases hn : noughtsB (restOf l) with
    | false =>
     have HG : Hid (spoilt l at_ = 2) := by show spoilt _ _ = 2; rw [HF.out, if_pos hn]
     clear hn hr
     go_wp2_with fail
     go_ret
     exact ⟨ret_int HG.out.symm, g1⟩
    | true =>
     have HG : Hid (spoilt l at_ = 0) := by show spoilt _ _ = 0; rw [HF.out, if_neg (by rw [hn]; simp)]
     clear hn hr
     go_wp2_with fail
     go_ret
     exact ⟨ret_int HG.out.symm, g1⟩
  ·have d1 : (((at' l 1).toNat : Int) != at_) = true := by simp [hp]
   have HF : Hid (spoilt l at_ = 8) := by show spoilt _ _ = 8; rw [HW.out, if_neg (by rw [HS.out]; simp), if_pos hp]
   clear hp hc hc1
   generalize (at' l 5).toNat = x5 at *
   generalize (at' l 1).toNat = x1 at *
   go_wp2_with fail
   go_ret
   exact ⟨ret_int HF.out.symm, g1⟩

theorem spoilt_any (l : List UInt8) (at_ : Int) (v : Value) (w : World) (h : Bytes w v l) :
  Calls Try.prog 105 #[v, .int .i64 at_] w fun e w' => e = .returned (.int .i64 (spoilt l at_)) ∧ Grow w w' := by
 by_cases hl : l.length = 16
 ·rcases h with ⟨ao, cap, rfl, rfl, _⟩ | ⟨b, off, cap, rfl, h1, hc⟩
  ·simp at hl
  ·rw [show (Value.slice (some ⟨b, off, none⟩) l.length cap) = .slice (some ⟨b, off, none⟩) 16 cap from by rw [hl]]
   exact spoilt_row l at_ b off cap w hl (by omega) hc
 ·obtain ⟨ao, cap, rfl, -, -⟩ := bytes_src h
  exact spoilt_size l at_ ao cap w hl

/-- A variable of a struct type, in a block of its own. -/
def BoxP (T : TypeId) (m B : Nat) (v : Value) (w : World) : Prop := ∃ g c, v = .pointer (some ⟨g, 0, none⟩) ∧ B ≤ g ∧ w.heap[g]? = some (.cells c T (0, 0)) ∧ c.size = m
/-- Such a variable is written, or nothing is. -/
def BoxStep (T : TypeId) (w w' : World) : Prop := w' = w ∨ ∃ g c c', GrowBut g w w' ∧ w.heap[g]? = some (.cells c T (0, 0)) ∧ w'.heap[g]? = some (.cells c' T (0, 0)) ∧ c'.size = c.size
theorem heap_lt {w : World} {g : Nat} {o : Obj} (h : w.heap[g]? = some o) : g < w.heap.size := by
 rcases Nat.lt_or_ge g w.heap.size with hl | hl
 ·exact hl
 ·rw [Array.getElem?_eq_none hl] at h; cases h
theorem st_box (T : TypeId) (m B : Nat) : Stable (BoxP T m B) := by
 rintro v w w' hg ⟨g, c, h1, h2, h3, h4⟩
 exact ⟨g, c, h1, h2, (hg.block g (heap_lt h3)).trans h3, h4⟩
theorem sp_box (T : TypeId) (m B : Nat) (v : Value) (w w' : World) (hs : BoxStep T w w') (h : BoxP T m B v w) : BoxP T m B v w' := by
 rcases hs with rfl | ⟨g', c1, c2, hb, h5, h6, h7⟩
 ·exact h
 ·obtain ⟨g, c, h1, h2, h3, h4⟩ := h
  by_cases e : g = g'
  ·subst e
   rw [h5] at h3; cases h3
   exact ⟨g, c2, h1, h2, h6, by omega⟩
  ·exact ⟨g, c, h1, h2, (hb.block g (heap_lt h3) e).trans h3, h4⟩

theorem own_grow {w w' : World} {base : Nat} {e : TypeId} {size : Nat} {v : Value} {n : Nat} {xs : List Value} (h : w.ownsRow base e size v n xs) (hg : Grow w w') : w'.ownsRow base e size v n xs :=
 ⟨h.1, or_map h.2 (fun x => x) fun ⟨g, cap, cur, h1, h2, h3, r⟩ => ⟨g, cap, cur, h1, h2, (hg.block g (heap_lt h3)).trans h3, r⟩⟩
theorem own_but {g' : Nat} {w w' : World} {base : Nat} {e : TypeId} {size : Nat} {v : Value} {n : Nat} {xs : List Value} (h : w.ownsRow base e size v n xs) (hg : GrowBut g' w w') (hne : ∀ g cap, v = .slice (some ⟨g, 0, none⟩) n cap → g ≠ g') : w'.ownsRow base e size v n xs :=
 ⟨h.1, or_map h.2 (fun x => x) fun ⟨g, cap, cur, h1, h2, h3, r⟩ => ⟨g, cap, cur, h1, h2, (hg.block g (heap_lt h3) (hne g cap h1)).trans h3, r⟩⟩
theorem own_box {w w' : World} {base : Nat} {e T : TypeId} {size : Nat} {v : Value} {n : Nat} {xs : List Value} (hne : e ≠ T) (hs : BoxStep T w w') (h : w.ownsRow base e size v n xs) : w'.ownsRow base e size v n xs := by
 rcases hs with rfl | ⟨g', c1, c2, hb, h5, h6, h7⟩
 ·exact h
 ·refine ⟨h.1, or_map h.2 (fun x => x) fun ⟨g, cap, cur, h1, h2, h3, r⟩ => ⟨g, cap, cur, h1, h2, (hb.block g (heap_lt h3) ?_).trans h3, r⟩⟩
  rintro rfl
  rw [h5] at h3; cases h3; exact hne rfl

/-- A record's value, its data in a row of its own. -/
def RecP (B : Nat) (r : Rec) (v : Value) (w : World) : Prop := ∃ d, v = .agg #[.int .i64 r.kind, .int .i64 r.key, .int .i64 r.ver, d] ∧ w.ownsRow B 5 1 d r.data.length (r.data.map bv)
theorem st_rec (B : Nat) (r : Rec) : Stable (RecP B r) := by
 rintro v w w' hg ⟨d, h1, h2⟩
 exact ⟨d, h1, own_grow h2 hg⟩
theorem sp_rec (B : Nat) (r : Rec) (v : Value) (w w' : World) (hs : BoxStep 33 w w') (h : RecP B r v w) : RecP B r v w' := by
 obtain ⟨d, h1, h2⟩ := h
 exact ⟨d, h1, own_box (by decide) hs h2⟩
/-- Data in a row of its own. -/
def OwnP (B : Nat) (l : List UInt8) (v : Value) (w : World) : Prop := w.ownsRow B 5 1 v l.length (l.map bv)
theorem st_own (B : Nat) (l : List UInt8) : Stable (OwnP B l) := fun _ _ _ hg h => own_grow h hg
theorem sp_own (B : Nat) (l : List UInt8) (v : Value) (w w' : World) (hs : BoxStep 33 w w') (h : OwnP B l v w) : OwnP B l v w' := own_box (by decide) hs h

/-- The variable that v7 points to holds a record. -/
def HeldP (B : Nat) (r : Rec) (p : Value) (w : World) : Prop := ∃ g d, p = .pointer (some ⟨g, 0, none⟩) ∧ B ≤ g ∧ w.heap[g]? = some (.cells #[.int .i64 r.kind, .int .i64 r.key, .int .i64 r.ver, d] 33 (0, 0)) ∧ w.ownsRow B 5 1 d r.data.length (r.data.map bv)
theorem st_held (B : Nat) (r : Rec) (i : Nat) : StableW (pl1 i (fun _ p w => HeldP B r p w)) := by
 rintro v ds w w' hg ⟨g, d, h1, h2, h3, h4⟩
 exact ⟨g, d, h1, h2, (hg.block g (heap_lt h3)).trans h3, own_grow h4 hg⟩

set_option maxHeartbeats 1000000 in
theorem read_bad (l : List UInt8) (at_ : Int) (v : Value) (w : World) (h : Bytes w v l) (hs : spoilt l at_ ≠ 0) :
  Calls Try.prog 90 #[v, .int .i64 at_] w fun e w' => ∃ d, e = .returned (.tuple #[.agg #[.int .i64 (readR l at_).kind, .int .i64 (readR l at_).key, .int .i64 (readR l at_).ver, d], .int .i64 (readE l at_)]) ∧ w'.ownsRow w.heap.size 5 1 d (readR l at_).data.length ((readR l at_).data.map bv) ∧ Grow w w' := by
 have he : readE l at_ = spoilt l at_ := by unfold readE; rw [if_neg hs]
 have hr : readR l at_ = Rec.none := by unfold readR; rw [he, if_neg hs]
 rw [he, hr]
 clear he hr
 have d0 : (spoilt l at_ != 0) = true := by simpa using hs
 clear hs
 obtain ⟨ao, cap, rfl, -, -⟩ := bytes_src h
 go_enter Try.func90, Try.ntmps90
 go_wp2_with fail
 refine (spoilt_any l at_ _ _ (by exact bytes_grow h (grow_alloc _ _))).mono ?_
 rintro e w1 ⟨rfl, g1⟩
 obtain ⟨hc, hf⟩ := bcell g1
 have cs := cell_set
 clear h
 go_wp2_with fail
 refine bodyPost_ret (v := .tuple #[.agg #[.int .i64 0, .int .i64 0, .int .i64 0, .slice none 0 0], .int .i64 (spoilt l at_)]) (by simp [results, Try.results90, go_sem, hc, cs]) rfl ⟨_, rfl, World.ownsRow_nil _ _ _ _, ?_⟩
 exact grow_set (grow_set (grow_set (grow_set ((grow_alloc _ _).trans g1) (by simp) _) (by simp) _) (by simp) _) (by simp) _

theorem arr4 {c : Array Value} (h : c.size = 4) : ∃ x0 x1 x2 x3, c = #[x0, x1, x2, x3] := by
 obtain ⟨l⟩ := c
 match l, h with
 | [x0, x1, x2, x3], _ => exact ⟨x0, x1, x2, x3, rfl⟩

theorem heap_set {w : World} {g : Nat} {c : Array Value} {T : TypeId} {f} (h : w.heap[g]? = some (.cells c T f)) (i : Nat) (x : Value) : (w.setCell ⟨g, i, none⟩ x).heap[g]? = some (.cells (c.setIfInBounds i x) T f) := by
 simp only [World.setCell, Array.getElem?_modify, if_true, h, Option.map_some]
 rfl
/-- Four cells of a block are written. -/
theorem box_put {w : World} {g : Nat} {T : TypeId} {f} {c0 c1 c2 c3 : Value} (h : w.heap[g]? = some (.cells #[c0, c1, c2, c3] T f)) (x0 x1 x2 x3 : Value) :
  ((((w.setCell ⟨g, 0, none⟩ x0).setCell ⟨g, 1, none⟩ x1).setCell ⟨g, 2, none⟩ x2).setCell ⟨g, 3, none⟩ x3).heap[g]? = some (.cells #[x0, x1, x2, x3] T f) ∧ GrowBut g w ((((w.setCell ⟨g, 0, none⟩ x0).setCell ⟨g, 1, none⟩ x1).setCell ⟨g, 2, none⟩ x2).setCell ⟨g, 3, none⟩ x3) := by
 refine ⟨?_, ((((GrowBut.refl g w).set _ _ _).set _ _ _).set _ _ _).set _ _ _⟩
 have h1 := heap_set (heap_set (heap_set (heap_set h 0 x0) 1 x1) 2 x2) 3 x3
 simpa using h1
theorem box_cell {w : World} {g : Nat} {T : TypeId} {f} {c : Array Value} (h : w.heap[g]? = some (.cells c T f)) (i : Nat) (x : Value) (hx : c[i]? = some x) : w.cell? ⟨g, i, none⟩ = some x := by
 simp [World.cell?, h, hx]
theorem box_frozen {w : World} {g : Nat} {T : TypeId} {c : Array Value} (h : w.heap[g]? = some (.cells c T (0, 0))) (i : Nat) : w.frozen? ⟨g, i, none⟩ = false := by
 simp [World.frozen?, h]
theorem box2 {w : World} {g : Nat} {T : TypeId} {f} {c : Array Value} (h : w.heap[g]? = some (.cells c T f)) {x0 x1 : Value} (h0 : c[0]? = some x0) (h1 : c[1]? = some x1) : w.cell? ⟨g, 0, none⟩ = some x0 ∧ w.cell? ⟨g, 1, none⟩ = some x1 := ⟨box_cell h 0 _ h0, box_cell h 1 _ h1⟩
theorem box3 {w : World} {g : Nat} {T : TypeId} {f} {c : Array Value} (h : w.heap[g]? = some (.cells c T f)) {x0 x1 x2 : Value} (h0 : c[0]? = some x0) (h1 : c[1]? = some x1) (h2 : c[2]? = some x2) : w.cell? ⟨g, 0, none⟩ = some x0 ∧ w.cell? ⟨g, 1, none⟩ = some x1 ∧ w.cell? ⟨g, 2, none⟩ = some x2 := ⟨box_cell h 0 _ h0, box_cell h 1 _ h1, box_cell h 2 _ h2⟩
theorem box4 {w : World} {g : Nat} {T : TypeId} {f} {c : Array Value} (h : w.heap[g]? = some (.cells c T f)) {x0 x1 x2 x3 : Value} (h0 : c[0]? = some x0) (h1 : c[1]? = some x1) (h2 : c[2]? = some x2) (h3 : c[3]? = some x3) : w.cell? ⟨g, 0, none⟩ = some x0 ∧ w.cell? ⟨g, 1, none⟩ = some x1 ∧ w.cell? ⟨g, 2, none⟩ = some x2 ∧ w.cell? ⟨g, 3, none⟩ = some x3 := ⟨box_cell h 0 _ h0, box_cell h 1 _ h1, box_cell h 2 _ h2, box_cell h 3 _ h3⟩
theorem box5 {w : World} {g : Nat} {T : TypeId} {f} {c : Array Value} (h : w.heap[g]? = some (.cells c T f)) {x0 x1 x2 x3 x4 : Value} (h0 : c[0]? = some x0) (h1 : c[1]? = some x1) (h2 : c[2]? = some x2) (h3 : c[3]? = some x3) (h4 : c[4]? = some x4) : w.cell? ⟨g, 0, none⟩ = some x0 ∧ w.cell? ⟨g, 1, none⟩ = some x1 ∧ w.cell? ⟨g, 2, none⟩ = some x2 ∧ w.cell? ⟨g, 3, none⟩ = some x3 ∧ w.cell? ⟨g, 4, none⟩ = some x4 := ⟨box_cell h 0 _ h0, box_cell h 1 _ h1, box_cell h 2 _ h2, box_cell h 3 _ h3, box_cell h 4 _ h4⟩
theorem boxf4 {w : World} {g : Nat} {T : TypeId} {c : Array Value} (h : w.heap[g]? = some (.cells c T (0, 0))) : w.frozen? ⟨g, 0, none⟩ = false ∧ w.frozen? ⟨g, 1, none⟩ = false ∧ w.frozen? ⟨g, 2, none⟩ = false ∧ w.frozen? ⟨g, 3, none⟩ = false := ⟨box_frozen h 0, box_frozen h 1, box_frozen h 2, box_frozen h 3⟩
theorem heap_new (w : World) (c : Array Value) (T : TypeId) : (w.alloc (.cells c T)).heap[w.heap.size]? = some (.cells c T (0, 0)) := by
 show (w.heap.push _)[w.heap.size]? = _
 simp

theorem spoilt_zero {l : List UInt8} {at_ : Int} (h : spoilt l at_ = 0) : l.length = 16 ∧ sealedB l = true ∧ ((at' l 1).toNat : Int) = at_ ∧ (at' l 5).toNat ≤ 8 ∧ noughtsB (restOf l) = true := by
 unfold spoilt at h
 by_cases h1 : l.length ≠ 16
 ·rw [if_pos h1] at h; omega
 ·rw [if_neg h1] at h
  by_cases h2 : sealedB l = false
  ·rw [if_pos h2] at h; omega
  ·rw [if_neg h2] at h
   by_cases h3 : ((at' l 1).toNat : Int) ≠ at_
   ·rw [if_pos h3] at h; omega
   ·rw [if_neg h3] at h
    by_cases h4 : 8 < (at' l 5).toNat
    ·rw [if_pos h4] at h; omega
    ·rw [if_neg h4] at h
     by_cases h5 : noughtsB (restOf l) = false
     ·rw [if_pos h5] at h; omega
     ·exact ⟨by omega, by simpa using h2, by simpa using h3, by omega, by simpa using h5⟩

set_option maxHeartbeats 2000000 in
theorem read_ok (l : List UInt8) (at_ : Int) (b off cap : Nat) (w : World) (hcap : 16 ≤ cap) (hC : Cells w b off l) (hs : spoilt l at_ = 0) :
  Calls Try.prog 90 #[.slice (some ⟨b, off, none⟩) 16 cap, .int .i64 at_] w fun e w' => ∃ d, e = .returned (.tuple #[.agg #[.int .i64 (readR l at_).kind, .int .i64 (readR l at_).key, .int .i64 (readR l at_).ver, d], .int .i64 (readE l at_)]) ∧ w'.ownsRow w.heap.size 5 1 d (readR l at_).data.length ((readR l at_).data.map bv) ∧ Grow w w' := by
 obtain ⟨hl, -, -, h8, -⟩ := spoilt_zero hs
 have he : readE l at_ = wrong (recOf l) := by unfold readE; rw [if_pos hs]
 have hB : Bytes w (.slice (some ⟨b, off, none⟩) 16 cap) l := .inr ⟨b, off, cap, by rw [hl], by omega, hC⟩
 have HL : Hid (l.length = 16) := hl
 have HS : Hid (spoilt l at_ = 0) := hs
 have HE : Hid (readE l at_ = wrong (recOf l)) := he
 have HR : Hid (readR l at_ = if wrong (recOf l) = 0 then recOf l else Rec.none) := by show readR _ _ = _; unfold readR; rw [he]
 clear he hl hs
 rw [HE.out]
 go_enter Try.func90, Try.ntmps90
 go_wp2_with fail
 refine (spoilt_any l at_ _ _ (by exact bytes_grow hB (grow_alloc _ _))).mono ?_
 rw [HS.out]
 rintro e w1 ⟨rfl, g1⟩
 have gw : Grow w w1 := (grow_alloc _ _).trans g1
 have hbox : w1.heap[w.heap.size]? = some (.cells #[.int .i64 0, .int .i64 0, .int .i64 0, .slice none 0 0] 33 (0, 0)) := (g1.block _ (by simp)).trans (heap_new _ _ _)
 have hc1 := hC.grow gw
 have hd : ((l.drop 6).take (at' l 5).toNat).length = (at' l 5).toNat := by simp; have := HL.out; omega
 have k0 := hc1.at' 0 (by rw [HL.out]; omega)
 rw [Nat.add_zero] at k0
 have k2 := hc1.at' 2 (by rw [HL.out]; omega)
 have k3 := hc1.at' 3 (by rw [HL.out]; omega)
 have k4 := hc1.at' 4 (by rw [HL.out]; omega)
 have b0 : (at' l 0).toNat < 256 := UInt8.toNat_lt _
 have b2 : (at' l 2).toNat < 256 := UInt8.toNat_lt _
 clear hB hC
 go_wp2_with fail
 refine wp_region_w [pl (ex (.slice (some ⟨b, off, none⟩) 16 cap)), pl (ex (.pointer (some ⟨b, off, none⟩))), pl (ex (.int .u8 ((at' l 0).toNat : Int))), pl (ex (.int .i64 ((at' l 0).toNat : Int))), pl (ex (.slice (some ⟨b, off, none⟩) 16 cap)), pl (ex (.pointer (some ⟨b, off + 2, none⟩))), pl (ex (.int .u8 ((at' l 2).toNat : Int))), pl (ex (.int .i64 ((at' l 2).toNat : Int))), pl (ex (.slice (some ⟨b, off, none⟩) 16 cap)), pl (ex (.pointer (some ⟨b, off + 3, none⟩))), pl (ex (.int .u8 ((at' l 3).toNat : Int))), pl (ex (.slice (some ⟨b, off, none⟩) 16 cap)), pl (ex (.pointer (some ⟨b, off + 4, none⟩))), pl (ex (.int .u8 ((at' l 4).toNat : Int))), pl (ex (.int .i64 (((at' l 3).toNat : Int) * 256 + ((at' l 4).toNat : Int)))), pl (ex (.slice (some ⟨b, off, none⟩) 16 cap)), pl (ex (.slice (some ⟨b, off, none⟩) 16 cap)), pl (ex (.int .i64 (6 + ((at' l 5).toNat : Int)))), pl (ex (.slice (some ⟨b, off + 6, none⟩) (at' l 5).toNat (cap - 6))), pl (OwnP w1.heap.size ((l.drop 6).take (at' l 5).toNat)), pl (RecP w1.heap.size (recOf l)), pl (BoxP 33 4 w1.heap.size), pl1 21 ((fun _ p w => HeldP w1.heap.size (recOf l) p w))] [none, none, none, none, none, none, none, none, none, none, none, none, none, none, none, none, none, none, none, none, none, none, some ((BoxStep 33))] (fun w' => Grow w1 w') (by kernel_rfl) (by kernel_rfl) ⟨st_pl (st_ex _), st_pl (st_ex _), st_pl (st_ex _), st_pl (st_ex _), st_pl (st_ex _), st_pl (st_ex _), st_pl (st_ex _), st_pl (st_ex _), st_pl (st_ex _), st_pl (st_ex _), st_pl (st_ex _), st_pl (st_ex _), st_pl (st_ex _), st_pl (st_ex _), st_pl (st_ex _), st_pl (st_ex _), st_pl (st_ex _), st_pl (st_ex _), st_pl (st_ex _), st_pl (st_own _ _), st_pl (st_rec _ _), st_pl (st_box _ _ _), st_held _ _ _, trivial⟩ ⟨⟨(fun w => .inl rfl), ⟨.inr (fun _ _ _ _ _ h => h), .inr (fun _ _ _ _ _ h => h), .inr (fun _ _ _ _ _ h => h), .inr (fun _ _ _ _ _ h => h), .inr (fun _ _ _ _ _ h => h), .inr (fun _ _ _ _ _ h => h), .inr (fun _ _ _ _ _ h => h), .inr (fun _ _ _ _ _ h => h), .inr (fun _ _ _ _ _ h => h), .inr (fun _ _ _ _ _ h => h), .inr (fun _ _ _ _ _ h => h), .inr (fun _ _ _ _ _ h => h), .inr (fun _ _ _ _ _ h => h), .inr (fun _ _ _ _ _ h => h), .inr (fun _ _ _ _ _ h => h), .inr (fun _ _ _ _ _ h => h), .inr (fun _ _ _ _ _ h => h), .inr (fun _ _ _ _ _ h => h), .inr (fun _ _ _ _ _ h => h), .inr ((fun v _ w w' hs hq => sp_own _ _ v w w' hs hq)), .inr ((fun v _ w w' hs hq => sp_rec _ _ v w w' hs hq)), .inr ((fun v _ w w' hs hq => sp_box _ _ _ v w w' hs hq)), .inl (by kernel_rfl), trivial⟩⟩, trivial⟩ ⟨(fun h => by cases h), (fun h => by cases h), (fun h => by cases h), (fun h => by cases h), (fun h => by cases h), (fun h => by cases h), (fun h => by cases h), (fun h => by cases h), (fun h => by cases h), (fun h => by cases h), (fun h => by cases h), (fun h => by cases h), (fun h => by cases h), (fun h => by cases h), (fun h => by cases h), (fun h => by cases h), (fun h => by cases h), (fun h => by cases h), (fun h => by cases h), (fun h => by cases h), (fun h => by cases h), (fun h => by cases h), fun _ _ _ _ h => h, trivial⟩ ?_ ?_ ?_
 ·exact (Grow.refl _).drew
 ·refine ⟨?_, ?_, ?_, ?_, ?_, ?_, ?_, ?_, ?_, ?_, ?_, ?_, ?_, ?_, ?_, ?_, ?_, ?_, ?_, ?_, ?_, ?_, ?_, trivial⟩
  ·refine needw_plain rfl (fun a w' hg hin => ?_)
   have e : a.eval (.tmp 0) = .slice (some ⟨b, off, none⟩) 16 cap := insw_ext hin 0 (by kernel_rfl)
   exact uponw_move rfl hg e
  ·refine needw_plain rfl (fun a w' hg hin => ?_)
   have e16 : a.eval (.tmp 16) = _ := insw_on hin 0 (by kernel_rfl)
   refine uponw_val ?_ hg rfl
   clear hin hg
   obtain ⟨ek, ef⟩ := evs a
   generalize a.eval = ev at *
   go_simp
   all_goals first | omega | (intro _; omega) | go_arith
  ·refine needw_plain rfl (fun a w' hg hin => ?_)
   have e17 : a.eval (.tmp 17) = _ := insw_on hin 1 (by kernel_rfl)
   have h1 := (Below.cell hg (cell_lt k0)).trans k0
   refine uponw_val ?_ hg rfl
   clear hin hg
   obtain ⟨ek, ef⟩ := evs a
   generalize a.eval = ev at *
   go_simp
   all_goals first | omega | (intro _; omega) | go_arith
  ·refine needw_plain rfl (fun a w' hg hin => ?_)
   have e18 : a.eval (.tmp 18) = _ := insw_on hin 2 (by kernel_rfl)
   refine uponw_val ?_ hg rfl
   clear hin hg
   obtain ⟨ek, ef⟩ := evs a
   generalize a.eval = ev at *
   go_simp
   all_goals first | omega | (intro _; omega) | go_arith
  ·refine needw_plain rfl (fun a w' hg hin => ?_)
   have e : a.eval (.tmp 0) = .slice (some ⟨b, off, none⟩) 16 cap := insw_ext hin 0 (by kernel_rfl)
   exact uponw_move rfl hg e
  ·refine needw_plain rfl (fun a w' hg hin => ?_)
   have e20 : a.eval (.tmp 20) = _ := insw_on hin 4 (by kernel_rfl)
   refine uponw_val ?_ hg rfl
   clear hin hg
   obtain ⟨ek, ef⟩ := evs a
   generalize a.eval = ev at *
   go_simp
   all_goals first | omega | (intro _; omega) | go_arith
  ·refine needw_plain rfl (fun a w' hg hin => ?_)
   have e21 : a.eval (.tmp 21) = _ := insw_on hin 5 (by kernel_rfl)
   have h1 := (Below.cell hg (cell_lt k2)).trans k2
   refine uponw_val ?_ hg rfl
   clear hin hg
   obtain ⟨ek, ef⟩ := evs a
   generalize a.eval = ev at *
   go_simp
   all_goals first | omega | (intro _; omega) | go_arith
  ·refine needw_plain rfl (fun a w' hg hin => ?_)
   have e22 : a.eval (.tmp 22) = _ := insw_on hin 6 (by kernel_rfl)
   refine uponw_val ?_ hg rfl
   clear hin hg
   obtain ⟨ek, ef⟩ := evs a
   generalize a.eval = ev at *
   go_simp
   all_goals first | omega | (intro _; omega) | go_arith
  ·refine needw_plain rfl (fun a w' hg hin => ?_)
   have e : a.eval (.tmp 0) = .slice (some ⟨b, off, none⟩) 16 cap := insw_ext hin 0 (by kernel_rfl)
   exact uponw_move rfl hg e
  ·refine needw_plain rfl (fun a w' hg hin => ?_)
   have e24 : a.eval (.tmp 24) = _ := insw_on hin 8 (by kernel_rfl)
   refine uponw_val ?_ hg rfl
   clear hin hg
   obtain ⟨ek, ef⟩ := evs a
   generalize a.eval = ev at *
   go_simp
   all_goals first | omega | (intro _; omega) | go_arith
  ·refine needw_plain rfl (fun a w' hg hin => ?_)
   have e25 : a.eval (.tmp 25) = _ := insw_on hin 9 (by kernel_rfl)
   have h1 := (Below.cell hg (cell_lt k3)).trans k3
   refine uponw_val ?_ hg rfl
   clear hin hg
   obtain ⟨ek, ef⟩ := evs a
   generalize a.eval = ev at *
   go_simp
   all_goals first | omega | (intro _; omega) | go_arith
  ·refine needw_plain rfl (fun a w' hg hin => ?_)
   have e : a.eval (.tmp 0) = .slice (some ⟨b, off, none⟩) 16 cap := insw_ext hin 0 (by kernel_rfl)
   exact uponw_move rfl hg e
  ·refine needw_plain rfl (fun a w' hg hin => ?_)
   have e27 : a.eval (.tmp 27) = _ := insw_on hin 11 (by kernel_rfl)
   refine uponw_val ?_ hg rfl
   clear hin hg
   obtain ⟨ek, ef⟩ := evs a
   generalize a.eval = ev at *
   go_simp
   all_goals first | omega | (intro _; omega) | go_arith
  ·refine needw_plain rfl (fun a w' hg hin => ?_)
   have e28 : a.eval (.tmp 28) = _ := insw_on hin 12 (by kernel_rfl)
   have h1 := (Below.cell hg (cell_lt k4)).trans k4
   refine uponw_val ?_ hg rfl
   clear hin hg
   obtain ⟨ek, ef⟩ := evs a
   generalize a.eval = ev at *
   go_simp
   all_goals first | omega | (intro _; omega) | go_arith
  ·refine needw_plain rfl (fun a w' hg hin => ?_)
   have e26 : a.eval (.tmp 26) = _ := insw_on hin 10 (by kernel_rfl)
   have e29 : a.eval (.tmp 29) = _ := insw_on hin 13 (by kernel_rfl)
   refine uponw_call (f := 106) (args := #[.int .u8 ((at' l 3).toNat : Int), .int .u8 ((at' l 4).toNat : Int)]) ?_ ((number_any _ _ w').mono ?_)
   ·clear hin hg
    obtain ⟨ek, ef⟩ := evs a
    generalize a.eval = ev at *
    go_simp
    all_goals first | omega | (intro _; omega) | go_arith
   ·rintro e w2 ⟨rfl, rfl⟩
    exact ⟨_, rfl, Grow.refl _, hg, rfl⟩
  ·refine needw_plain rfl (fun a w' hg hin => ?_)
   have e : a.eval (.tmp 0) = .slice (some ⟨b, off, none⟩) 16 cap := insw_ext hin 0 (by kernel_rfl)
   exact uponw_move rfl hg e
  ·refine needw_plain rfl (fun a w' hg hin => ?_)
   have e : a.eval (.tmp 0) = .slice (some ⟨b, off, none⟩) 16 cap := insw_ext hin 0 (by kernel_rfl)
   exact uponw_move rfl hg e
  ·refine needw_plain rfl (fun a w' hg hin => ?_)
   have e32 : a.eval (.tmp 32) = _ := insw_on hin 16 (by kernel_rfl)
   refine uponw_call (f := 107) (args := #[.slice (some ⟨b, off, none⟩) 16 cap]) ?_ ((dataEnd_any l b off cap w' HL.out (hc1.grow hg)).mono ?_)
   ·clear hin hg
    obtain ⟨ek, ef⟩ := evs a
    generalize a.eval = ev at *
    go_simp
    all_goals first | omega | (intro _; omega) | go_arith
   ·rintro e w2 ⟨rfl, rfl⟩
    exact ⟨_, rfl, Grow.refl _, hg, rfl⟩
  ·refine needw_plain rfl (fun a w' hg hin => ?_)
   have e31 : a.eval (.tmp 31) = _ := insw_on hin 15 (by kernel_rfl)
   have e33 : a.eval (.tmp 33) = _ := insw_on hin 17 (by kernel_rfl)
   refine uponw_val ?_ hg rfl
   clear hin hg hd hc1 k0 k2 k3 k4 b0 b2 HL HS HE HR gw hbox
   generalize (at' l 5).toNat = x at *
   obtain ⟨ek, ef⟩ := evs a
   generalize a.eval = ev at *
   go_simp
   rw [if_pos (by omega), if_pos (by omega), if_neg (by omega), show (6 + (x : Int)).toNat - 6 = x from by omega]
  ·refine needw_plain rfl (fun a w' hg hin => ?_)
   have e34 : a.eval (.tmp 34) = _ := insw_on hin 18 (by kernel_rfl)
   have hsrc := (hc1.grow hg).sub 6 (at' l 5).toNat (cap - 6) (by rw [HL.out]; omega) (by omega)
   refine uponw_call (f := 82) (args := #[.slice (some ⟨b, off + 6, none⟩) (at' l 5).toNat (cap - 6)]) ?_ ((clone_any _ _ w' (by rw [hd]; omega) hsrc).mono ?_)
   ·clear hin hg hsrc
    obtain ⟨ek, ef⟩ := evs a
    generalize a.eval = ev at *
    go_simp
    all_goals first | omega | (intro _; omega) | go_arith
   ·rintro e w2 ⟨v', rfl, ho, g2⟩
    exact ⟨_, rfl, g2, hg.trans g2, own_mono ho hg.size⟩
  ·refine needw_plain rfl (fun a w' hg hin => ?_)
   have e19 : a.eval (.tmp 19) = _ := insw_on hin 3 (by kernel_rfl)
   have e23 : a.eval (.tmp 23) = _ := insw_on hin 7 (by kernel_rfl)
   have e30 : a.eval (.tmp 30) = _ := insw_on hin 14 (by kernel_rfl)
   have e35 : (OwnP w1.heap.size ((l.drop 6).take (at' l 5).toNat)) (a.eval (.tmp 35)) w' := insw_on hin 19 (by kernel_rfl)
   obtain ⟨ao', cp', hv35⟩ := own_slice e35
   refine uponw_val (v := .agg #[.int .i64 ((at' l 0).toNat : Int), .int .i64 ((at' l 2).toNat : Int), .int .i64 (((at' l 3).toNat : Int) * 256 + ((at' l 4).toNat : Int)), a.eval (.tmp 35)]) ?_ hg ⟨_, rfl, e35⟩
   clear hin hg e35
   obtain ⟨ek, ef⟩ := evs a
   generalize a.eval = ev at *
   go_simp
   all_goals first | omega | (intro _; omega) | go_arith
  ·refine needw_plain rfl (fun a w' hg hin => ?_)
   refine uponw_step (v := .pointer (some ⟨w'.heap.size, 0, none⟩)) (w' := w'.alloc (.cells #[.int .i64 0, .int .i64 0, .int .i64 0, .slice none 0 0] 33)) ?_ (grow_alloc _ _) (hg.trans (grow_alloc _ _)) ⟨_, _, rfl, hg.size, heap_new _ _ _, rfl⟩
   clear hin hg
   obtain ⟨ek, ef⟩ := evs a
   generalize a.eval = ev at *
   go_simp
   all_goals first | omega | (intro _; omega) | go_arith
  ·refine needw_plain rfl (fun a w' hg hin => ?_)
   have e7 : (BoxP 33 4 w1.heap.size) (a.eval (.tmp 7)) w' := insw_on hin 21 (by kernel_rfl)
   have e36 : (RecP w1.heap.size (recOf l)) (a.eval (.tmp 36)) w' := insw_on hin 20 (by kernel_rfl)
   obtain ⟨g, c, h7, hgB, hh, hsz⟩ := e7
   obtain ⟨d, h36, hown⟩ := e36
   obtain ⟨ao', cp', rfl⟩ := own_slice hown
   obtain ⟨x0, x1, x2, x3, rfl⟩ := arr4 hsz
   obtain ⟨hp1, hp2⟩ := box_put hh (.int .i64 (recOf l).kind) (.int .i64 (recOf l).key) (.int .i64 (recOf l).ver) (.slice ao' (recOf l).data.length cp')
   have hstep : BoxStep 33 w' _ := .inr ⟨g, _, _, hp2, hh, hp1, rfl⟩
   refine uponw_skip (w' := _) ?_ hstep (grow_set (grow_set (grow_set (grow_set hg (by exact hgB) _) (by exact hgB) _) (by exact hgB) _) (by exact hgB) _) ⟨g, _, h7, hgB, hp1, own_box (by decide) hstep hown⟩
   have y0 := box_cell hh 0 x0 rfl
   have y1 := box_cell hh 1 x1 rfl
   have y2 := box_cell hh 2 x2 rfl
   have y3 := box_cell hh 3 x3 rfl
   obtain ⟨f0, f1, f2, f3⟩ := boxf4 hh
   have cs := cell_set
   clear hin hg hp1 hp2 hstep hown hh
   generalize recOf l = rr at *
   obtain ⟨ek, ef⟩ := evs a
   generalize a.eval = ev at *
   go_simp
   all_goals first | omega | (intro _; omega) | go_arith
 ·intro vs w' hg ht
  obtain ⟨q16, q17, q18, q19, q20, q21, q22, q23, q24, q25, q26, q27, q28, q29, q30, q31, q32, q33, q34, q35, q36, q7, qo22, -⟩ := ht
  have r16 : vs 0 = .slice (some ⟨b, off, none⟩) 16 cap := q16
  have r17 : vs 1 = .pointer (some ⟨b, off, none⟩) := q17
  have r18 : vs 2 = .int .u8 ((at' l 0).toNat : Int) := q18
  have r19 : vs 3 = .int .i64 ((at' l 0).toNat : Int) := q19
  have r20 : vs 4 = .slice (some ⟨b, off, none⟩) 16 cap := q20
  have r21 : vs 5 = .pointer (some ⟨b, off + 2, none⟩) := q21
  have r22 : vs 6 = .int .u8 ((at' l 2).toNat : Int) := q22
  have r23 : vs 7 = .int .i64 ((at' l 2).toNat : Int) := q23
  have r24 : vs 8 = .slice (some ⟨b, off, none⟩) 16 cap := q24
  have r25 : vs 9 = .pointer (some ⟨b, off + 3, none⟩) := q25
  have r26 : vs 10 = .int .u8 ((at' l 3).toNat : Int) := q26
  have r27 : vs 11 = .slice (some ⟨b, off, none⟩) 16 cap := q27
  have r28 : vs 12 = .pointer (some ⟨b, off + 4, none⟩) := q28
  have r29 : vs 13 = .int .u8 ((at' l 4).toNat : Int) := q29
  have r30 : vs 14 = .int .i64 (((at' l 3).toNat : Int) * 256 + ((at' l 4).toNat : Int)) := q30
  have r31 : vs 15 = .slice (some ⟨b, off, none⟩) 16 cap := q31
  have r32 : vs 16 = .slice (some ⟨b, off, none⟩) 16 cap := q32
  have r33 : vs 17 = .int .i64 (6 + ((at' l 5).toNat : Int)) := q33
  have r34 : vs 18 = .slice (some ⟨b, off + 6, none⟩) (at' l 5).toNat (cap - 6) := q34
  replace q35 : (OwnP w1.heap.size ((l.drop 6).take (at' l 5).toNat)) (vs 19) w' := q35
  replace q36 : (RecP w1.heap.size (recOf l)) (vs 20) w' := q36
  replace q7 : (BoxP 33 4 w1.heap.size) (vs 21) w' := q7
  replace qo22 : ((fun _ p w => HeldP w1.heap.size (recOf l) p w)) (vs 22) (vs 21) w' := qo22
  clear q16 q17 q18 q19 q20 q21 q22 q23 q24 q25 q26 q27 q28 q29 q30 q31 q32 q33 q34
  simp only [putAll, Act.put, List.setIfInBounds_toArray, List.set_cons_zero, List.set_cons_succ, Nat.reduceAdd, r16, r17, r18, r19, r20, r21, r22, r23, r24, r25, r26, r27, r28, r29, r30, r31, r32, r33, r34]
  clear r16 r17 r18 r19 r20 r21 r22 r23 r24 r25 r26 r27 r28 r29 r30 r31 r32 r33 r34
  obtain ⟨g, d, h7, hgB, hh, hown⟩ := qo22
  rw [h7]
  obtain ⟨ao', cp', rfl⟩ := own_slice hown
  have hz : w.heap.size < g := by have := g1.size; simp at this; omega
  have hbox' := (hg.block _ (heap_lt hbox)).trans hbox
  have gw' := gw.trans hg
  have hbs : w.heap.size < w1.heap.size := by have := g1.size; simp at this; omega
  clear q35 q36 q7 hg hbox gw g1 k0 k2 k3 k4 b0 b2 hc1 hd h7
  generalize vs 19 = u19
  generalize vs 20 = u20
  obtain ⟨y0, y1, y2, y3⟩ := box4 hh rfl rfl rfl rfl
  go_wp2_with fail
  refine (wrong_any _ _ _ (recOf l).data _ _ (bytes_own hown)).mono ?_
  rintro e w2 ⟨rfl, g2⟩
  have hh2 := (g2.block _ (heap_lt hh)).trans hh
  have hb2 := (g2.block _ (heap_lt hbox')).trans hbox'
  have hown2 := own_grow hown g2
  have gw2 := gw'.trans g2
  clear y0 y1 y2 y3 hown gw' hbox' hh
  obtain ⟨y0, y1, y2, y3⟩ := box4 hh2 rfl rfl rfl rfl
  obtain ⟨z0, z1, z2, z3⟩ := box4 hb2 rfl rfl rfl rfl
  obtain ⟨f0, f1, f2, f3⟩ := boxf4 hb2
  have cs := cell_set
  by_cases hw0 : wrong (recOf l) = 0
  ·have HQ : Hid (readR l at_ = recOf l) := by show readR _ _ = _; rw [HR.out, if_pos hw0]
   have HW : Hid (wrong (recOf l) = 0) := hw0
   have d0 : (wrong (recOf l) != 0) = false := by rw [hw0]; rfl
   clear hw0 HR HE HS
   go_wp2_with fail
   refine bodyPost_ret (v := .tuple #[.agg #[.int .i64 (recOf l).kind, .int .i64 (recOf l).key, .int .i64 (recOf l).ver, .slice ao' (recOf l).data.length cp'], .int .i64 0]) (by simp [results, Try.results90, go_sem, z0, z1, z2, z3, cs]) rfl ⟨.slice ao' (recOf l).data.length cp', ?_, ?_, ?_⟩
   ·rw [HQ.out, HW.out]
   ·rw [HQ.out]
    exact own_mono (own_set (own_set (own_set (own_set hown2 (by exact hbs) _) (by exact hbs) _) (by exact hbs) _) (by exact hbs) _) (Nat.le_of_lt hbs)
   ·exact grow_set (grow_set (grow_set (grow_set gw2 (by simp) _) (by simp) _) (by simp) _) (by simp) _
  ·have HQ : Hid (readR l at_ = Rec.none) := by show readR _ _ = _; rw [HR.out, if_neg hw0]
   have d0 : (wrong (recOf l) != 0) = true := by simpa using hw0
   clear hw0 HR HE HS y0 y1 y2 y3
   go_wp2_with fail
   refine bodyPost_ret (v := .tuple #[.agg #[.int .i64 0, .int .i64 0, .int .i64 0, .slice none 0 0], .int .i64 (wrong (recOf l))]) (by simp [results, Try.results90, go_sem, z0, z1, z2, z3, cs]) rfl ⟨.slice none 0 0, ?_, ?_, ?_⟩
   ·rw [HQ.out]; rfl
   ·rw [HQ.out]
    exact World.ownsRow_nil _ _ _ _
   ·exact grow_set (grow_set (grow_set (grow_set gw2 (by simp) _) (by simp) _) (by simp) _) (by simp) _

theorem read_any (l : List UInt8) (at_ : Int) (v : Value) (w : World) (h : Bytes w v l) :
  Calls Try.prog 90 #[v, .int .i64 at_] w fun e w' => ∃ d, e = .returned (.tuple #[.agg #[.int .i64 (readR l at_).kind, .int .i64 (readR l at_).key, .int .i64 (readR l at_).ver, d], .int .i64 (readE l at_)]) ∧ w'.ownsRow w.heap.size 5 1 d (readR l at_).data.length ((readR l at_).data.map bv) ∧ Grow w w' := by
 by_cases hs : spoilt l at_ = 0
 ·have hl := (spoilt_zero hs).1
  rcases h with ⟨ao, cap, rfl, rfl, _⟩ | ⟨b, off, cap, rfl, h1, hc⟩
  ·simp at hl
  ·rw [show (Value.slice (some ⟨b, off, none⟩) l.length cap) = .slice (some ⟨b, off, none⟩) 16 cap from by rw [hl]]
   exact read_ok l at_ b off cap w (by omega) hc hs
 ·exact read_bad l at_ v w h hs
end Go.Proofs.Ytgaecpdokgklpab
