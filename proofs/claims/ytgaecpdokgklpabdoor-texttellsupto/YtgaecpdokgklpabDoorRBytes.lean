/-
  What the document's Bytes makes of a right record at a place: the block that tells it.
  Condition: the record's data lie in memory.
-/
import Derived.Test.YtgaecpdokgklpabDoorBBytes
namespace Go.Proofs.YtgaecpdokgklpabDoor
set_option maxRecDepth 100000
open Go.RowKit
open Go.Proofs.YtgaecpdokgklpabDoor.Plain Go.Proofs.YtgaecpdokgklpabDoor.Reg

theorem bv_hi (n : Int) (h0 : 0 ≤ n) (h1 : n < 65536) : bv (hi n) = .int .u8 (n / 256) := by unfold bv; rw [hi_val]; exact val_int (by omega)
theorem bv_rem (n : Int) : bv (lo n) = .int .u8 (n % 256) := by unfold bv; rw [lo_val]

/-- One cell of row g is written so, or nothing is. -/
def StoreAt (g i : Nat) (c : UInt8) (w w' : World) : Prop := w' = w ∨ w' = w.setCell ⟨g, i, none⟩ (bv c)
theorem storeAt_keep {g i j : Nat} {c : UInt8} {x : Value} {w w' : World} (hij : i ≠ j) (h : StoreAt g j c w w') (hq : w.cell? ⟨g, i, none⟩ = some x) : w'.cell? ⟨g, i, none⟩ = some x := by
 rcases h with rfl | rfl
 ·exact hq
 ·rw [World.cell?_setCell_other _ _ _ _ (by intro e; cases e; exact hij rfl)]; exact hq
theorem st_at (g i : Nat) (x : Value) : Stable (fun _ w => w.cell? ⟨g, i, none⟩ = some x) := fun _ _ _ hg h => (Below.cell hg (cell_lt h)).trans h
theorem cell_put {w : World} {a : Addr} {x u : Value} (h : w.cell? a = some u) : (w.setCell a x).cell? a = some x := World.cell?_setCell_same w a x h

/-- Row g, each byte as it was at first or as it is to be, all else as it was. -/
def Part (g : Nat) (W : World) (xs ys : List UInt8) (w : World) : Prop := GrowBut g W w ∧ ∃ zs, RowB w g zs ∧ zs.length = xs.length ∧ ∀ i : Nat, zs[i]? = xs[i]? ∨ zs[i]? = ys[i]?
theorem Part.start {g : Nat} {W : World} {xs ys : List UInt8} (h : RowB W g xs) : Part g W xs ys W.drew := ⟨(GrowBut.refl _ _).drew, xs, h, rfl, fun _ => .inl rfl⟩
theorem Part.grow {g : Nat} {W w w' : World} {xs ys : List UInt8} (h : Part g W xs ys w) (hg : Grow w w') : Part g W xs ys w' :=
 ⟨h.1.trans (GrowBut.of hg), by obtain ⟨zs, h1, h2⟩ := h.2; exact ⟨zs, h1.grow hg, h2⟩⟩
theorem Part.store {g : Nat} {W w : World} {xs ys : List UInt8} (h : Part g W xs ys w) (i : Nat) {c : UInt8} (hi : i < xs.length) (hc : ys[i]? = some c) :
  (∃ u : Int, w.cell? ⟨g, i, none⟩ = some (.int .u8 u)) ∧ w.frozen? ⟨g, i, none⟩ = false ∧ Part g W xs ys (w.setCell ⟨g, i, none⟩ (bv c)) := by
 obtain ⟨zs, h1, h2, h3⟩ := h.2
 refine ⟨⟨_, h1.cell i (by omega)⟩, h1.frozen i, h.1.set _ _ _, zs.set i c, h1.set i c, by simp [h2], fun j => ?_⟩
 by_cases hj : i = j
 ·subst hj
  right
  rw [List.getElem?_set_self (by omega), hc]
 ·rw [List.getElem?_set_ne hj]
  exact h3 j
theorem Part.done {g : Nat} {W w : World} {xs ys : List UInt8} (h : Part g W xs ys w) (hl : ys.length = xs.length) (hd : ∀ (i : Nat) (hi : i < ys.length), xs[i]? ≠ ys[i]? → w.cell? ⟨g, i, none⟩ = some (bv ys[i])) : RowB w g ys := by
 obtain ⟨_, zs, h1, h2, h3⟩ := h
 have e : zs = ys := by
  refine List.ext_getElem? (fun i => ?_)
  by_cases hi : i < ys.length
  ·by_cases hx : xs[i]? = ys[i]?
   ·rcases h3 i with h | h
    ·rw [h, hx]
    ·exact h
   ·have h4 := hd i hi hx
    rw [h1.cell i (by omega)] at h4
    have h5 : zs[i].toNat = ys[i].toNat := by
     have h6 : (zs[i].toNat : Int) = (ys[i].toNat : Int) := by simpa [bv] using h4
     omega
    rw [List.getElem?_eq_getElem (by omega), List.getElem?_eq_getElem hi, UInt8.toNat_inj.1 h5]
  ·rw [List.getElem?_eq_none (by omega), List.getElem?_eq_none (by omega)]
 rw [← e]; exact h1

/-- A block's head. -/
def head (k y n at_ : Int) (l : List UInt8) : List UInt8 := [lo k, lo at_, lo y, hi n, lo n, lo (l.length : Int)] ++ List.replicate 8 0

/-- A block's bytes, the first j of the data laid. -/
def rowTo (k y n at_ : Int) (l : List UInt8) (j : Nat) : List UInt8 := [lo k, lo at_, lo y, hi n, lo n, lo (l.length : Int)] ++ (l.take j ++ List.replicate (8 - j) 0)
theorem rowTo_zero (k y n at_ : Int) (l : List UInt8) : rowTo k y n at_ l 0 = head k y n at_ l := rfl
theorem rowTo_last (k y n at_ : Int) (l : List UInt8) : rowTo k y n at_ l l.length = body ⟨k, y, n, l⟩ at_ := by simp [rowTo, body]
theorem rowTo_length (k y n at_ : Int) (l : List UInt8) (j : Nat) (hj : j ≤ l.length) (hl : l.length ≤ 8) : (rowTo k y n at_ l j).length = 14 := by simp [rowTo]; omega
theorem rowTo_succ (k y n at_ : Int) (l : List UInt8) (j : Nat) (hj : j < l.length) (hl : l.length ≤ 8) : (rowTo k y n at_ l j).set (6 + j) l[j] = rowTo k y n at_ l (j + 1) := by
 unfold rowTo
 have e : 8 - j = (8 - (j + 1)) + 1 := by omega
 have e2 : 6 + j - [lo k, lo at_, lo y, hi n, lo n, lo (l.length : Int)].length - (l.take j).length = 0 := by simp; omega
 rw [List.take_succ_eq_append_getElem hj, List.set_append_right _ _ (by simp), List.set_append_right _ _ (by simp; omega), e2, e, List.replicate_succ, List.set_cons_zero, List.append_assoc (l.take j)]
 rfl

end Go.Proofs.YtgaecpdokgklpabDoor
