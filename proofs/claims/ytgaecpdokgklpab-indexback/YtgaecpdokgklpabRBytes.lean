/-
  What the document's Bytes makes of a right record at a place: the block that tells it.
  Condition: the record's data lie in memory.
-/
import Derived.Test.YtgaecpdokgklpabBBytes
namespace Go.Proofs.Ytgaecpdokgklpab
set_option maxRecDepth 100000
open Go.RowKit
open Go.Proofs.Ytgaecpdokgklpab.Plain Go.Proofs.Ytgaecpdokgklpab.Reg

theorem bv_hi (n : Int) (h0 : 0 ≤ n) (h1 : n < 65536) : bv (hi n) = .int .u8 (n / 256) := by unfold bv; rw [hi_val]; exact val_int (by omega)
theorem bv_rem (n : Int) : bv (lo n) = .int .u8 (n % 256) := by unfold bv; rw [lo_val]

/-- One cell of row g is written so, or nothing is. -/
def StoreAt (g i : Nat) (c : UInt8) (w w' : World) : Prop := w' = w ∨ w' = w.setCell ⟨g, i, none⟩ (bv c)
theorem storeAt_keep {g i j : Nat} {c : UInt8} {x : Value} {w w' : World} (hij : i ≠ j) (h : StoreAt g j c w w') (hq : w.cell? ⟨g, i, none⟩ = some x) : w'.cell? ⟨g, i, none⟩ = some x := by
 rcases h with rfl | rfl
 ·exact hq
 ·rw [World.cell?_setCell_other _ _ _ _ (by intro e; cases e; exact hij rfl)]; exact hq
theorem st_at (g i : Nat) (x : Value) : Stable (fun _ w => w.cell? ⟨g, i, none⟩ = some x) := fun _ _ _ hg h => (Below.cell hg (cell_lt h)).trans h
theorem cell_put {w : World} {a : Addr} {x u : Value} (h : w.cell? a = some u) : (w.setCell a x).cell? a = some x := World.cell?_setCell_same w a x h

/-- Row g, each byte as it was at first or as it is to be, all else as it was. -/
def Part (g : Nat) (W : World) (xs ys : List UInt8) (w : World) : Prop := GrowBut g W w ∧ ∃ zs, RowB w g zs ∧ zs.length = xs.length ∧ ∀ i : Nat, zs[i]? = xs[i]? ∨ zs[i]? = ys[i]?
theorem Part.start {g : Nat} {W : World} {xs ys : List UInt8} (h : RowB W g xs) : Part g W xs ys W.drew := ⟨(GrowBut.refl _ _).drew, xs, h, rfl, fun _ => .inl rfl⟩
theorem Part.grow {g : Nat} {W w w' : World} {xs ys : List UInt8} (h : Part g W xs ys w) (hg : Grow w w') : Part g W xs ys w' :=
 ⟨h.1.trans (GrowBut.of hg), by obtain ⟨zs, h1, h2⟩ := h.2; exact ⟨zs, h1.grow hg, h2⟩⟩
theorem Part.store {g : Nat} {W w : World} {xs ys : List UInt8} (h : Part g W xs ys w) (i : Nat) {c : UInt8} (hi : i < xs.length) (hc : ys[i]? = some c) :
  (∃ u : Int, w.cell? ⟨g, i, none⟩ = some (.int .u8 u)) ∧ w.frozen? ⟨g, i, none⟩ = false ∧ Part g W xs ys (w.setCell ⟨g, i, none⟩ (bv c)) := by
 obtain ⟨zs, h1, h2, h3⟩ := h.2
 refine ⟨⟨_, h1.cell i (by omega)⟩, h1.frozen i, h.1.set _ _ _, zs.set i c, h1.set i c, by simp [h2], fun j => ?_⟩
 by_cases hj : i = j
 ·subst hj
  right
  rw [List.getElem?_set_self (by omega), hc]
 ·rw [List.getElem?_set_ne hj]
  exact h3 j
theorem Part.done {g : Nat} {W w : World} {xs ys : List UInt8} (h : Part g W xs ys w) (hl : ys.length = xs.length) (hd : ∀ (i : Nat) (hi : i < ys.length), xs[i]? ≠ ys[i]? → w.cell? ⟨g, i, none⟩ = some (bv ys[i])) : RowB w g ys := by
 obtain ⟨_, zs, h1, h2, h3⟩ := h
 have e : zs = ys := by
  refine List.ext_getElem? (fun i => ?_)
  by_cases hi : i < ys.length
  ·by_cases hx : xs[i]? = ys[i]?
   ·rcases h3 i with h | h
    ·rw [h, hx]
    ·exact h
   ·have h4 := hd i hi hx
    rw [h1.cell i (by omega)] at h4
    have h5 : zs[i].toNat = ys[i].toNat := by
     have h6 : (zs[i].toNat : Int) = (ys[i].toNat : Int) := by simpa [bv] using h4
     omega
    rw [List.getElem?_eq_getElem (by omega), List.getElem?_eq_getElem hi, UInt8.toNat_inj.1 h5]
  ·rw [List.getElem?_eq_none (by omega), List.getElem?_eq_none (by omega)]
 rw [← e]; exact h1

/-- A block's head. -/
def head (k y n at_ : Int) (l : List UInt8) : List UInt8 := [lo k, lo at_, lo y, hi n, lo n, lo (l.length : Int)] ++ List.replicate 8 0

/-- A block's bytes, the first j of the data laid. -/
def rowTo (k y n at_ : Int) (l : List UInt8) (j : Nat) : List UInt8 := [lo k, lo at_, lo y, hi n, lo n, lo (l.length : Int)] ++ (l.take j ++ List.replicate (8 - j) 0)
theorem rowTo_zero (k y n at_ : Int) (l : List UInt8) : rowTo k y n at_ l 0 = head k y n at_ l := rfl
theorem rowTo_last (k y n at_ : Int) (l : List UInt8) : rowTo k y n at_ l l.length = body ⟨k, y, n, l⟩ at_ := by simp [rowTo, body]
theorem rowTo_length (k y n at_ : Int) (l : List UInt8) (j : Nat) (hj : j ≤ l.length) (hl : l.length ≤ 8) : (rowTo k y n at_ l j).length = 14 := by simp [rowTo]; omega
theorem rowTo_succ (k y n at_ : Int) (l : List UInt8) (j : Nat) (hj : j < l.length) (hl : l.length ≤ 8) : (rowTo k y n at_ l j).set (6 + j) l[j] = rowTo k y n at_ l (j + 1) := by
 unfold rowTo
 have e : 8 - j = (8 - (j + 1)) + 1 := by omega
 have e2 : 6 + j - [lo k, lo at_, lo y, hi n, lo n, lo (l.length : Int)].length - (l.take j).length = 0 := by simp; omega
 rw [List.take_succ_eq_append_getElem hj, List.set_append_right _ _ (by simp), List.set_append_right _ _ (by simp; omega), e2, e, List.replicate_succ, List.set_cons_zero, List.append_assoc (l.take j)]
 rfl

set_option maxHeartbeats 1000000 in
theorem rbytes_ok (k y n at_ : Int) (l : List UInt8) (v : Value) (w : World) (hv : Bytes w v l) (hr : wrong ⟨k, y, n, l⟩ = 0) (h0 : 0 ≤ at_) (h1 : at_ ≤ 255) :
  Calls Try.prog 66 #[.agg #[.int .i64 k, .int .i64 y, .int .i64 n, v], .int .i64 at_] w fun e w' => ∃ v', e = .returned v' ∧ w'.ownsRow w.heap.size 5 1 v' 16 ((blk ⟨k, y, n, l⟩ at_).map bv) ∧ Grow w w' := by
 obtain ⟨hk0, hk1, hy0, hy1, hn0, hn1, hl⟩ := right_bd hr
 clear hr
 simp only at hk0 hk1 hy0 hy1 hn0 hn1 hl
 obtain ⟨ao, cap, rfl, hnone, hcells⟩ := bytes_src hv
 have mk := make14
 go_enter Try.func66, Try.ntmps66
 go_wp2_with fail
 clear mk
 have hrow := RowB.alloc (w.alloc (.cells #[.int .i64 k, .int .i64 y, .int .i64 n, .slice ao l.length cap] 33)) (List.replicate 14 0)
 have eR : ((List.replicate 14 (0 : UInt8)).map bv).toArray = #[.int .u8 0, .int .u8 0, .int .u8 0, .int .u8 0, .int .u8 0, .int .u8 0, .int .u8 0, .int .u8 0, .int .u8 0, .int .u8 0, .int .u8 0, .int .u8 0, .int .u8 0, .int .u8 0] := by kernel_rfl
 rw [eR] at hrow
 clear eR
 have c0 : ((w.alloc (.cells #[.int .i64 k, .int .i64 y, .int .i64 n, .slice ao l.length cap] 33)).alloc (.cells #[.int .u8 0, .int .u8 0, .int .u8 0, .int .u8 0, .int .u8 0, .int .u8 0, .int .u8 0, .int .u8 0, .int .u8 0, .int .u8 0, .int .u8 0, .int .u8 0, .int .u8 0, .int .u8 0] 5)).cell? ⟨w.heap.size, 0, none⟩ = some (.int .i64 k) := by
  rw [World.cell?_alloc_past _ _ _ (by simp)]; simp
 have c1 : ((w.alloc (.cells #[.int .i64 k, .int .i64 y, .int .i64 n, .slice ao l.length cap] 33)).alloc (.cells #[.int .u8 0, .int .u8 0, .int .u8 0, .int .u8 0, .int .u8 0, .int .u8 0, .int .u8 0, .int .u8 0, .int .u8 0, .int .u8 0, .int .u8 0, .int .u8 0, .int .u8 0, .int .u8 0] 5)).cell? ⟨w.heap.size, 1, none⟩ = some (.int .i64 y) := by
  rw [World.cell?_alloc_past _ _ _ (by simp)]; simp
 have c2 : ((w.alloc (.cells #[.int .i64 k, .int .i64 y, .int .i64 n, .slice ao l.length cap] 33)).alloc (.cells #[.int .u8 0, .int .u8 0, .int .u8 0, .int .u8 0, .int .u8 0, .int .u8 0, .int .u8 0, .int .u8 0, .int .u8 0, .int .u8 0, .int .u8 0, .int .u8 0, .int .u8 0, .int .u8 0] 5)).cell? ⟨w.heap.size, 2, none⟩ = some (.int .i64 n) := by
  rw [World.cell?_alloc_past _ _ _ (by simp)]; simp
 have c3 : ((w.alloc (.cells #[.int .i64 k, .int .i64 y, .int .i64 n, .slice ao l.length cap] 33)).alloc (.cells #[.int .u8 0, .int .u8 0, .int .u8 0, .int .u8 0, .int .u8 0, .int .u8 0, .int .u8 0, .int .u8 0, .int .u8 0, .int .u8 0, .int .u8 0, .int .u8 0, .int .u8 0, .int .u8 0] 5)).cell? ⟨w.heap.size, 3, none⟩ = some (.slice ao l.length cap) := by
  rw [World.cell?_alloc_past _ _ _ (by simp)]; simp
 have gW := grow_alloc2 w (.cells #[.int .i64 k, .int .i64 y, .int .i64 n, .slice ao l.length cap] 33) (.cells #[.int .u8 0, .int .u8 0, .int .u8 0, .int .u8 0, .int .u8 0, .int .u8 0, .int .u8 0, .int .u8 0, .int .u8 0, .int .u8 0, .int .u8 0, .int .u8 0, .int .u8 0, .int .u8 0] 5)
 simp only [World.size_alloc] at hrow
 have hbW := bytes_grow hv gW
 generalize World.alloc (World.alloc w _) _ = W at hrow gW c0 c1 c2 c3 hbW ⊢
 have hz : w.heap.size < w.heap.size + 1 := by omega
 generalize w.heap.size + 1 = g at hrow hz ⊢
 clear hcells
 refine wp_region_w [pl (ex (.slice (some ⟨g, 0, none⟩) 14 14)), pl (ex (.slice (some ⟨g, 0, none⟩) 14 14)), pl (ex (.slice (some ⟨g, 0, none⟩) 14 14)), pl (ex (.slice (some ⟨g, 0, none⟩) 14 14)), pl (ex (.slice (some ⟨g, 0, none⟩) 14 14)), pl (ex (.slice (some ⟨g, 0, none⟩) 14 14)), pl (ex (.pointer (some ⟨w.heap.size, 0, none⟩))), pl (ex (.int .i64 k)), pl (ex (.int .u8 k)), pl (ex (.int .i64 at_)), pl (ex (.int .u8 at_)), pl (ex (.pointer (some ⟨w.heap.size, 1, none⟩))), pl (ex (.int .i64 y)), pl (ex (.int .u8 y)), pl (ex (.pointer (some ⟨w.heap.size, 2, none⟩))), pl (ex (.int .i64 n)), pl (ex (.int .i64 (n / 256))), pl (ex (.int .u8 (n / 256))), pl (ex (.pointer (some ⟨w.heap.size, 2, none⟩))), pl (ex (.int .i64 n)), pl (ex (.int .i64 (n % 256))), pl (ex (.int .u8 (n % 256))), pl (ex (.pointer (some ⟨w.heap.size, 3, none⟩))), pl (ex (.slice ao l.length cap)), pl (ex (.int .i64 l.length)), pl (ex (.int .u8 l.length)), pl (ex (.pointer (some ⟨g, 0, none⟩))), pl ((fun _ w => w.cell? ⟨g, 0, none⟩ = some (bv (lo k)))), pl (ex (.pointer (some ⟨g, 1, none⟩))), pl ((fun _ w => w.cell? ⟨g, 1, none⟩ = some (bv (lo at_)))), pl (ex (.pointer (some ⟨g, 2, none⟩))), pl ((fun _ w => w.cell? ⟨g, 2, none⟩ = some (bv (lo y)))), pl (ex (.pointer (some ⟨g, 3, none⟩))), pl ((fun _ w => w.cell? ⟨g, 3, none⟩ = some (bv (hi n)))), pl (ex (.pointer (some ⟨g, 4, none⟩))), pl ((fun _ w => w.cell? ⟨g, 4, none⟩ = some (bv (lo n)))), pl (ex (.pointer (some ⟨g, 5, none⟩))), pl ((fun _ w => w.cell? ⟨g, 5, none⟩ = some (bv (lo (l.length : Int)))))] [none, none, none, none, none, none, none, none, none, none, none, none, none, none, none, none, none, none, none, none, none, none, none, none, none, none, none, some ((StoreAt g 0 (lo k))), none, some ((StoreAt g 1 (lo at_))), none, some ((StoreAt g 2 (lo y))), none, some ((StoreAt g 3 (hi n))), none, some ((StoreAt g 4 (lo n))), none, some ((StoreAt g 5 (lo (l.length : Int))))] (Part g W (List.replicate 14 0) (head k y n at_ l)) (by kernel_rfl) (by kernel_rfl) ⟨st_pl (st_ex _), st_pl (st_ex _), st_pl (st_ex _), st_pl (st_ex _), st_pl (st_ex _), st_pl (st_ex _), st_pl (st_ex _), st_pl (st_ex _), st_pl (st_ex _), st_pl (st_ex _), st_pl (st_ex _), st_pl (st_ex _), st_pl (st_ex _), st_pl (st_ex _), st_pl (st_ex _), st_pl (st_ex _), st_pl (st_ex _), st_pl (st_ex _), st_pl (st_ex _), st_pl (st_ex _), st_pl (st_ex _), st_pl (st_ex _), st_pl (st_ex _), st_pl (st_ex _), st_pl (st_ex _), st_pl (st_ex _), st_pl (st_ex _), st_pl (st_at g 0 _), st_pl (st_ex _), st_pl (st_at g 1 _), st_pl (st_ex _), st_pl (st_at g 2 _), st_pl (st_ex _), st_pl (st_at g 3 _), st_pl (st_ex _), st_pl (st_at g 4 _), st_pl (st_ex _), st_pl (st_at g 5 _), trivial⟩ ⟨⟨(fun w => .inl rfl), ⟨.inr (fun _ _ _ _ _ h => h), .inr (fun _ _ _ _ _ h => h), .inr (fun _ _ _ _ _ h => h), .inr (fun _ _ _ _ _ h => h), .inr (fun _ _ _ _ _ h => h), .inr (fun _ _ _ _ _ h => h), .inr (fun _ _ _ _ _ h => h), .inr (fun _ _ _ _ _ h => h), .inr (fun _ _ _ _ _ h => h), .inr (fun _ _ _ _ _ h => h), .inr (fun _ _ _ _ _ h => h), .inr (fun _ _ _ _ _ h => h), .inr (fun _ _ _ _ _ h => h), .inr (fun _ _ _ _ _ h => h), .inr (fun _ _ _ _ _ h => h), .inr (fun _ _ _ _ _ h => h), .inr (fun _ _ _ _ _ h => h), .inr (fun _ _ _ _ _ h => h), .inr (fun _ _ _ _ _ h => h), .inr (fun _ _ _ _ _ h => h), .inr (fun _ _ _ _ _ h => h), .inr (fun _ _ _ _ _ h => h), .inr (fun _ _ _ _ _ h => h), .inr (fun _ _ _ _ _ h => h), .inr (fun _ _ _ _ _ h => h), .inr (fun _ _ _ _ _ h => h), .inr (fun _ _ _ _ _ h => h), .inl (by kernel_rfl), .inl (by kernel_rfl), .inl (by kernel_rfl), .inl (by kernel_rfl), .inl (by kernel_rfl), .inl (by kernel_rfl), .inl (by kernel_rfl), .inl (by kernel_rfl), .inl (by kernel_rfl), .inl (by kernel_rfl), .inl (by kernel_rfl), trivial⟩⟩, ⟨(fun w => .inl rfl), ⟨.inr (fun _ _ _ _ _ h => h), .inr (fun _ _ _ _ _ h => h), .inr (fun _ _ _ _ _ h => h), .inr (fun _ _ _ _ _ h => h), .inr (fun _ _ _ _ _ h => h), .inr (fun _ _ _ _ _ h => h), .inr (fun _ _ _ _ _ h => h), .inr (fun _ _ _ _ _ h => h), .inr (fun _ _ _ _ _ h => h), .inr (fun _ _ _ _ _ h => h), .inr (fun _ _ _ _ _ h => h), .inr (fun _ _ _ _ _ h => h), .inr (fun _ _ _ _ _ h => h), .inr (fun _ _ _ _ _ h => h), .inr (fun _ _ _ _ _ h => h), .inr (fun _ _ _ _ _ h => h), .inr (fun _ _ _ _ _ h => h), .inr (fun _ _ _ _ _ h => h), .inr (fun _ _ _ _ _ h => h), .inr (fun _ _ _ _ _ h => h), .inr (fun _ _ _ _ _ h => h), .inr (fun _ _ _ _ _ h => h), .inr (fun _ _ _ _ _ h => h), .inr (fun _ _ _ _ _ h => h), .inr (fun _ _ _ _ _ h => h), .inr (fun _ _ _ _ _ h => h), .inr (fun _ _ _ _ _ h => h), .inr ((fun _ _ _ _ hs hq => storeAt_keep (by decide) hs hq)), .inr (fun _ _ _ _ _ h => h), .inl (by kernel_rfl), .inl (by kernel_rfl), .inl (by kernel_rfl), .inl (by kernel_rfl), .inl (by kernel_rfl), .inl (by kernel_rfl), .inl (by kernel_rfl), .inl (by kernel_rfl), .inl (by kernel_rfl), trivial⟩⟩, ⟨(fun w => .inl rfl), ⟨.inr (fun _ _ _ _ _ h => h), .inr (fun _ _ _ _ _ h => h), .inr (fun _ _ _ _ _ h => h), .inr (fun _ _ _ _ _ h => h), .inr (fun _ _ _ _ _ h => h), .inr (fun _ _ _ _ _ h => h), .inr (fun _ _ _ _ _ h => h), .inr (fun _ _ _ _ _ h => h), .inr (fun _ _ _ _ _ h => h), .inr (fun _ _ _ _ _ h => h), .inr (fun _ _ _ _ _ h => h), .inr (fun _ _ _ _ _ h => h), .inr (fun _ _ _ _ _ h => h), .inr (fun _ _ _ _ _ h => h), .inr (fun _ _ _ _ _ h => h), .inr (fun _ _ _ _ _ h => h), .inr (fun _ _ _ _ _ h => h), .inr (fun _ _ _ _ _ h => h), .inr (fun _ _ _ _ _ h => h), .inr (fun _ _ _ _ _ h => h), .inr (fun _ _ _ _ _ h => h), .inr (fun _ _ _ _ _ h => h), .inr (fun _ _ _ _ _ h => h), .inr (fun _ _ _ _ _ h => h), .inr (fun _ _ _ _ _ h => h), .inr (fun _ _ _ _ _ h => h), .inr (fun _ _ _ _ _ h => h), .inr ((fun _ _ _ _ hs hq => storeAt_keep (by decide) hs hq)), .inr (fun _ _ _ _ _ h => h), .inr ((fun _ _ _ _ hs hq => storeAt_keep (by decide) hs hq)), .inr (fun _ _ _ _ _ h => h), .inl (by kernel_rfl), .inl (by kernel_rfl), .inl (by kernel_rfl), .inl (by kernel_rfl), .inl (by kernel_rfl), .inl (by kernel_rfl), .inl (by kernel_rfl), trivial⟩⟩, ⟨(fun w => .inl rfl), ⟨.inr (fun _ _ _ _ _ h => h), .inr (fun _ _ _ _ _ h => h), .inr (fun _ _ _ _ _ h => h), .inr (fun _ _ _ _ _ h => h), .inr (fun _ _ _ _ _ h => h), .inr (fun _ _ _ _ _ h => h), .inr (fun _ _ _ _ _ h => h), .inr (fun _ _ _ _ _ h => h), .inr (fun _ _ _ _ _ h => h), .inr (fun _ _ _ _ _ h => h), .inr (fun _ _ _ _ _ h => h), .inr (fun _ _ _ _ _ h => h), .inr (fun _ _ _ _ _ h => h), .inr (fun _ _ _ _ _ h => h), .inr (fun _ _ _ _ _ h => h), .inr (fun _ _ _ _ _ h => h), .inr (fun _ _ _ _ _ h => h), .inr (fun _ _ _ _ _ h => h), .inr (fun _ _ _ _ _ h => h), .inr (fun _ _ _ _ _ h => h), .inr (fun _ _ _ _ _ h => h), .inr (fun _ _ _ _ _ h => h), .inr (fun _ _ _ _ _ h => h), .inr (fun _ _ _ _ _ h => h), .inr (fun _ _ _ _ _ h => h), .inr (fun _ _ _ _ _ h => h), .inr (fun _ _ _ _ _ h => h), .inr ((fun _ _ _ _ hs hq => storeAt_keep (by decide) hs hq)), .inr (fun _ _ _ _ _ h => h), .inr ((fun _ _ _ _ hs hq => storeAt_keep (by decide) hs hq)), .inr (fun _ _ _ _ _ h => h), .inr ((fun _ _ _ _ hs hq => storeAt_keep (by decide) hs hq)), .inr (fun _ _ _ _ _ h => h), .inl (by kernel_rfl), .inl (by kernel_rfl), .inl (by kernel_rfl), .inl (by kernel_rfl), .inl (by kernel_rfl), trivial⟩⟩, ⟨(fun w => .inl rfl), ⟨.inr (fun _ _ _ _ _ h => h), .inr (fun _ _ _ _ _ h => h), .inr (fun _ _ _ _ _ h => h), .inr (fun _ _ _ _ _ h => h), .inr (fun _ _ _ _ _ h => h), .inr (fun _ _ _ _ _ h => h), .inr (fun _ _ _ _ _ h => h), .inr (fun _ _ _ _ _ h => h), .inr (fun _ _ _ _ _ h => h), .inr (fun _ _ _ _ _ h => h), .inr (fun _ _ _ _ _ h => h), .inr (fun _ _ _ _ _ h => h), .inr (fun _ _ _ _ _ h => h), .inr (fun _ _ _ _ _ h => h), .inr (fun _ _ _ _ _ h => h), .inr (fun _ _ _ _ _ h => h), .inr (fun _ _ _ _ _ h => h), .inr (fun _ _ _ _ _ h => h), .inr (fun _ _ _ _ _ h => h), .inr (fun _ _ _ _ _ h => h), .inr (fun _ _ _ _ _ h => h), .inr (fun _ _ _ _ _ h => h), .inr (fun _ _ _ _ _ h => h), .inr (fun _ _ _ _ _ h => h), .inr (fun _ _ _ _ _ h => h), .inr (fun _ _ _ _ _ h => h), .inr (fun _ _ _ _ _ h => h), .inr ((fun _ _ _ _ hs hq => storeAt_keep (by decide) hs hq)), .inr (fun _ _ _ _ _ h => h), .inr ((fun _ _ _ _ hs hq => storeAt_keep (by decide) hs hq)), .inr (fun _ _ _ _ _ h => h), .inr ((fun _ _ _ _ hs hq => storeAt_keep (by decide) hs hq)), .inr (fun _ _ _ _ _ h => h), .inr ((fun _ _ _ _ hs hq => storeAt_keep (by decide) hs hq)), .inr (fun _ _ _ _ _ h => h), .inl (by kernel_rfl), .inl (by kernel_rfl), .inl (by kernel_rfl), trivial⟩⟩, ⟨(fun w => .inl rfl), ⟨.inr (fun _ _ _ _ _ h => h), .inr (fun _ _ _ _ _ h => h), .inr (fun _ _ _ _ _ h => h), .inr (fun _ _ _ _ _ h => h), .inr (fun _ _ _ _ _ h => h), .inr (fun _ _ _ _ _ h => h), .inr (fun _ _ _ _ _ h => h), .inr (fun _ _ _ _ _ h => h), .inr (fun _ _ _ _ _ h => h), .inr (fun _ _ _ _ _ h => h), .inr (fun _ _ _ _ _ h => h), .inr (fun _ _ _ _ _ h => h), .inr (fun _ _ _ _ _ h => h), .inr (fun _ _ _ _ _ h => h), .inr (fun _ _ _ _ _ h => h), .inr (fun _ _ _ _ _ h => h), .inr (fun _ _ _ _ _ h => h), .inr (fun _ _ _ _ _ h => h), .inr (fun _ _ _ _ _ h => h), .inr (fun _ _ _ _ _ h => h), .inr (fun _ _ _ _ _ h => h), .inr (fun _ _ _ _ _ h => h), .inr (fun _ _ _ _ _ h => h), .inr (fun _ _ _ _ _ h => h), .inr (fun _ _ _ _ _ h => h), .inr (fun _ _ _ _ _ h => h), .inr (fun _ _ _ _ _ h => h), .inr ((fun _ _ _ _ hs hq => storeAt_keep (by decide) hs hq)), .inr (fun _ _ _ _ _ h => h), .inr ((fun _ _ _ _ hs hq => storeAt_keep (by decide) hs hq)), .inr (fun _ _ _ _ _ h => h), .inr ((fun _ _ _ _ hs hq => storeAt_keep (by decide) hs hq)), .inr (fun _ _ _ _ _ h => h), .inr ((fun _ _ _ _ hs hq => storeAt_keep (by decide) hs hq)), .inr (fun _ _ _ _ _ h => h), .inr ((fun _ _ _ _ hs hq => storeAt_keep (by decide) hs hq)), .inr (fun _ _ _ _ _ h => h), .inl (by kernel_rfl), trivial⟩⟩, trivial⟩ ⟨(fun h => by cases h), (fun h => by cases h), (fun h => by cases h), (fun h => by cases h), (fun h => by cases h), (fun h => by cases h), (fun h => by cases h), (fun h => by cases h), (fun h => by cases h), (fun h => by cases h), (fun h => by cases h), (fun h => by cases h), (fun h => by cases h), (fun h => by cases h), (fun h => by cases h), (fun h => by cases h), (fun h => by cases h), (fun h => by cases h), (fun h => by cases h), (fun h => by cases h), (fun h => by cases h), (fun h => by cases h), (fun h => by cases h), (fun h => by cases h), (fun h => by cases h), (fun h => by cases h), (fun h => by cases h), fun _ _ _ _ h => h, (fun h => by cases h), fun _ _ _ _ h => h, (fun h => by cases h), fun _ _ _ _ h => h, (fun h => by cases h), fun _ _ _ _ h => h, (fun h => by cases h), fun _ _ _ _ h => h, (fun h => by cases h), fun _ _ _ _ h => h, trivial⟩ (Part.start hrow) ?_ ?_
 ·refine ⟨?_, ?_, ?_, ?_, ?_, ?_, ?_, ?_, ?_, ?_, ?_, ?_, ?_, ?_, ?_, ?_, ?_, ?_, ?_, ?_, ?_, ?_, ?_, ?_, ?_, ?_, ?_, ?_, ?_, ?_, ?_, ?_, ?_, ?_, ?_, ?_, ?_, ?_, trivial⟩
  ·refine needw_plain rfl (fun a w' hg hin => ?_)
   have e : a.eval (.tmp 5) = .slice (some ⟨g, 0, none⟩) 14 14 := insw_ext hin 5 (by kernel_rfl)
   exact uponw_move rfl hg e
  ·refine needw_plain rfl (fun a w' hg hin => ?_)
   have e : a.eval (.tmp 5) = .slice (some ⟨g, 0, none⟩) 14 14 := insw_ext hin 5 (by kernel_rfl)
   exact uponw_move rfl hg e
  ·refine needw_plain rfl (fun a w' hg hin => ?_)
   have e : a.eval (.tmp 5) = .slice (some ⟨g, 0, none⟩) 14 14 := insw_ext hin 5 (by kernel_rfl)
   exact uponw_move rfl hg e
  ·refine needw_plain rfl (fun a w' hg hin => ?_)
   have e : a.eval (.tmp 5) = .slice (some ⟨g, 0, none⟩) 14 14 := insw_ext hin 5 (by kernel_rfl)
   exact uponw_move rfl hg e
  ·refine needw_plain rfl (fun a w' hg hin => ?_)
   have e : a.eval (.tmp 5) = .slice (some ⟨g, 0, none⟩) 14 14 := insw_ext hin 5 (by kernel_rfl)
   exact uponw_move rfl hg e
  ·refine needw_plain rfl (fun a w' hg hin => ?_)
   have e : a.eval (.tmp 5) = .slice (some ⟨g, 0, none⟩) 14 14 := insw_ext hin 5 (by kernel_rfl)
   exact uponw_move rfl hg e
  ·refine needw_plain rfl (fun a w' hg hin => ?_)
   have e2 : a.eval (.tmp 2) = .pointer (some ⟨w.heap.size, 0, none⟩) := insw_ext hin 2 (by kernel_rfl)
   refine uponw_val ?_ hg rfl
   clear hin hg
   obtain ⟨ek, ef⟩ := evs a
   generalize a.eval = ev at *
   go_simp
   all_goals first | omega | (intro _; omega) | go_arith
  ·refine needw_plain rfl (fun a w' hg hin => ?_)
   have e15 : a.eval (.tmp 15) = _ := insw_on hin 6 (by kernel_rfl)
   have h1 := (hg.1.cell (p := ⟨w.heap.size, 0, none⟩) (cell_lt c0) (by show w.heap.size ≠ g; omega)).trans c0
   refine uponw_val ?_ hg rfl
   clear hin hg
   obtain ⟨ek, ef⟩ := evs a
   generalize a.eval = ev at *
   go_simp
   all_goals first | omega | (intro _; omega) | go_arith
  ·refine needw_plain rfl (fun a w' hg hin => ?_)
   have e16 : a.eval (.tmp 16) = _ := insw_on hin 7 (by kernel_rfl)
   refine uponw_val ?_ hg rfl
   clear hin hg
   obtain ⟨ek, ef⟩ := evs a
   generalize a.eval = ev at *
   go_simp
   all_goals first | omega | (intro _; omega) | go_arith
  ·refine needw_plain rfl (fun a w' hg hin => ?_)
   have e : a.eval (.tmp 1) = .int .i64 at_ := insw_ext hin 1 (by kernel_rfl)
   exact uponw_move rfl hg e
  ·refine needw_plain rfl (fun a w' hg hin => ?_)
   have e18 : a.eval (.tmp 18) = _ := insw_on hin 9 (by kernel_rfl)
   refine uponw_val ?_ hg rfl
   clear hin hg
   obtain ⟨ek, ef⟩ := evs a
   generalize a.eval = ev at *
   go_simp
   all_goals first | omega | (intro _; omega) | go_arith
  ·refine needw_plain rfl (fun a w' hg hin => ?_)
   have e2 : a.eval (.tmp 2) = .pointer (some ⟨w.heap.size, 0, none⟩) := insw_ext hin 2 (by kernel_rfl)
   refine uponw_val ?_ hg rfl
   clear hin hg
   obtain ⟨ek, ef⟩ := evs a
   generalize a.eval = ev at *
   go_simp
   all_goals first | omega | (intro _; omega) | go_arith
  ·refine needw_plain rfl (fun a w' hg hin => ?_)
   have e20 : a.eval (.tmp 20) = _ := insw_on hin 11 (by kernel_rfl)
   have h1 := (hg.1.cell (p := ⟨w.heap.size, 1, none⟩) (cell_lt c1) (by show w.heap.size ≠ g; omega)).trans c1
   refine uponw_val ?_ hg rfl
   clear hin hg
   obtain ⟨ek, ef⟩ := evs a
   generalize a.eval = ev at *
   go_simp
   all_goals first | omega | (intro _; omega) | go_arith
  ·refine needw_plain rfl (fun a w' hg hin => ?_)
   have e21 : a.eval (.tmp 21) = _ := insw_on hin 12 (by kernel_rfl)
   refine uponw_val ?_ hg rfl
   clear hin hg
   obtain ⟨ek, ef⟩ := evs a
   generalize a.eval = ev at *
   go_simp
   all_goals first | omega | (intro _; omega) | go_arith
  ·refine needw_plain rfl (fun a w' hg hin => ?_)
   have e2 : a.eval (.tmp 2) = .pointer (some ⟨w.heap.size, 0, none⟩) := insw_ext hin 2 (by kernel_rfl)
   refine uponw_val ?_ hg rfl
   clear hin hg
   obtain ⟨ek, ef⟩ := evs a
   generalize a.eval = ev at *
   go_simp
   all_goals first | omega | (intro _; omega) | go_arith
  ·refine needw_plain rfl (fun a w' hg hin => ?_)
   have e23 : a.eval (.tmp 23) = _ := insw_on hin 14 (by kernel_rfl)
   have h1 := (hg.1.cell (p := ⟨w.heap.size, 2, none⟩) (cell_lt c2) (by show w.heap.size ≠ g; omega)).trans c2
   refine uponw_val ?_ hg rfl
   clear hin hg
   obtain ⟨ek, ef⟩ := evs a
   generalize a.eval = ev at *
   go_simp
   all_goals first | omega | (intro _; omega) | go_arith
  ·refine needw_plain rfl (fun a w' hg hin => ?_)
   have e24 : a.eval (.tmp 24) = _ := insw_on hin 15 (by kernel_rfl)
   have hd : n.tdiv 256 = n / 256 := Int.tdiv_eq_ediv_of_nonneg hn0
   refine uponw_val ?_ hg rfl
   clear hin hg
   obtain ⟨ek, ef⟩ := evs a
   generalize a.eval = ev at *
   go_simp
   all_goals first | omega | (intro _; omega) | go_arith
  ·refine needw_plain rfl (fun a w' hg hin => ?_)
   have e25 : a.eval (.tmp 25) = _ := insw_on hin 16 (by kernel_rfl)
   refine uponw_val ?_ hg rfl
   clear hin hg
   obtain ⟨ek, ef⟩ := evs a
   generalize a.eval = ev at *
   go_simp
   all_goals first | omega | (intro _; omega) | go_arith
  ·refine needw_plain rfl (fun a w' hg hin => ?_)
   have e2 : a.eval (.tmp 2) = .pointer (some ⟨w.heap.size, 0, none⟩) := insw_ext hin 2 (by kernel_rfl)
   refine uponw_val ?_ hg rfl
   clear hin hg
   obtain ⟨ek, ef⟩ := evs a
   generalize a.eval = ev at *
   go_simp
   all_goals first | omega | (intro _; omega) | go_arith
  ·refine needw_plain rfl (fun a w' hg hin => ?_)
   have e27 : a.eval (.tmp 27) = _ := insw_on hin 18 (by kernel_rfl)
   have h1 := (hg.1.cell (p := ⟨w.heap.size, 2, none⟩) (cell_lt c2) (by show w.heap.size ≠ g; omega)).trans c2
   refine uponw_val ?_ hg rfl
   clear hin hg
   obtain ⟨ek, ef⟩ := evs a
   generalize a.eval = ev at *
   go_simp
   all_goals first | omega | (intro _; omega) | go_arith
  ·refine needw_plain rfl (fun a w' hg hin => ?_)
   have e28 : a.eval (.tmp 28) = _ := insw_on hin 19 (by kernel_rfl)
   have hd : n.tmod 256 = n % 256 := Int.tmod_eq_emod_of_nonneg hn0
   refine uponw_val ?_ hg rfl
   clear hin hg
   obtain ⟨ek, ef⟩ := evs a
   generalize a.eval = ev at *
   go_simp
   all_goals first | omega | (intro _; omega) | go_arith
  ·refine needw_plain rfl (fun a w' hg hin => ?_)
   have e29 : a.eval (.tmp 29) = _ := insw_on hin 20 (by kernel_rfl)
   refine uponw_val ?_ hg rfl
   clear hin hg
   obtain ⟨ek, ef⟩ := evs a
   generalize a.eval = ev at *
   go_simp
   all_goals first | omega | (intro _; omega) | go_arith
  ·refine needw_plain rfl (fun a w' hg hin => ?_)
   have e2 : a.eval (.tmp 2) = .pointer (some ⟨w.heap.size, 0, none⟩) := insw_ext hin 2 (by kernel_rfl)
   refine uponw_val ?_ hg rfl
   clear hin hg
   obtain ⟨ek, ef⟩ := evs a
   generalize a.eval = ev at *
   go_simp
   all_goals first | omega | (intro _; omega) | go_arith
  ·refine needw_plain rfl (fun a w' hg hin => ?_)
   have e31 : a.eval (.tmp 31) = _ := insw_on hin 22 (by kernel_rfl)
   have h1 := (hg.1.cell (p := ⟨w.heap.size, 3, none⟩) (cell_lt c3) (by show w.heap.size ≠ g; omega)).trans c3
   refine uponw_val ?_ hg rfl
   clear hin hg
   obtain ⟨ek, ef⟩ := evs a
   generalize a.eval = ev at *
   go_simp
   all_goals first | omega | (intro _; omega) | go_arith
  ·refine needw_plain rfl (fun a w' hg hin => ?_)
   have e32 : a.eval (.tmp 32) = _ := insw_on hin 23 (by kernel_rfl)
   refine uponw_val ?_ hg rfl
   clear hin hg
   obtain ⟨ek, ef⟩ := evs a
   generalize a.eval = ev at *
   go_simp
   all_goals first | omega | (intro _; omega) | go_arith
  ·refine needw_plain rfl (fun a w' hg hin => ?_)
   have e33 : a.eval (.tmp 33) = _ := insw_on hin 24 (by kernel_rfl)
   refine uponw_val ?_ hg rfl
   clear hin hg
   obtain ⟨ek, ef⟩ := evs a
   generalize a.eval = ev at *
   go_simp
   all_goals first | omega | (intro _; omega) | go_arith
  ·refine needw_plain rfl (fun a w' hg hin => ?_)
   have e9 : a.eval (.tmp 9) = _ := insw_on hin 0 (by kernel_rfl)
   refine uponw_val ?_ hg rfl
   clear hin hg
   obtain ⟨ek, ef⟩ := evs a
   generalize a.eval = ev at *
   go_simp
   all_goals first | omega | (intro _; omega) | go_arith
  ·refine needw_plain rfl (fun a w' hg hin => ?_)
   have e35 : a.eval (.tmp 35) = _ := insw_on hin 26 (by kernel_rfl)
   have e17 : a.eval (.tmp 17) = _ := insw_on hin 8 (by kernel_rfl)
   obtain ⟨⟨u, h1⟩, h2, h3⟩ := hg.store 0 (by simp) rfl
   refine uponw_skip (w' := w'.setCell ⟨g, 0, none⟩ (bv (lo k))) ?_ (.inr rfl) h3 (cell_put h1)
   have e1 : bv (lo k) = a.eval (.tmp 17) := by rw [e17]; exact bv_lo _ (by omega) (by omega)
   rw [e1]
   clear e1 hin hg h3
   obtain ⟨ek, ef⟩ := evs a
   generalize a.eval = ev at *
   go_simp
   all_goals first | omega | (intro _; omega) | go_arith
  ·refine needw_plain rfl (fun a w' hg hin => ?_)
   have e10 : a.eval (.tmp 10) = _ := insw_on hin 1 (by kernel_rfl)
   refine uponw_val ?_ hg rfl
   clear hin hg
   obtain ⟨ek, ef⟩ := evs a
   generalize a.eval = ev at *
   go_simp
   all_goals first | omega | (intro _; omega) | go_arith
  ·refine needw_plain rfl (fun a w' hg hin => ?_)
   have e36 : a.eval (.tmp 36) = _ := insw_on hin 28 (by kernel_rfl)
   have e19 : a.eval (.tmp 19) = _ := insw_on hin 10 (by kernel_rfl)
   obtain ⟨⟨u, h1⟩, h2, h3⟩ := hg.store 1 (by simp) rfl
   refine uponw_skip (w' := w'.setCell ⟨g, 1, none⟩ (bv (lo at_))) ?_ (.inr rfl) h3 (cell_put h1)
   have e1 : bv (lo at_) = a.eval (.tmp 19) := by rw [e19]; exact bv_lo _ (by omega) (by omega)
   rw [e1]
   clear e1 hin hg h3
   obtain ⟨ek, ef⟩ := evs a
   generalize a.eval = ev at *
   go_simp
   all_goals first | omega | (intro _; omega) | go_arith
  ·refine needw_plain rfl (fun a w' hg hin => ?_)
   have e11 : a.eval (.tmp 11) = _ := insw_on hin 2 (by kernel_rfl)
   refine uponw_val ?_ hg rfl
   clear hin hg
   obtain ⟨ek, ef⟩ := evs a
   generalize a.eval = ev at *
   go_simp
   all_goals first | omega | (intro _; omega) | go_arith
  ·refine needw_plain rfl (fun a w' hg hin => ?_)
   have e37 : a.eval (.tmp 37) = _ := insw_on hin 30 (by kernel_rfl)
   have e22 : a.eval (.tmp 22) = _ := insw_on hin 13 (by kernel_rfl)
   obtain ⟨⟨u, h1⟩, h2, h3⟩ := hg.store 2 (by simp) rfl
   refine uponw_skip (w' := w'.setCell ⟨g, 2, none⟩ (bv (lo y))) ?_ (.inr rfl) h3 (cell_put h1)
   have e1 : bv (lo y) = a.eval (.tmp 22) := by rw [e22]; exact bv_lo _ (by omega) (by omega)
   rw [e1]
   clear e1 hin hg h3
   obtain ⟨ek, ef⟩ := evs a
   generalize a.eval = ev at *
   go_simp
   all_goals first | omega | (intro _; omega) | go_arith
  ·refine needw_plain rfl (fun a w' hg hin => ?_)
   have e12 : a.eval (.tmp 12) = _ := insw_on hin 3 (by kernel_rfl)
   refine uponw_val ?_ hg rfl
   clear hin hg
   obtain ⟨ek, ef⟩ := evs a
   generalize a.eval = ev at *
   go_simp
   all_goals first | omega | (intro _; omega) | go_arith
  ·refine needw_plain rfl (fun a w' hg hin => ?_)
   have e38 : a.eval (.tmp 38) = _ := insw_on hin 32 (by kernel_rfl)
   have e26 : a.eval (.tmp 26) = _ := insw_on hin 17 (by kernel_rfl)
   obtain ⟨⟨u, h1⟩, h2, h3⟩ := hg.store 3 (by simp) rfl
   refine uponw_skip (w' := w'.setCell ⟨g, 3, none⟩ (bv (hi n))) ?_ (.inr rfl) h3 (cell_put h1)
   have e1 : bv (hi n) = a.eval (.tmp 26) := by rw [e26]; exact bv_hi n hn0 (by omega)
   rw [e1]
   clear e1 hin hg h3
   obtain ⟨ek, ef⟩ := evs a
   generalize a.eval = ev at *
   go_simp
   all_goals first | omega | (intro _; omega) | go_arith
  ·refine needw_plain rfl (fun a w' hg hin => ?_)
   have e13 : a.eval (.tmp 13) = _ := insw_on hin 4 (by kernel_rfl)
   refine uponw_val ?_ hg rfl
   clear hin hg
   obtain ⟨ek, ef⟩ := evs a
   generalize a.eval = ev at *
   go_simp
   all_goals first | omega | (intro _; omega) | go_arith
  ·refine needw_plain rfl (fun a w' hg hin => ?_)
   have e39 : a.eval (.tmp 39) = _ := insw_on hin 34 (by kernel_rfl)
   have e30 : a.eval (.tmp 30) = _ := insw_on hin 21 (by kernel_rfl)
   obtain ⟨⟨u, h1⟩, h2, h3⟩ := hg.store 4 (by simp) rfl
   refine uponw_skip (w' := w'.setCell ⟨g, 4, none⟩ (bv (lo n))) ?_ (.inr rfl) h3 (cell_put h1)
   have e1 : bv (lo n) = a.eval (.tmp 30) := by rw [e30]; exact bv_rem n
   rw [e1]
   clear e1 hin hg h3
   obtain ⟨ek, ef⟩ := evs a
   generalize a.eval = ev at *
   go_simp
   all_goals first | omega | (intro _; omega) | go_arith
  ·refine needw_plain rfl (fun a w' hg hin => ?_)
   have e14 : a.eval (.tmp 14) = _ := insw_on hin 5 (by kernel_rfl)
   refine uponw_val ?_ hg rfl
   clear hin hg
   obtain ⟨ek, ef⟩ := evs a
   generalize a.eval = ev at *
   go_simp
   all_goals first | omega | (intro _; omega) | go_arith
  ·refine needw_plain rfl (fun a w' hg hin => ?_)
   have e40 : a.eval (.tmp 40) = _ := insw_on hin 36 (by kernel_rfl)
   have e34 : a.eval (.tmp 34) = _ := insw_on hin 25 (by kernel_rfl)
   obtain ⟨⟨u, h1⟩, h2, h3⟩ := hg.store 5 (by simp) rfl
   refine uponw_skip (w' := w'.setCell ⟨g, 5, none⟩ (bv (lo (l.length : Int)))) ?_ (.inr rfl) h3 (cell_put h1)
   have e1 : bv (lo (l.length : Int)) = a.eval (.tmp 34) := by rw [e34]; exact bv_lo _ (by omega) (by omega)
   rw [e1]
   clear e1 hin hg h3
   obtain ⟨ek, ef⟩ := evs a
   generalize a.eval = ev at *
   go_simp
   all_goals first | omega | (intro _; omega) | go_arith
 ·intro vs w' hg ht
  obtain ⟨q9, q10, q11, q12, q13, q14, q15, q16, q17, q18, q19, q20, q21, q22, q23, q24, q25, q26, q27, q28, q29, q30, q31, q32, q33, q34, q35, qo27, q36, qo29, q37, qo31, q38, qo33, q39, qo35, q40, qo37, -⟩ := ht
  have r9 : vs 0 = .slice (some ⟨g, 0, none⟩) 14 14 := q9
  have r10 : vs 1 = .slice (some ⟨g, 0, none⟩) 14 14 := q10
  have r11 : vs 2 = .slice (some ⟨g, 0, none⟩) 14 14 := q11
  have r12 : vs 3 = .slice (some ⟨g, 0, none⟩) 14 14 := q12
  have r13 : vs 4 = .slice (some ⟨g, 0, none⟩) 14 14 := q13
  have r14 : vs 5 = .slice (some ⟨g, 0, none⟩) 14 14 := q14
  have r15 : vs 6 = .pointer (some ⟨w.heap.size, 0, none⟩) := q15
  have r16 : vs 7 = .int .i64 k := q16
  have r17 : vs 8 = .int .u8 k := q17
  have r18 : vs 9 = .int .i64 at_ := q18
  have r19 : vs 10 = .int .u8 at_ := q19
  have r20 : vs 11 = .pointer (some ⟨w.heap.size, 1, none⟩) := q20
  have r21 : vs 12 = .int .i64 y := q21
  have r22 : vs 13 = .int .u8 y := q22
  have r23 : vs 14 = .pointer (some ⟨w.heap.size, 2, none⟩) := q23
  have r24 : vs 15 = .int .i64 n := q24
  have r25 : vs 16 = .int .i64 (n / 256) := q25
  have r26 : vs 17 = .int .u8 (n / 256) := q26
  have r27 : vs 18 = .pointer (some ⟨w.heap.size, 2, none⟩) := q27
  have r28 : vs 19 = .int .i64 n := q28
  have r29 : vs 20 = .int .i64 (n % 256) := q29
  have r30 : vs 21 = .int .u8 (n % 256) := q30
  have r31 : vs 22 = .pointer (some ⟨w.heap.size, 3, none⟩) := q31
  have r32 : vs 23 = .slice ao l.length cap := q32
  have r33 : vs 24 = .int .i64 l.length := q33
  have r34 : vs 25 = .int .u8 l.length := q34
  have r35 : vs 26 = .pointer (some ⟨g, 0, none⟩) := q35
  replace qo27 : ((fun _ w => w.cell? ⟨g, 0, none⟩ = some (bv (lo k)))) (vs 27) w' := qo27
  have r36 : vs 28 = .pointer (some ⟨g, 1, none⟩) := q36
  replace qo29 : ((fun _ w => w.cell? ⟨g, 1, none⟩ = some (bv (lo at_)))) (vs 29) w' := qo29
  have r37 : vs 30 = .pointer (some ⟨g, 2, none⟩) := q37
  replace qo31 : ((fun _ w => w.cell? ⟨g, 2, none⟩ = some (bv (lo y)))) (vs 31) w' := qo31
  have r38 : vs 32 = .pointer (some ⟨g, 3, none⟩) := q38
  replace qo33 : ((fun _ w => w.cell? ⟨g, 3, none⟩ = some (bv (hi n)))) (vs 33) w' := qo33
  have r39 : vs 34 = .pointer (some ⟨g, 4, none⟩) := q39
  replace qo35 : ((fun _ w => w.cell? ⟨g, 4, none⟩ = some (bv (lo n)))) (vs 35) w' := qo35
  have r40 : vs 36 = .pointer (some ⟨g, 5, none⟩) := q40
  replace qo37 : ((fun _ w => w.cell? ⟨g, 5, none⟩ = some (bv (lo (l.length : Int))))) (vs 37) w' := qo37
  clear q9 q10 q11 q12 q13 q14 q15 q16 q17 q18 q19 q20 q21 q22 q23 q24 q25 q26 q27 q28 q29 q30 q31 q32 q33 q34 q35 q36 q37 q38 q39 q40
  simp only [putAll, Act.put, List.setIfInBounds_toArray, List.set_cons_zero, List.set_cons_succ, r9, r10, r11, r12, r13, r14, r15, r16, r17, r18, r19, r20, r21, r22, r23, r24, r25, r26, r27, r28, r29, r30, r31, r32, r33, r34, r35, r36, r37, r38, r39, r40]
  clear r9 r10 r11 r12 r13 r14 r15 r16 r17 r18 r19 r20 r21 r22 r23 r24 r25 r26 r27 r28 r29 r30 r31 r32 r33 r34 r35 r36 r37 r38 r39 r40
  have hR : RowB w' g (rowTo k y n at_ l 0) := by
   rw [rowTo_zero]
   refine Part.done hg (by simp [head]) (fun i hi hne => ?_)
   match i with
   | 0 => exact qo27
   | 1 => exact qo29
   | 2 => exact qo31
   | 3 => exact qo33
   | 4 => exact qo35
   | 5 => exact qo37
   | i + 6 =>
    exfalso
    apply hne
    have : i < 8 := by simp [head] at hi; omega
    rw [List.getElem?_replicate, if_pos (by omega)]
    show _ = (List.replicate 8 (0 : UInt8))[i]?
    rw [List.getElem?_replicate, if_pos (by omega)]
  have hvb : ∀ b o n c, Value.slice ao l.length cap = .slice (some ⟨b, o, none⟩) n c → l.length ≠ 0 → b < w.heap.size := by
   intro b o n c e hne
   cases e
   rcases hv with ⟨ao, cp, h2, h3, _⟩ | ⟨b', o', cp, h2, h3, h4⟩
   ·rw [h3] at hne; exact absurd rfl hne
   ·cases h2
    exact cell_lt (h4 0 (by omega))
  have c3' := (hg.1.cell (p := ⟨w.heap.size, 3, none⟩) (cell_lt c3) (by show w.heap.size ≠ g; omega)).trans c3
  have gw' : Grow w w' := hg.1.grow gW (by omega)
  clear qo27 qo29 qo31 qo33 qo35 qo37 hg c0 c1 c2 c3 gW hbW hrow hnone
  go_wp2_with fail
  go_loopw [44] (fun i wr => ∃ j : Nat, j ≤ l.length ∧ i = .int .i64 j ∧ Grow w wr ∧ RowB wr g (rowTo k y n at_ l j)) (fun i _ => l.length - (intOf i).toNat)
  case atStart => exact ⟨0, Nat.zero_le _, rfl, gw', hR⟩
  case round =>
   obtain ⟨j, hj, rfl, hgr, hrw⟩ := hrel
   by_cases hlt : j < l.length
   ·rcases hv with ⟨_, _, _, h3, _⟩ | ⟨b, off, cp, h2, h3, h4⟩
    ·rw [h3] at hlt; simp at hlt
    ·cases h2
     have hcell := (Below.cell hgr (cell_lt (h4 j hlt))).trans (h4 j hlt)
     have hcg := hrw.cell (6 + j) (by rw [rowTo_length _ _ _ _ _ _ hj hl]; omega)
     have hfg := hrw.frozen (6 + j)
     have HR := hrw.set (6 + j) l[j]
     rw [rowTo_succ _ _ _ _ _ _ hlt hl] at HR
     have hG := grow_set hgr (a := ⟨g, 6 + j, none⟩) (by show w.heap.size ≤ g; omega) (.int .u8 (l[j].toNat : Int))
     clear h4 hrw hgr
     go_wp2
     go_roundw
     case rel => exact ⟨j + 1, by omega, by go_num, hG, HR⟩
     case measure => simp [intOf]; omega
   ·have ej : j = l.length := by omega
    subst ej
    rw [rowTo_last] at hrw
    have hB := hrw.bytes 0 14 14 (by rw [body_length _ _ hl]; omega) (by omega)
    rw [List.drop_zero, List.take_of_length_le (by rw [body_length _ _ hl]; omega)] at hB
    clear hv hvb hrw
    go_wp2_with fail
    refine (rseal_any _ _ _ (by rw [body_length _ _ hl]; omega) hB).mono ?_
    rintro e w3 ⟨v', rfl, ho, g3⟩
    rw [body_length _ _ hl] at ho
    go_wp2
    go_ret
    exact ⟨_, rfl, own_mono ho hgr.size, hgr.trans g3⟩
end Go.Proofs.Ytgaecpdokgklpab
