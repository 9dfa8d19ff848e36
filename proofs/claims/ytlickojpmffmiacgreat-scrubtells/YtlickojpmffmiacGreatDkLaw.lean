import Derived.Test.YtlickojpmffmiacGreatRGet
set_option maxHeartbeats 8000000
namespace Go.Proofs.YtlickojpmffmiacGreat
set_option maxRecDepth 100000
open Plain
/-- The blocks behind the first k writes, of which some come to the disk. -/
def Dk.keepTo (d : Dk) (on : Nat → Bool) : Nat → List (List UInt8)
 | 0 => d.blocks
 | k + 1 => if on k = true then (d.keepTo on k).set (d.late.getD k (0, [])).1.toNat (d.late.getD k (0, [])).2 else d.keepTo on k
/-- Is the bit of a write's number set? -/
def bitOn (bits : Int) (k : Nat) : Bool := decide (k < 60) && ((bits % 18446744073709551616).toNat / 2 ^ k % 2 == 1)
def Dk.keep (d : Dk) (bits : Int) : Dk := ⟨d.keepTo (bitOn bits) d.late.length, []⟩
def Dk.flush (d : Dk) : Dk := ⟨d.keepTo (fun _ => true) d.late.length, []⟩
/-- A byte turned. -/
def turned (b : List UInt8) (n : Int) (y : Int) : List UInt8 := if 0 ≤ n ∧ n < (b.length : Int) then b.set n.toNat (b.getD n.toNat 0 ^^^ lo y) else b
def Dk.spoil (d : Dk) (a n y : Int) : Dk := if 0 ≤ a ∧ a < (d.blocks.length : Int) then ⟨d.blocks.set a.toNat (turned (d.blocks.getD a.toNat []) n y), d.late⟩ else d
def Dk.new : Dk := ⟨(List.range 12).map fun (i : Nat) => blk ⟨1, 0, 0, []⟩ (i : Int), []⟩
theorem getD_at {α : Type} (l : List α) (i : Nat) (x : α) (h : i < l.length) : l.getD i x = l[i] := by
 rw [List.getD_eq_getElem?_getD, List.getElem?_eq_getElem h]; rfl
theorem getD_set {α : Type} (l : List α) (i j : Nat) (y x : α) (h : i < l.length) : (l.set j y).getD i x = if j = i then y else l.getD i x := by
 rw [List.getD_eq_getElem?_getD, List.getD_eq_getElem?_getD, List.getElem?_set]
 by_cases hj : j = i
 ·subst hj; simp [h]
 ·simp [hj]
theorem Dk.keepTo_length (d : Dk) (on : Nat → Bool) : ∀ k, (d.keepTo on k).length = d.blocks.length
 | 0 => rfl
 | k + 1 => by
  show (if on k = true then _ else _ : List (List UInt8)).length = _
  split
  ·rw [List.length_set]; exact keepTo_length d on k
  ·exact keepTo_length d on k
/-- With some writes each block is what it was, or one of its writes. -/
theorem Dk.keepTo_some (d : Dk) (on : Nat → Bool) (hl : ∀ x ∈ d.late, 0 ≤ x.1) (a : Nat) (ha : a < d.blocks.length) : ∀ k, k ≤ d.late.length →
  (d.keepTo on k).getD a [] = d.blocks.getD a [] ∨ ∃ i, ∃ (hi : i < d.late.length), d.late[i].1 = (a : Int) ∧ d.late[i].2 = (d.keepTo on k).getD a []
 | 0, _ => .inl rfl
 | k + 1, hk => by
  have ih := keepTo_some d on hl a ha k (by omega)
  show (if on k = true then _ else _ : List (List UInt8)).getD a [] = _ ∨ ∃ i, ∃ (hi : i < d.late.length), d.late[i].1 = (a : Int) ∧ d.late[i].2 = (if on k = true then _ else _ : List (List UInt8)).getD a []
  split
  ·rw [getD_set _ _ _ _ _ (by rw [Dk.keepTo_length]; exact ha), getD_at d.late k _ (by omega)]
   by_cases h : d.late[k].1.toNat = a
   ·rw [if_pos h]
    exact .inr ⟨k, by omega, by have := hl d.late[k] (List.getElem_mem _); omega, rfl⟩
   ·rw [if_neg h]; exact ih
  ·exact ih
/-- With all writes each block is its last one. -/
theorem Dk.keepTo_last (d : Dk) (hl : ∀ x ∈ d.late, 0 ≤ x.1) (a : Nat) (ha : a < d.blocks.length) : ∀ k, k ≤ d.late.length →
  (d.keepTo (fun _ => true) k).getD a [] = (lastW (d.late.take k) (a : Int)).getD (d.blocks.getD a [])
 | 0, _ => by simp [Dk.keepTo, lastW]
 | k + 1, hk => by
  have ih := keepTo_last d hl a ha k (by omega)
  show ((d.keepTo (fun _ => true) k).set _ _).getD a [] = _
  rw [getD_set _ _ _ _ _ (by rw [Dk.keepTo_length]; exact ha), getD_at d.late k _ (by omega), lastW_take _ _ _ (by omega)]
  have h0 := hl d.late[k] (List.getElem_mem _)
  by_cases h : d.late[k].1 = (a : Int)
  ·rw [if_pos (by omega), if_pos h]; rfl
  ·rw [if_neg (by omega), if_neg h]; exact ih
theorem Dk.flush_length (d : Dk) : d.flush.blocks.length = d.blocks.length := d.keepTo_length _ _
theorem Dk.flush_get (d : Dk) (hl : ∀ x ∈ d.late, 0 ≤ x.1) (a : Int) : d.flush.get a = d.get a := by
 unfold Dk.get
 rw [Dk.flush_length]
 by_cases h : a < 0 ∨ (d.blocks.length : Int) ≤ a
 ·rw [if_pos h, if_pos h]
 ·rw [if_neg h, if_neg h]
  have hk := d.keepTo_last hl a.toNat (by omega) d.late.length (Nat.le_refl _)
  rw [List.take_length, show ((a.toNat : Nat) : Int) = a from by omega] at hk
  show some ((lastW [] a).getD ((d.keepTo (fun _ => true) d.late.length).getD a.toNat [])) = _
  rw [hk]; rfl
/-- The document's way: block by block, what is read there. -/
theorem Dk.flush_map (d : Dk) (hl : ∀ x ∈ d.late, 0 ≤ x.1) : d.flush.blocks = (List.range d.blocks.length).map fun (i : Nat) => (d.get (i : Int)).getD [] := by
 refine List.ext_getElem (by simp [Dk.flush_length]) fun i h1 h2 => ?_
 rw [Dk.flush_length] at h1
 rw [List.getElem_map, List.getElem_range, ← d.flush_get hl, Dk.get, if_neg (by rw [Dk.flush_length]; omega)]
 show _ = (lastW [] (i : Int)).getD (d.flush.blocks.getD (i : Int).toNat [])
 rw [show ((i : Int)).toNat = i from by omega, getD_at _ _ _ (by rw [Dk.flush_length]; exact h1)]; rfl
end Go.Proofs.YtlickojpmffmiacGreat
