/-
  What a disk is, told of lists: of none of its writes, of some, of all; a block turned; a new disk. No program.
-/
import Derived.Test.YtgaecpdokgklpabRGet
namespace Go.Proofs.Ytgaecpdokgklpab
set_option maxRecDepth 100000
open Go.Proofs.Ytgaecpdokgklpab.Plain

/-- The blocks behind the first k writes, of which some come to the disk. -/
def Dk.keepTo (d : Dk) (on : Nat → Bool) : Nat → List (List UInt8)
 | 0 => d.blocks
 | k + 1 => if on k = true then (d.keepTo on k).set (d.late.getD k (0, [])).1.toNat (d.late.getD k (0, [])).2 else d.keepTo on k
/-- Is the bit of a write's number set? -/
def bitOn (bits : Int) (k : Nat) : Bool := decide (k < 60) && ((bits % 18446744073709551616).toNat / 2 ^ k % 2 == 1)
def Dk.keep (d : Dk) (bits : Int) : Dk := ⟨d.keepTo (bitOn bits) d.late.length, []⟩
def Dk.flush (d : Dk) : Dk := ⟨d.keepTo (fun _ => true) d.late.length, []⟩
/-- A byte turned. -/
def turned (b : List UInt8) (n : Int) (y : Int) : List UInt8 := if 0 ≤ n ∧ n < (b.length : Int) then b.set n.toNat (b.getD n.toNat 0 ^^^ lo y) else b
def Dk.spoil (d : Dk) (a n y : Int) : Dk := if 0 ≤ a ∧ a < (d.blocks.length : Int) then ⟨d.blocks.set a.toNat (turned (d.blocks.getD a.toNat []) n y), d.late⟩ else d
def Dk.new : Dk := ⟨(List.range 12).map fun (i : Nat) => blk ⟨1, 0, 0, []⟩ (i : Int), []⟩

theorem Dk.right_len {d : Dk} (h : d.right = true) : d.blocks.length = 12 := by
 simp only [Dk.right, Bool.and_eq_true, beq_iff_eq] at h; exact h.1.1.1
theorem Dk.right_few {d : Dk} (h : d.right = true) : d.late.length ≤ 40 := by
 simp only [Dk.right, Bool.and_eq_true, decide_eq_true_eq] at h; exact h.1.1.2
theorem Dk.right_block {d : Dk} (h : d.right = true) (i : Nat) (hi : i < d.blocks.length) : d.blocks[i].length = 16 := by
 simp only [Dk.right, Bool.and_eq_true, List.all_eq_true, beq_iff_eq] at h; exact h.1.2 _ (List.getElem_mem hi)
theorem Dk.right_late {d : Dk} (h : d.right = true) (i : Nat) (hi : i < d.late.length) : 0 ≤ d.late[i].1 ∧ d.late[i].1 < (d.blocks.length : Int) ∧ d.late[i].2.length = 16 := by
 simp only [Dk.right, Bool.and_eq_true, List.all_eq_true] at h
 have := h.2 _ (List.getElem_mem hi)
 simp only [rightW, Bool.and_eq_true, decide_eq_true_eq, beq_iff_eq] at this
 exact ⟨this.1.1, this.1.2, this.2⟩

theorem getD_at {α : Type} (l : List α) (i : Nat) (x : α) (h : i < l.length) : l.getD i x = l[i] := by
 rw [List.getD_eq_getElem?_getD, List.getElem?_eq_getElem h]; rfl
theorem getD_set {α : Type} (l : List α) (i j : Nat) (y x : α) (h : i < l.length) : (l.set j y).getD i x = if j = i then y else l.getD i x := by
 rw [List.getD_eq_getElem?_getD, List.getD_eq_getElem?_getD, List.getElem?_set]
 by_cases hj : j = i
 ·subst hj; simp [h]
 ·simp [hj]

theorem Dk.keepTo_length (d : Dk) (on : Nat → Bool) : ∀ k, (d.keepTo on k).length = d.blocks.length
 | 0 => rfl
 | k + 1 => by
  show (if on k = true then _ else _ : List (List UInt8)).length = _
  split
  ·rw [List.length_set]; exact keepTo_length d on k
  ·exact keepTo_length d on k
theorem Dk.keepTo_none (d : Dk) (on : Nat → Bool) (h : ∀ k, on k = false) : ∀ k, d.keepTo on k = d.blocks
 | 0 => rfl
 | k + 1 => by
  show (if on k = true then _ else _) = _
  rw [h k, if_neg (by decide)]; exact keepTo_none d on h k
theorem Dk.keepTo_same (d : Dk) (on on' : Nat → Bool) : ∀ k, (∀ i, i < k → on i = on' i) → d.keepTo on k = d.keepTo on' k
 | 0, _ => rfl
 | k + 1, h => by
  show (if on k = true then _ else _) = (if on' k = true then _ else _)
  rw [h k (by omega), keepTo_same d on on' k (fun i hi => h i (by omega))]
theorem bitOn_none (k : Nat) : bitOn 0 k = false := by
 unfold bitOn
 have : ((0 : Int) % 18446744073709551616).toNat = 0 := by decide
 rw [this, Nat.zero_div]; simp
theorem bitOn_all (k : Nat) (h : k < 60) : bitOn (-1) k = true := by
 have h' : ∀ k, k < 60 → 18446744073709551615 / 2 ^ k % 2 = 1 := by decide
 unfold bitOn
 have : ((-1 : Int) % 18446744073709551616).toNat = 18446744073709551615 := by decide
 rw [this, h' k h]; simp [h]
theorem Dk.keep_none (d : Dk) : (d.keep 0).blocks = d.blocks := d.keepTo_none _ bitOn_none _
theorem Dk.keep_all (d : Dk) (h : d.late.length ≤ 60) : d.keep (-1) = d.flush := by
 unfold Dk.keep Dk.flush
 rw [d.keepTo_same (bitOn (-1)) (fun _ => true) _ (fun i hi => bitOn_all i (by omega))]

/-- With some writes each block is what it was, or one of its writes. -/
theorem Dk.keepTo_some (d : Dk) (on : Nat → Bool) (hl : ∀ x ∈ d.late, 0 ≤ x.1) (a : Nat) (ha : a < d.blocks.length) : ∀ k, k ≤ d.late.length →
  (d.keepTo on k).getD a [] = d.blocks.getD a [] ∨ ∃ i, ∃ (hi : i < d.late.length), d.late[i].1 = (a : Int) ∧ d.late[i].2 = (d.keepTo on k).getD a []
 | 0, _ => .inl rfl
 | k + 1, hk => by
  have ih := keepTo_some d on hl a ha k (by omega)
  show (if on k = true then _ else _ : List (List UInt8)).getD a [] = _ ∨ ∃ i, ∃ (hi : i < d.late.length), d.late[i].1 = (a : Int) ∧ d.late[i].2 = (if on k = true then _ else _ : List (List UInt8)).getD a []
  split
  ·rw [getD_set _ _ _ _ _ (by rw [Dk.keepTo_length]; exact ha), getD_at d.late k _ (by omega)]
   by_cases h : d.late[k].1.toNat = a
   ·rw [if_pos h]
    exact .inr ⟨k, by omega, by have := hl d.late[k] (List.getElem_mem _); omega, rfl⟩
   ·rw [if_neg h]; exact ih
  ·exact ih

/-- With all writes each block is its last one. -/
theorem Dk.keepTo_last (d : Dk) (hl : ∀ x ∈ d.late, 0 ≤ x.1) (a : Nat) (ha : a < d.blocks.length) : ∀ k, k ≤ d.late.length →
  (d.keepTo (fun _ => true) k).getD a [] = (lastW (d.late.take k) (a : Int)).getD (d.blocks.getD a [])
 | 0, _ => by simp [Dk.keepTo, lastW]
 | k + 1, hk => by
  have ih := keepTo_last d hl a ha k (by omega)
  show ((d.keepTo (fun _ => true) k).set _ _).getD a [] = _
  rw [getD_set _ _ _ _ _ (by rw [Dk.keepTo_length]; exact ha), getD_at d.late k _ (by omega), lastW_take _ _ _ (by omega)]
  have h0 := hl d.late[k] (List.getElem_mem _)
  by_cases h : d.late[k].1 = (a : Int)
  ·rw [if_pos (by omega), if_pos h]; rfl
  ·rw [if_neg (by omega), if_neg h]; exact ih
theorem Dk.flush_length (d : Dk) : d.flush.blocks.length = d.blocks.length := d.keepTo_length _ _
theorem Dk.flush_get (d : Dk) (hl : ∀ x ∈ d.late, 0 ≤ x.1) (a : Int) : d.flush.get a = d.get a := by
 unfold Dk.get
 rw [Dk.flush_length]
 by_cases h : a < 0 ∨ (d.blocks.length : Int) ≤ a
 ·rw [if_pos h, if_pos h]
 ·rw [if_neg h, if_neg h]
  have hk := d.keepTo_last hl a.toNat (by omega) d.late.length (Nat.le_refl _)
  rw [List.take_length, show ((a.toNat : Nat) : Int) = a from by omega] at hk
  show some ((lastW [] a).getD ((d.keepTo (fun _ => true) d.late.length).getD a.toNat [])) = _
  rw [hk]; rfl
theorem Dk.flush_getE (d : Dk) (a : Int) : d.flush.getE a = d.getE a := by unfold Dk.getE; rw [Dk.flush_length]
/-- The document's way: block by block, what is read there. -/
theorem Dk.flush_map (d : Dk) (hl : ∀ x ∈ d.late, 0 ≤ x.1) : d.flush.blocks = (List.range d.blocks.length).map fun (i : Nat) => (d.get (i : Int)).getD [] := by
 refine List.ext_getElem (by simp [Dk.flush_length]) fun i h1 h2 => ?_
 rw [Dk.flush_length] at h1
 rw [List.getElem_map, List.getElem_range, ← d.flush_get hl, Dk.get, if_neg (by rw [Dk.flush_length]; omega)]
 show _ = (lastW [] (i : Int)).getD (d.flush.blocks.getD (i : Int).toNat [])
 rw [show ((i : Int)).toNat = i from by omega, getD_at _ _ _ (by rw [Dk.flush_length]; exact h1)]; rfl

/-- What was written is read; others as they were. -/
theorem Dk.put_get (d : Dk) (a : Int) (b : List UInt8) (h0 : 0 ≤ a) (h1 : a < (d.blocks.length : Int)) : (d.put a b).get a = some b := by
 unfold Dk.get Dk.put
 rw [if_neg (by show ¬ _; simp only; omega)]
 simp only [lastW_snoc, if_pos]; rfl
theorem Dk.put_other (d : Dk) (a o : Int) (b : List UInt8) (h : o ≠ a) : (d.put a b).get o = d.get o := by
 unfold Dk.get Dk.put
 simp only [lastW_snoc, if_neg (fun h' : a = o => h h'.symm)]
theorem Dk.put_getE (d : Dk) (a o : Int) (b : List UInt8) : (d.put a b).getE o = d.getE o := rfl
theorem Dk.put_at (d : Dk) (a : Int) (b : List UInt8) (h : 0 ≤ a) (hl : ∀ x ∈ d.late, 0 ≤ x.1) : ∀ x ∈ (d.put a b).late, 0 ≤ x.1 := by
 intro x hx
 have hx' : x ∈ d.late ++ [(a, b)] := hx
 rcases List.mem_append.1 hx' with h1 | h1
 ·exact hl x h1
 ·rw [List.mem_singleton.1 h1]; exact h
theorem Dk.right_pos {d : Dk} (h : d.right = true) : ∀ x ∈ d.late, 0 ≤ x.1 := by
 simp only [Dk.right, Bool.and_eq_true, List.all_eq_true] at h
 intro x hx
 have := h.2 x hx
 simp only [rightW, Bool.and_eq_true, decide_eq_true_eq] at this
 exact this.1.1
end Go.Proofs.Ytgaecpdokgklpab
