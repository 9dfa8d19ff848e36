/-
  What a disk is, told of lists: of none of its writes, of some, of all; a block turned; a new disk. No program.
-/
import Derived.Test.YtppgbgfahifanaaRGet
namespace Go.Proofs.Ytppgbgfahifanaa
set_option maxRecDepth 100000
open Go.Proofs.Ytppgbgfahifanaa.Plain

/-- A byte turned. -/
def turned (b : List UInt8) (n : Int) (y : Int) : List UInt8 := if 0 ≤ n ∧ n < (b.length : Int) then b.set n.toNat (b.getD n.toNat 0 ^^^ lo y) else b
theorem Dk.right_len {d : Dk} (h : d.right = true) : d.blocks.length = 12 := by
  simp only [Dk.right, Bool.and_eq_true, beq_iff_eq] at h; exact h.1.1.1
theorem Dk.right_few {d : Dk} (h : d.right = true) : d.late.length ≤ 40 := by
  simp only [Dk.right, Bool.and_eq_true, decide_eq_true_eq] at h; exact h.1.1.2
theorem Dk.right_block {d : Dk} (h : d.right = true) (i : Nat) (hi : i < d.blocks.length) : d.blocks[i].length = 16 := by
  simp only [Dk.right, Bool.and_eq_true, List.all_eq_true, beq_iff_eq] at h; exact h.1.2 _ (List.getElem_mem hi)
theorem Dk.right_late {d : Dk} (h : d.right = true) (i : Nat) (hi : i < d.late.length) : 0 ≤ d.late[i].1 ∧ d.late[i].1 < (d.blocks.length : Int) ∧ d.late[i].2.length = 16 := by
  simp only [Dk.right, Bool.and_eq_true, List.all_eq_true] at h
  have := h.2 _ (List.getElem_mem hi)
  simp only [rightW, Bool.and_eq_true, decide_eq_true_eq, beq_iff_eq] at this
  exact ⟨this.1.1, this.1.2, this.2⟩

theorem getD_at {α : Type} (l : List α) (i : Nat) (x : α) (h : i < l.length) : l.getD i x = l[i] := by
  rw [List.getD_eq_getElem?_getD, List.getElem?_eq_getElem h]; rfl
theorem getD_set {α : Type} (l : List α) (i j : Nat) (y x : α) (h : i < l.length) : (l.set j y).getD i x = if j = i then y else l.getD i x := by
  rw [List.getD_eq_getElem?_getD, List.getD_eq_getElem?_getD, List.getElem?_set]
  by_cases hj : j = i
  · subst hj; simp [h]
  · simp [hj]

end Go.Proofs.Ytppgbgfahifanaa
