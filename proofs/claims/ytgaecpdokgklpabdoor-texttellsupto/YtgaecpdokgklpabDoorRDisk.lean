/-
  What the document's RightDisk, SameBlocks, SameDisk, GetBlock and PutBlock tell of any disk.
  Condition: the disk lies in memory.
-/
import Derived.Test.YtgaecpdokgklpabDoorDk
namespace Go.Proofs.YtgaecpdokgklpabDoor
set_option maxRecDepth 100000
open Go.RowKit
open Go.Proofs.YtgaecpdokgklpabDoor.Plain Go.Proofs.YtgaecpdokgklpabDoor.Reg

theorem all_take {α : Type} (p : α → Bool) (l : List α) (k : Nat) (h : k < l.length) : (l.take (k + 1)).all p = ((l.take k).all p && p l[k]) := by
 rw [List.take_succ_eq_append_getElem h]; simp only [List.all_append, List.all_cons, List.all_nil, Bool.and_true]
theorem all_not {α : Type} (p : α → Bool) (l : List α) (k : Nat) (h : k < l.length) (hp : p l[k] = false) : l.all p = false := by
 rw [List.all_eq_false]; exact ⟨l[k], List.getElem_mem h, by simp [hp]⟩

theorem rightW_no (n : Nat) (x : Wr) (h : x.1 < 0 ∨ (n : Int) ≤ x.1 ∨ x.2.length ≠ 16) : rightW n x = false := by
 unfold rightW
 rcases h with h | h | h
 ·rw [decide_eq_false (by omega)]; rfl
 ·rw [decide_eq_false (by omega)]; rfl
 ·rw [show (x.2.length == 16) = false from by simpa using h]; simp

theorem take_eq_succ {α : Type} (a b : List α) (k : Nat) (ha : k < a.length) (hb : k < b.length) (h : a.take k = b.take k) (he : a[k] = b[k]) : a.take (k + 1) = b.take (k + 1) := by
 rw [List.take_succ_eq_append_getElem ha, List.take_succ_eq_append_getElem hb, h, he]
theorem ne_of_at {α : Type} (a b : List α) (k : Nat) (ha : k < a.length) (hb : k < b.length) (he : a[k] ≠ b[k]) : a ≠ b := by
 rintro rfl; exact he rfl
theorem beq_true' {α : Type} [BEq α] [LawfulBEq α] {a b : α} (h : a = b) : (a == b) = true := by simp [h]
theorem beq_false' {α : Type} [BEq α] [LawfulBEq α] {a b : α} (h : a ≠ b) : (a == b) = false := by simpa using h

theorem late_ne (s t : List Wr) (k : Nat) (hs : k < s.length) (ht : k < t.length) (h : s[k].1 ≠ t[k].1 ∨ s[k].2 ≠ t[k].2) : (s == t) = false := by
 refine beq_false' (ne_of_at s t k hs ht (fun e => ?_))
 rcases h with h | h
 ·exact h (by rw [e])
 ·exact h (by rw [e])

end Go.Proofs.YtgaecpdokgklpabDoor
