/-
  What the document's RightDisk, SameBlocks, SameDisk, GetBlock and PutBlock tell of any disk.
  Condition: the disk lies in memory.
-/
import Derived.Test.YtgaecpdokgklpabDk
namespace Go.Proofs.Ytgaecpdokgklpab
set_option maxRecDepth 100000
open Go.RowKit
open Go.Proofs.Ytgaecpdokgklpab.Plain Go.Proofs.Ytgaecpdokgklpab.Reg

theorem all_take {α : Type} (p : α → Bool) (l : List α) (k : Nat) (h : k < l.length) : (l.take (k + 1)).all p = ((l.take k).all p && p l[k]) := by
 rw [List.take_succ_eq_append_getElem h]; simp only [List.all_append, List.all_cons, List.all_nil, Bool.and_true]
theorem all_not {α : Type} (p : α → Bool) (l : List α) (k : Nat) (h : k < l.length) (hp : p l[k] = false) : l.all p = false := by
 rw [List.all_eq_false]; exact ⟨l[k], List.getElem_mem h, by simp [hp]⟩

theorem rightW_no (n : Nat) (x : Wr) (h : x.1 < 0 ∨ (n : Int) ≤ x.1 ∨ x.2.length ≠ 16) : rightW n x = false := by
 unfold rightW
 rcases h with h | h | h
 ·rw [decide_eq_false (by omega)]; rfl
 ·rw [decide_eq_false (by omega)]; rfl
 ·rw [show (x.2.length == 16) = false from by simpa using h]; simp

set_option maxHeartbeats 2000000 in
theorem rightDisk_any (d : Dk) (vb vl : Value) (w : World) (hb : BlocksP w vb d.blocks) (hl : LateP w vl d.late) :
  Calls Try.prog 9 #[.agg #[vb, vl]] w fun e w' => e = .returned (.bool d.right) ∧ Grow w w' := by
 obtain ⟨ab, cb, rfl⟩ := hb.form
 obtain ⟨al, cl, rfl⟩ := hl.form
 by_cases h12 : d.blocks.length = 12
 ·by_cases h40 : d.late.length ≤ 40
  ·have HD : Hid (d.right = (d.blocks.all (fun b => b.length == 16) && d.late.all (rightW d.blocks.length))) := by show d.right = _; unfold Dk.right; rw [h12]; simp [h40]
   have d1 : ((d.blocks.length : Int) != 12) = false := by simp [h12]
   have hB12 : d.blocks.length ≤ 12 := by omega
   clear h12
   have hbW := hb.grow (grow_alloc w (.cells #[.slice ab d.blocks.length cb, .slice al d.late.length cl] 25))
   have hlW := hl.grow (grow_alloc w (.cells #[.slice ab d.blocks.length cb, .slice al d.late.length cl] 25))
   have hx := heap_new w #[.slice ab d.blocks.length cb, .slice al d.late.length cl] 25
   have gW := grow_alloc w (.cells #[.slice ab d.blocks.length cb, .slice al d.late.length cl] 25)
   clear hb hl
   go_enter Try.func9, Try.ntmps9
   go_wp2_with fail
   generalize World.alloc w _ = W at *
   obtain ⟨x0, x1⟩ := box2 hx rfl rfl
   go_loop [20] (fun i => ∃ k : Nat, k ≤ d.blocks.length ∧ i = .int .i64 k ∧ (d.blocks.take k).all (fun b => b.length == 16) = true) (fun i => d.blocks.length - (intOf i).toNat)
   case atStart => exact ⟨0, Nat.zero_le _, rfl, rfl⟩
   case round =>
    obtain ⟨k, hk, rfl, hall⟩ := hrel
    by_cases hlt : k < d.blocks.length
    ·obtain ⟨b, off, rfl, u, hu, hub⟩ := hbW.at k hlt
     obtain ⟨au, cu, rfl, -, -⟩ := bytes_src hub
     have hs := all_take (fun b : List UInt8 => b.length == 16) d.blocks k hlt
     rw [hall, Bool.true_and] at hs
     have HA : Hid _ := hs
     clear hs hall
     by_cases h16 : d.blocks[k].length = 16
     ·have d2 : ((d.blocks[k].length : Int) != 16) = false := by simp [h16]
      have HG : Hid ((d.blocks.take (k + 1)).all (fun b => b.length == 16) = true) := by show _ = true; rw [HA.out]; simp [h16]
      clear hub h16
      go_wp2_with fail
      go_round
      case rel => exact ⟨k + 1, by omega, by go_num, HG.out⟩
      case measure => simp [intOf]; omega
     ·have d2 : ((d.blocks[k].length : Int) != 16) = true := by simp; omega
      have HG : Hid (d.right = false) := by
       show d.right = false
       rw [HD.out, all_not _ _ k hlt (by simpa using h16)]; rfl
      clear hub h16
      go_wp2_with fail
      go_ret
      exact ⟨ret_bool HG.out.symm, gW⟩
    ·have HB : Hid (d.blocks.all (fun b => b.length == 16) = true) := by
      show _ = true
      rw [← hall, List.take_of_length_le (by omega)]
     clear hall hbW
     go_wp2_with fail
     go_loopw [31] (fun i wr => ∃ j : Nat, j ≤ d.late.length ∧ i = .int .i64 j ∧ Grow W wr ∧ (d.late.take j).all (rightW d.blocks.length) = true) (fun i _ => d.late.length - (intOf i).toNat)
     case atStart => exact ⟨0, Nat.zero_le _, rfl, Grow.refl _, rfl⟩
     case round =>
      obtain ⟨j, hj, rfl, gr, hall⟩ := hrel
      by_cases hlj : j < d.late.length
      ·obtain ⟨b, off, rfl, hc0, u, hu, hub⟩ := (hlW.grow gr).at j hlj
       obtain ⟨au, cu, rfl, -, -⟩ := bytes_src hub
       have hs := all_take (rightW d.blocks.length) d.late j hlj
       rw [hall, Bool.true_and] at hs
       have HA : Hid _ := hs
       have hx0 := (Below.cell gr (cell_lt x0)).trans x0
       have hz := Nat.lt_of_lt_of_le (cell_lt x0) gr.size
       clear hs hall hub
       generalize hat : d.late[j].1 = at_ at *
       have HAT : Hid (d.late[j].1 = at_) := hat
       clear hat
       by_cases hr : rightW d.blocks.length d.late[j] = true
       ·have hrr : 0 ≤ at_ ∧ at_ < (d.blocks.length : Int) ∧ d.late[j].2.length = 16 := by
         have hr2 := hr
         unfold rightW at hr2
         rw [HAT.out] at hr2
         simp at hr2
         omega
        obtain ⟨r0, r1, r2⟩ := hrr
        have d2 : ((d.late[j].2.length : Int) != 16) = false := by simp [r2]
        have HG : Hid ((d.late.take (j + 1)).all (rightW d.blocks.length) = true) := by show _ = true; rw [HA.out]; exact hr
        clear hr r2
        go_wp2_with fail
        go_roundw
        case rel => exact ⟨j + 1, by omega, by go_num, gr.trans (grow_alloc _ _), HG.out⟩
        case measure => simp [intOf]; omega
       ·have HG : Hid (d.right = false) := by
         show d.right = false
         rw [HD.out, all_not _ d.late j hlj (by simpa using hr)]; simp
        have hrr : at_ < 0 ∨ (0 ≤ at_ ∧ (d.blocks.length : Int) ≤ at_) ∨ (0 ≤ at_ ∧ at_ < (d.blocks.length : Int) ∧ d.late[j].2.length ≠ 16) := by
         unfold rightW at hr
         rw [HAT.out] at hr
         simp at hr
         omega
        clear hr
        rcases hrr with r0 | ⟨r0, r1⟩ | ⟨r0, r1, r2⟩
        ·go_wp2_with fail
         go_ret
         exact ⟨ret_bool HG.out.symm, gW.trans (gr.trans (grow_alloc _ _))⟩
        ·go_wp2_with fail
         go_ret
         exact ⟨ret_bool HG.out.symm, gW.trans (gr.trans (grow_alloc _ _))⟩
        ·have d2 : ((d.late[j].2.length : Int) != 16) = true := by simp; omega
         clear r2
         go_wp2_with fail
         go_ret
         exact ⟨ret_bool HG.out.symm, gW.trans (gr.trans (grow_alloc _ _))⟩
      ·have HG : Hid (d.right = true) := by
        show d.right = true
        rw [List.take_of_length_le (by omega)] at hall
        rw [HD.out, HB.out, hall]; rfl
       clear hall
       go_wp2_with fail
       go_ret
       exact ⟨ret_bool HG.out.symm, gW.trans gr⟩
  ·have HD : Hid (d.right = false) := by show d.right = _; unfold Dk.right; rw [decide_eq_false h40]; simp
   have d1 : ((d.blocks.length : Int) != 12) = false := by simp [h12]
   have h41 : 40 < d.late.length := by omega
   clear h12
   go_enter Try.func9, Try.ntmps9
   go_wp2_with fail
   go_ret
   exact ⟨ret_bool HD.out.symm, grow_alloc _ _⟩
 ·have HD : Hid (d.right = false) := by show d.right = _; unfold Dk.right; rw [show (d.blocks.length == 12) = false from by simpa using h12]; rfl
  have d1 : ((d.blocks.length : Int) != 12) = true := by simp; omega
  clear h12
  go_enter Try.func9, Try.ntmps9
  go_wp2_with fail
  go_ret
  exact ⟨ret_bool HD.out.symm, grow_alloc _ _⟩

theorem take_eq_succ {α : Type} (a b : List α) (k : Nat) (ha : k < a.length) (hb : k < b.length) (h : a.take k = b.take k) (he : a[k] = b[k]) : a.take (k + 1) = b.take (k + 1) := by
 rw [List.take_succ_eq_append_getElem ha, List.take_succ_eq_append_getElem hb, h, he]
theorem ne_of_at {α : Type} (a b : List α) (k : Nat) (ha : k < a.length) (hb : k < b.length) (he : a[k] ≠ b[k]) : a ≠ b := by
 rintro rfl; exact he rfl
theorem beq_true' {α : Type} [BEq α] [LawfulBEq α] {a b : α} (h : a = b) : (a == b) = true := by simp [h]
theorem beq_false' {α : Type} [BEq α] [LawfulBEq α] {a b : α} (h : a ≠ b) : (a == b) = false := by simpa using h

theorem late_ne (s t : List Wr) (k : Nat) (hs : k < s.length) (ht : k < t.length) (h : s[k].1 ≠ t[k].1 ∨ s[k].2 ≠ t[k].2) : (s == t) = false := by
 refine beq_false' (ne_of_at s t k hs ht (fun e => ?_))
 rcases h with h | h
 ·exact h (by rw [e])
 ·exact h (by rw [e])

end Go.Proofs.Ytgaecpdokgklpab
