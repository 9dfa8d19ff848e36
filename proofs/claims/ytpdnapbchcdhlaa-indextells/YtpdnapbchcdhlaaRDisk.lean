import Derived.Test.YtpdnapbchcdhlaaDk
set_option maxHeartbeats 8000000
namespace Go.Proofs.Ytpdnapbchcdhlaa
set_option maxRecDepth 100000
open Go.RowKit
open Plain Reg
variable {α : Type}
theorem Zdl (p : α → Bool) (l : List α) (k : Nat) (h : k < l.length) : (l.take (k + 1)).all p = ((l.take k).all p && p l[k]) := by
 rw [List.take_succ_eq_append_getElem h]; simp only [List.all_append, List.all_cons, List.all_nil, Bool.and_true]
theorem Zfi (p : α → Bool) (l : List α) (k : Nat) (h : k < l.length) (hp : p l[k] = false) : l.all p = false := by
 rw [List.all_eq_false]; exact ⟨l[k], List.getElem_mem h, by simp [hp]⟩
theorem Zay (d : Dk) (vb vl : Value) (w : World) (hb : Xe w vb d.blocks) (hl : Qs w vl d.late) :
  Calls Try.prog 37 #[.agg #[vb, vl]] w fun e w' => e = .returned (.bool d.right) ∧ Zm w w' := by
 obtain ⟨ab, cb, rfl⟩ := hb.form;obtain ⟨al, cl, rfl⟩ := hl.form;by_cases h12 : d.blocks.length = 12
 ·by_cases h40 : d.late.length ≤ 40
  ·have HD : Hid (d.right = (d.blocks.all (fun b => b.length == 16) && d.late.all (Vn d.blocks.length))) := by show d.right = _; unfold Dk.right; rw [h12]; simp [h40]
   have d1 : ((d.blocks.length : Int) != 12) = false := by simp [h12]
   have hB12 : d.blocks.length ≤ 12 := by omega
   clear h12;have hbW := hb.grow (Zh w (.cells #[.slice ab d.blocks.length cb, .slice al d.late.length cl] 46));have hlW := hl.grow (Zh w (.cells #[.slice ab d.blocks.length cb, .slice al d.late.length cl] 46));have hx := Zu w #[.slice ab d.blocks.length cb, .slice al d.late.length cl] 46;have gW := Zh w (.cells #[.slice ab d.blocks.length cb, .slice al d.late.length cl] 46);clear hb hl;go_enter Try.func37, Try.ntmps37;go_wp2_with fail;generalize World.alloc w _ = W at *;obtain ⟨x0, x1⟩ := Zb6 hx rfl rfl
   go_loop [20] (fun i => ∃ k : Nat, k ≤ d.blocks.length ∧ i = .int .i64 k ∧ (d.blocks.take k).all (fun b => b.length == 16) = true) (fun i => d.blocks.length - (intOf i).toNat)
   case atStart => exact ⟨0, Nat.zero_le _, rfl, rfl⟩
   case round =>
    obtain ⟨k, hk, rfl, hall⟩ := hrel;by_cases hlt : k < d.blocks.length
    ·obtain ⟨b, off, rfl, u, hu, hub⟩ := hbW.at k hlt;obtain ⟨au, cu, rfl, -, -⟩ := Yn hub;have hs := Zdl (fun b : List UInt8 => b.length == 16) d.blocks k hlt;rw [hall, Bool.true_and] at hs;have HA : Hid _ := hs;clear hs hall;by_cases h16 : d.blocks[k].length = 16
     ·have d2 : ((d.blocks[k].length : Int) != 16) = false := by simp [h16]
      have HG : Hid ((d.blocks.take (k + 1)).all (fun b => b.length == 16) = true) := by show _ = true; rw [HA.out]; simp [h16]
      clear hub h16;go_wp2_with fail
      go_round
      case rel => exact ⟨k + 1, by omega, by go_num, HG.out⟩
      case measure => simp [intOf]; omega
     ·have d2 : ((d.blocks[k].length : Int) != 16) = true := by simp; omega
      have HG : Hid (d.right = false) := by
       show d.right = false;rw [HD.out, Zfi _ _ k hlt (by simpa using h16)]; rfl
      clear hub h16;go_wp2_with fail;go_ret;exact ⟨Qd HG.out.symm, gW⟩
    ·have HB : Hid (d.blocks.all (fun b => b.length == 16) = true) := by
      show _ = true;rw [← hall, List.take_of_length_le (by omega)]
     clear hall hbW;go_wp2_with fail;go_loopw [31] (fun i wr => ∃ j : Nat, j ≤ d.late.length ∧ i = .int .i64 j ∧ Zm W wr ∧ (d.late.take j).all (Vn d.blocks.length) = true) (fun i _ => d.late.length - (intOf i).toNat)
     case atStart => exact ⟨0, Nat.zero_le _, rfl, Zm.refl _, rfl⟩
     case round =>
      obtain ⟨j, hj, rfl, gr, hall⟩ := hrel;by_cases hlj : j < d.late.length
      ·obtain ⟨b, off, rfl, hc0, u, hu, hub⟩ := (hlW.grow gr).at j hlj;obtain ⟨au, cu, rfl, -, -⟩ := Yn hub;have hs := Zdl (Vn d.blocks.length) d.late j hlj;rw [hall, Bool.true_and] at hs;have HA : Hid _ := hs;have hx0 := (Below.cell gr (Zn x0)).trans x0;have hz := Nat.lt_of_lt_of_le (Zn x0) gr.size;clear hs hall hub;generalize hat : d.late[j].1 = at_ at *;have HAT : Hid (d.late[j].1 = at_) := hat;clear hat;by_cases hr : Vn d.blocks.length d.late[j] = true
       ·have hrr : 0 ≤ at_ ∧ at_ < (d.blocks.length : Int) ∧ d.late[j].2.length = 16 := by
         have hr2 := hr;unfold Vn at hr2;rw [HAT.out] at hr2;simp at hr2;omega
        obtain ⟨r0, r1, r2⟩ := hrr;have d2 : ((d.late[j].2.length : Int) != 16) = false := by simp [r2]
        have HG : Hid ((d.late.take (j + 1)).all (Vn d.blocks.length) = true) := by show _ = true; rw [HA.out]; exact hr
        clear hr r2;go_wp2_with fail;go_roundw
        case rel => exact ⟨j + 1, by omega, by go_num, gr.trans (Zh _ _), HG.out⟩
        case measure => simp [intOf]; omega
       ·have HG : Hid (d.right = false) := by
         show d.right = false;rw [HD.out, Zfi _ d.late j hlj (by simpa using hr)]; simp
        have hrr : at_ < 0 ∨ (0 ≤ at_ ∧ (d.blocks.length : Int) ≤ at_) ∨ (0 ≤ at_ ∧ at_ < (d.blocks.length : Int) ∧ d.late[j].2.length ≠ 16) := by
         unfold Vn at hr;rw [HAT.out] at hr;simp at hr;omega
        clear hr;rcases hrr with r0 | ⟨r0, r1⟩ | ⟨r0, r1, r2⟩
        ·go_wp2_with fail;go_ret;exact ⟨Qd HG.out.symm, gW.trans (gr.trans (Zh _ _))⟩
        ·go_wp2_with fail;go_ret;exact ⟨Qd HG.out.symm, gW.trans (gr.trans (Zh _ _))⟩
        ·have d2 : ((d.late[j].2.length : Int) != 16) = true := by simp; omega
         clear r2;go_wp2_with fail;go_ret;exact ⟨Qd HG.out.symm, gW.trans (gr.trans (Zh _ _))⟩
      ·have HG : Hid (d.right = true) := by
        show d.right = true;rw [List.take_of_length_le (by omega)] at hall;rw [HD.out, HB.out, hall]; rfl
       clear hall;go_wp2_with fail;go_ret;exact ⟨Qd HG.out.symm, gW.trans gr⟩
  ·have HD : Hid (d.right = false) := by show d.right = _; unfold Dk.right; rw [decide_eq_false h40]; simp
   have d1 : ((d.blocks.length : Int) != 12) = false := by simp [h12]
   have h41 : 40 < d.late.length := by omega
   clear h12;go_enter Try.func37, Try.ntmps37;go_wp2_with fail;go_ret;exact ⟨Qd HD.out.symm, Zh _ _⟩
 ·have HD : Hid (d.right = false) := by show d.right = _; unfold Dk.right; rw [show (d.blocks.length == 12) = false from by simpa using h12]; rfl
  have d1 : ((d.blocks.length : Int) != 12) = true := by simp; omega
  clear h12;go_enter Try.func37, Try.ntmps37;go_wp2_with fail;go_ret;exact ⟨Qd HD.out.symm, Zh _ _⟩
theorem Qk [BEq α] [LawfulBEq α] {a b : α} (h : a ≠ b) : (a == b) = false := by simpa using h
end Go.Proofs.Ytpdnapbchcdhlaa
