/-
  What the document's digits reads of a word: bytes, two digits each.
-/
import Derived.Test.YtpfbddhlkckfhabDoorRPrint
namespace Go.Proofs.YtpfbddhlkckfhabDoor
set_option maxRecDepth 100000
open Go.RowKit
open Go.Proofs.YtpfbddhlkckfhabDoor.Plain Go.Proofs.YtpfbddhlkckfhabDoor.Reg

theorem unhex_odd : ∀ (s : List UInt8), s.length % 2 = 1 → unhex s = none
  | [], h => by simp at h
  | [_], _ => rfl
  | a :: b :: s, h => by
    unfold unhex
    rw [unhex_odd s (by simp at h; omega)]
    cases hexV a <;> cases hexV b <;> rfl
theorem unhex_bad : ∀ (s : List UInt8) (j : Nat) (h : j < s.length), hexV s[j] = none → unhex s = none
  | [], j, h, _ => by simp at h
  | [_], _, _, _ => rfl
  | a :: b :: s, 0, _, h => by
    unfold unhex
    rw [show hexV a = none from h]
  | a :: b :: s, 1, _, h => by
    unfold unhex
    rw [show hexV b = none from h]
    cases hexV a <;> rfl
  | a :: b :: s, j + 2, hj, h => by
    unfold unhex
    rw [unhex_bad s j (by simp at hj; omega) h]
    cases hexV a <;> cases hexV b <;> rfl
theorem dataR_bad {s : List UInt8} (hs : s ≠ [45]) {j : Nat} (h : j < s.length) (hb : hexV s[j] = none) : dataR s = none := by
  unfold dataR
  rw [if_neg hs]
  split
  · rfl
  · exact unhex_bad s j h hb
theorem exec_at (w : World) (ev : Operand → Value) (o : Oper) (x y : Operand) (ho : o.op = Op.index 9 x y) (s : List UInt8) (i : Nat) (hi : i < s.length) (hx : ev x = .string ⟨s.toArray⟩) (hy : ev y = .int .i64 (i : Int)) :
    (execOp ev o).run Tryd.prog w = .ok (.value (.int .u8 (s[i].toNat : Int))) w := by
  unfold execOp
  rw [ho]
  go_simp
  rfl
end Go.Proofs.YtpfbddhlkckfhabDoor
