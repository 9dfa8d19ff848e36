/-
  What the document's Print writes of a right deed.
  Condition: strconv.Itoa keeps its contract (premise).
-/
import Derived.Test.YtpfbddhlkckfhabDoorTextLaw
import Derived.Lib.ItoaLen
namespace Go.Proofs.YtpfbddhlkckfhabDoor
set_option maxRecDepth 100000
open Go.RowKit
open Go.Proofs.YtpfbddhlkckfhabDoor.Plain Go.Proofs.YtpfbddhlkckfhabDoor.Reg

def ItoaC (V : World → Prop) : Prop := ∀ (n : Int) (w : World), V w → -9223372036854775808 ≤ n → n ≤ 9223372036854775807 →
  Calls Tryd.prog 20 #[.int .i64 n] w fun r w' => r = .returned (.string ⟨(Lib.itoa n).toArray⟩) ∧ Grow w w'
theorem bytes_app (a b : List UInt8) : (ByteArray.mk a.toArray) ++ (ByteArray.mk b.toArray) = ByteArray.mk (a ++ b).toArray := by
  apply ByteArray.ext
  simp
/-! ### The bytes -/

def hexS : List UInt8 := [48, 49, 50, 51, 52, 53, 54, 55, 56, 57, 97, 98, 99, 100, 101, 102]
theorem hexS_at {k : Nat} (h : k < 16) : hexS[k]? = some (hexd k) := by
  have : k = 0 ∨ k = 1 ∨ k = 2 ∨ k = 3 ∨ k = 4 ∨ k = 5 ∨ k = 6 ∨ k = 7 ∨ k = 8 ∨ k = 9 ∨ k = 10 ∨ k = 11 ∨ k = 12 ∨ k = 13 ∨ k = 14 ∨ k = 15 := by omega
  rcases this with rfl | rfl | rfl | rfl | rfl | rfl | rfl | rfl | rfl | rfl | rfl | rfl | rfl | rfl | rfl | rfl <;> rfl
theorem exec_hex (w : World) (ev : Operand → Value) (o : Oper) (y : Operand) (ho : o.op = Op.index 9 (.const (.string ⟨#[48, 49, 50, 51, 52, 53, 54, 55, 56, 57, 97, 98, 99, 100, 101, 102]⟩)) y) (kd : IntKind) (k : Nat) (hk : k < 16) (ek : ∀ x, ev (.const x) = x) (hy : ev y = .int kd (k : Int)) :
    (execOp ev o).run Tryd.prog w = .ok (.value (.int .u8 ((hexd k).toNat : Int))) w := by
  have : k = 0 ∨ k = 1 ∨ k = 2 ∨ k = 3 ∨ k = 4 ∨ k = 5 ∨ k = 6 ∨ k = 7 ∨ k = 8 ∨ k = 9 ∨ k = 10 ∨ k = 11 ∨ k = 12 ∨ k = 13 ∨ k = 14 ∨ k = 15 := by omega
  unfold execOp
  rw [ho]
  rcases this with rfl | rfl | rfl | rfl | rfl | rfl | rfl | rfl | rfl | rfl | rfl | rfl | rfl | rfl | rfl | rfl <;> (go_simp; rfl)

theorem bytes_at {w : World} {ao : Option Addr} {n cap : Nat} {l : List UInt8} (h : Bytes w (.slice ao n cap) l) (i : Nat) (hi : i < l.length) : ∃ b off, ao = some ⟨b, off, none⟩ ∧ w.cell? ⟨b, off + i, none⟩ = some (.int .u8 (l[i].toNat : Int)) := by
  rcases h with ⟨_, _, _, rfl, _⟩ | ⟨b, off, cp, h2, h3, h4⟩
  · simp at hi
  · cases h2
    exact ⟨b, off, rfl, h4 i hi⟩
theorem hexB_len : ∀ l : List UInt8, (hexB l).length = 2 * l.length
  | [] => rfl
  | c :: l => by
    unfold hexB
    simp [hexB_len l]; omega
theorem hexB_append : ∀ a b : List UInt8, hexB (a ++ b) = hexB a ++ hexB b
  | [], b => rfl
  | c :: a, b => by
    show hexd _ :: hexd _ :: hexB (a ++ b) = _
    rw [hexB_append a b]; rfl
theorem hexB_next (l : List UInt8) (k : Nat) (h : k < l.length) : hexB (l.take (k + 1)) = hexB (l.take k) ++ [hexd (l[k].toNat / 16), hexd (l[k].toNat % 16)] := by
  rw [List.take_succ_eq_append_getElem h, hexB_append]; rfl
end Go.Proofs.YtpfbddhlkckfhabDoor
