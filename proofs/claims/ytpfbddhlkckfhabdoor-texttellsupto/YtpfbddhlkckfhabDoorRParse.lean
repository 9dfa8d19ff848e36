/-
  Ahead of what the document's Parse reads of a text: its 'no', rows of words, and how a text is parted into words (Parse itself is not walked yet).
-/
import Derived.Test.YtpfbddhlkckfhabDoorRDigits
import Derived.Test.YtpfbddhlkckfhabDoorRowApp
namespace Go.Proofs.YtpfbddhlkckfhabDoor
set_option maxRecDepth 100000
open Go.RowKit
open Go.Proofs.YtpfbddhlkckfhabDoor.Plain Go.Proofs.YtpfbddhlkckfhabDoor.Reg

/-- What strconv.Atoi is asked for. -/
def AtoiC (V : World → Prop) : Prop := ∀ (s : List UInt8) (w : World), V w → s.length ≤ 140737488355328 →
  Calls Tryd.prog 19 #[.string ⟨s.toArray⟩] w fun r w' => (∃ n ev, r = .returned (.tuple #[.int .i64 n, ev]) ∧ ((Lib.atoiAll s = .ok n ∧ ev = .nilIface ∧ -9223372036854775808 ≤ n ∧ n ≤ 9223372036854775807) ∨ ((∀ v, Lib.atoiAll s ≠ .ok v) ∧ ∃ T p, ev = .iface T p))) ∧ Grow w w'
theorem cut_bytes (s : List UInt8) (f k : Nat) : (ByteArray.mk s.toArray).extract f k = ByteArray.mk ((s.drop f).take (k - f)).toArray := by
  apply ByteArray.ext
  simp [ByteArray.data_extract]
/-! ### How a text is parted -/

end Go.Proofs.YtpfbddhlkckfhabDoor
