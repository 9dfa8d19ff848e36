/-
  Rows of things, of whatever shape, in memory: what is told of them. No program but the types' numbers.
-/
import Derived.Test.YtpfbddhlkckfhabDoorROut
namespace Go.Proofs.YtpfbddhlkckfhabDoor
set_option maxRecDepth 100000
open Go.RowKit
open Go.Proofs.YtpfbddhlkckfhabDoor.Plain Go.Proofs.YtpfbddhlkckfhabDoor.Reg

theorem BytesS.form {S : Nat → Prop} {w : World} {v : Value} {l : List UInt8} (h : BytesS S w v l) : ∃ ao cap, v = .slice ao l.length cap := by
  rcases h with ⟨ao, cap, rfl, rfl, _⟩ | ⟨b, off, cap, _, rfl, _⟩
  · exact ⟨ao, cap, rfl⟩
  · exact ⟨_, cap, rfl⟩
/-! ### A row that grows -/

/-! ### Records, and entries -/

/-- An entry of an index. -/
structure Ent where
  rc : Rec
  pair : Int

end Go.Proofs.YtpfbddhlkckfhabDoor
