/-
  Disks: plain lists, and how they lie in memory. No program but its types' numbers.
  No condition.
-/
import Derived.Test.YtpfbddhlkckfhabDoorBRead
namespace Go.Proofs.YtpfbddhlkckfhabDoor
set_option maxRecDepth 100000
open Go.RowKit
open Go.Proofs.YtpfbddhlkckfhabDoor.Plain Go.Proofs.YtpfbddhlkckfhabDoor.Reg

/-! ### The same, with the blocks told that it leans on -/

def BytesS (S : Nat → Prop) (w : World) (v : Value) (l : List UInt8) : Prop :=
  (∃ ao cap, v = .slice ao 0 cap ∧ l = [] ∧ (ao = none → cap = 0)) ∨
  (∃ b off cap, S b ∧ v = .slice (some ⟨b, off, none⟩) l.length cap ∧ l.length ≤ cap ∧ ∀ (i : Nat) (h : i < l.length), w.cell? ⟨b, off + i, none⟩ = some (.int .u8 (l[i].toNat : Int)))
theorem BytesS.p {S : Nat → Prop} {w : World} {v : Value} {l : List UInt8} (h : BytesS S w v l) : Bytes w v l := by
  rcases h with h | ⟨b, off, cap, _, h⟩
  · exact .inl h
  · exact .inr ⟨b, off, cap, h⟩
theorem bytes_s {w : World} {v : Value} {l : List UInt8} (h : Bytes w v l) : BytesS (fun b => b < w.heap.size) w v l := by
  by_cases h0 : l = []
  · subst h0
    rcases h with h | ⟨b, off, cap, rfl, h1, hc⟩
    · exact .inl h
    · exact .inl ⟨_, cap, rfl, rfl, fun h => by cases h⟩
  · rcases h with ⟨_, _, _, h1, _⟩ | ⟨b, off, cap, h2, h1, hc⟩
    · exact absurd h1 h0
    · exact .inr ⟨b, off, cap, cell_lt (hc 0 (List.length_pos_iff.2 h0)), h2, h1, hc⟩
end Go.Proofs.YtpfbddhlkckfhabDoor
