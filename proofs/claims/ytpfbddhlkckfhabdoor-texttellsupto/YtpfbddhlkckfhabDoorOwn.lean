/-
  What bytes.Clone and block.Own make: the same bytes, the same record, the bytes in memory of their own.
  Condition: the bytes lie in memory, and fewer than 2^47 of them.
-/
import Derived.Test.YtpfbddhlkckfhabDoorWrong
import Derived.Lib.SliceRun
namespace Go.Proofs.YtpfbddhlkckfhabDoor
set_option maxRecDepth 100000
open Go.RowKit
open Go.Proofs.YtpfbddhlkckfhabDoor.Plain Go.Proofs.YtpfbddhlkckfhabDoor.Reg

/-- A cell that is written reads as that, where there is one: the walk's rule. -/
theorem cell_set (W : World) (a : Addr) (x : Value) : (W.setCell a x).cell? a = (W.cell? a).map fun _ => x := by
  cases h : W.cell? a with
  | some u => exact World.cell?_setCell_same W a x h
  | none =>
    unfold World.cell? at h ⊢
    simp only [World.setCell, Array.getElem?_modify, ↓reduceIte]
    cases hb : W.heap[a.block]? with
    | none => simp
    | some o =>
      cases o with
      | cells c e f =>
        simp only [hb] at h
        simp only [Option.map_some]
        split at h
        · simp_all
        · simp_all
      | _ => simp_all

theorem or_map {a b c d : Prop} (h : a ∨ b) (f : a → c) (g : b → d) : c ∨ d := by
  rcases h with h | h
  · exact .inl (f h)
  · exact .inr (g h)
theorem grow_set {w W : World} (h : Grow w W) {a : Addr} (ha : w.heap.size ≤ a.block) (u : Value) : Grow w (W.setCell a u) := Below.setCell h ha u

theorem own_slice {w : World} {base n : Nat} {e : TypeId} {v : Value} {xs : List Value} (h : w.ownsRow base e 1 v n xs) : ∃ ao cap, v = .slice ao n cap := by
  rcases h.2 with ⟨h1, h0⟩ | ⟨g, cap, cur, rfl, hb, _⟩
  · subst h0; exact ⟨none, 0, h1⟩
  · exact ⟨_, cap, rfl⟩

end Go.Proofs.YtpfbddhlkckfhabDoor
