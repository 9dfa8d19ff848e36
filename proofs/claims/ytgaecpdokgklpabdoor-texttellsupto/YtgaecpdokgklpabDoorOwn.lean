/-
  What bytes.Clone and block.Own make: the same bytes, the same record, the bytes in memory of their own.
  Condition: the bytes lie in memory, and fewer than 2^47 of them.
-/
import Derived.Test.YtgaecpdokgklpabDoorWrong
import Derived.Lib.SliceRun
namespace Go.Proofs.YtgaecpdokgklpabDoor
set_option maxRecDepth 100000
open Go.RowKit
open Go.Proofs.YtgaecpdokgklpabDoor.Plain Go.Proofs.YtgaecpdokgklpabDoor.Reg

theorem bcell {W w1 : World} (hb : Grow W w1) : (∀ b o, b < W.heap.size → w1.cell? ⟨b, o, none⟩ = W.cell? ⟨b, o, none⟩) ∧ (∀ b o, b < W.heap.size → w1.frozen? ⟨b, o, none⟩ = W.frozen? ⟨b, o, none⟩) :=
 ⟨fun b o h => Below.cell hb (p := ⟨b, o, none⟩) h, fun b o h => Below.frozen hb (p := ⟨b, o, none⟩) h⟩

/-- A cell that is written reads as that, where there is one: the walk's rule. -/
theorem cell_set (W : World) (a : Addr) (x : Value) : (W.setCell a x).cell? a = (W.cell? a).map fun _ => x := by
 cases h : W.cell? a with
 | some u => exact World.cell?_setCell_same W a x h
 | none =>
  unfold World.cell? at h ⊢
  simp only [World.setCell, Array.getElem?_modify, ↓reduceIte]
  cases hb : W.heap[a.block]? with
  | none => simp
  | some o =>
   cases o with
   | cells c e f =>
    simp only [hb] at h
    simp only [Option.map_some]
    split at h
    ·simp_all
    ·simp_all
   | _ => simp_all

theorem or_map {a b c d : Prop} (h : a ∨ b) (f : a → c) (g : b → d) : c ∨ d := by
 rcases h with h | h
 ·exact .inl (f h)
 ·exact .inr (g h)
theorem own_mono {w : World} {base base' : Nat} {e : TypeId} {size : Nat} {v : Value} {n : Nat} {xs : List Value} (h : w.ownsRow base e size v n xs) (hb : base' ≤ base) : w.ownsRow base' e size v n xs :=
 ⟨h.1, or_map h.2 (fun x => x) fun ⟨g, cap, cur, h1, h2, r⟩ => ⟨g, cap, cur, h1, Nat.le_trans hb h2, r⟩⟩
theorem own_set {w : World} {base : Nat} {e : TypeId} {size : Nat} {v : Value} {n : Nat} {xs : List Value} (h : w.ownsRow base e size v n xs) {a : Addr} (ha : a.block < base) (u : Value) : (w.setCell a u).ownsRow base e size v n xs :=
 ownsRow_setCell_below h ha u
theorem grow_set {w W : World} (h : Grow w W) {a : Addr} (ha : w.heap.size ≤ a.block) (u : Value) : Grow w (W.setCell a u) := Below.setCell h ha u

theorem own_slice {w : World} {base n : Nat} {e : TypeId} {v : Value} {xs : List Value} (h : w.ownsRow base e 1 v n xs) : ∃ ao cap, v = .slice ao n cap := by
 rcases h.2 with ⟨h1, h0⟩ | ⟨g, cap, cur, rfl, hb, _⟩
 ·subst h0; exact ⟨none, 0, h1⟩
 ·exact ⟨_, cap, rfl⟩

end Go.Proofs.YtgaecpdokgklpabDoor
