/-
  What block.Read tells of any bytes at a place: the record that stands in them, or why they are no block of it.
  Condition: the slice holds those bytes.
-/
import Derived.Test.YtpfbddhlkckfhabDoorRBytes
namespace Go.Proofs.YtpfbddhlkckfhabDoor
set_option maxRecDepth 100000
open Go.RowKit
open Go.Proofs.YtpfbddhlkckfhabDoor.Plain Go.Proofs.YtpfbddhlkckfhabDoor.Reg

theorem heap_lt {w : World} {g : Nat} {o : Obj} (h : w.heap[g]? = some o) : g < w.heap.size := by
  rcases Nat.lt_or_ge g w.heap.size with hl | hl
  · exact hl
  · rw [Array.getElem?_eq_none hl] at h; cases h
theorem own_grow {w w' : World} {base : Nat} {e : TypeId} {size : Nat} {v : Value} {n : Nat} {xs : List Value} (h : w.ownsRow base e size v n xs) (hg : Grow w w') : w'.ownsRow base e size v n xs :=
  ⟨h.1, or_map h.2 (fun x => x) fun ⟨g, cap, cur, h1, h2, h3, r⟩ => ⟨g, cap, cur, h1, h2, (hg.block g (heap_lt h3)).trans h3, r⟩⟩
theorem heap_set {w : World} {g : Nat} {c : Array Value} {T : TypeId} {f} (h : w.heap[g]? = some (.cells c T f)) (i : Nat) (x : Value) : (w.setCell ⟨g, i, none⟩ x).heap[g]? = some (.cells (c.setIfInBounds i x) T f) := by
  simp only [World.setCell, Array.getElem?_modify, if_true, h, Option.map_some]
  rfl
/-- Four cells of a block are written. -/
theorem box_put {w : World} {g : Nat} {T : TypeId} {f} {c0 c1 c2 c3 : Value} (h : w.heap[g]? = some (.cells #[c0, c1, c2, c3] T f)) (x0 x1 x2 x3 : Value) :
    ((((w.setCell ⟨g, 0, none⟩ x0).setCell ⟨g, 1, none⟩ x1).setCell ⟨g, 2, none⟩ x2).setCell ⟨g, 3, none⟩ x3).heap[g]? = some (.cells #[x0, x1, x2, x3] T f) ∧ GrowBut g w ((((w.setCell ⟨g, 0, none⟩ x0).setCell ⟨g, 1, none⟩ x1).setCell ⟨g, 2, none⟩ x2).setCell ⟨g, 3, none⟩ x3) := by
  refine ⟨?_, ((((GrowBut.refl g w).set _ _ _).set _ _ _).set _ _ _).set _ _ _⟩
  have h1 := heap_set (heap_set (heap_set (heap_set h 0 x0) 1 x1) 2 x2) 3 x3
  simpa using h1
theorem box_cell {w : World} {g : Nat} {T : TypeId} {f} {c : Array Value} (h : w.heap[g]? = some (.cells c T f)) (i : Nat) (x : Value) (hx : c[i]? = some x) : w.cell? ⟨g, i, none⟩ = some x := by
  simp [World.cell?, h, hx]
theorem box_frozen {w : World} {g : Nat} {T : TypeId} {c : Array Value} (h : w.heap[g]? = some (.cells c T (0, 0))) (i : Nat) : w.frozen? ⟨g, i, none⟩ = false := by
  simp [World.frozen?, h]
theorem heap_new (w : World) (c : Array Value) (T : TypeId) : (w.alloc (.cells c T)).heap[w.heap.size]? = some (.cells c T (0, 0)) := by
  show (w.heap.push _)[w.heap.size]? = _
  simp

end Go.Proofs.YtpfbddhlkckfhabDoor
