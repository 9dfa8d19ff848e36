import Derived.Test.YtpdnapbchcdhlabRBytes
set_option maxHeartbeats 8000000
namespace Go.Proofs.Ytpdnapbchcdhlab
set_option maxRecDepth 100000
open Go.RowKit
open Plain Reg
variable {T : TypeId} {c : Array Value} {g : Nat} {w : World}
theorem Zf {o : Obj} (h : w.heap[g]? = some o) : g < w.heap.size := by
 rcases Nat.lt_or_ge g w.heap.size with hl | hl
 ·exact hl
 ·rw [Array.getElem?_eq_none hl] at h; cases h
theorem Ql {w' : World} {base : Nat} {e : TypeId} {size : Nat} {v : Value} {n : Nat} {xs : List Value} (h : w.ownsRow base e size v n xs) (hg : Zi w w') : w'.ownsRow base e size v n xs :=
 ⟨h.1, Xa h.2 (fun x => x) fun ⟨g, cap, cur, h1, h2, h3, r⟩ => ⟨g, cap, cur, h1, h2, (hg.block g (Zf h3)).trans h3, r⟩⟩
theorem Y7 {f} (h : w.heap[g]? = some (.cells c T f)) (i : Nat) (x : Value) : (w.setCell ⟨g, i, none⟩ x).heap[g]? = some (.cells (c.setIfInBounds i x) T f) := by
 simp only [World.setCell, Array.getElem?_modify, if_true, h, Option.map_some];rfl
theorem Zp {f} (h : w.heap[g]? = some (.cells c T f)) (i : Nat) (x : Value) (hx : c[i]? = some x) : w.cell? ⟨g, i, none⟩ = some x := by
 simp [World.cell?, h, hx]
theorem Xo (h : w.heap[g]? = some (.cells c T (0, 0))) (i : Nat) : w.frozen? ⟨g, i, none⟩ = false := by
 simp [World.frozen?, h]
theorem Yt {f} (h : w.heap[g]? = some (.cells c T f)) {x0 x1 x2 x3 : Value} (h0 : c[0]? = some x0) (h1 : c[1]? = some x1) (h2 : c[2]? = some x2) (h3 : c[3]? = some x3) : w.cell? ⟨g, 0, none⟩ = some x0 ∧ w.cell? ⟨g, 1, none⟩ = some x1 ∧ w.cell? ⟨g, 2, none⟩ = some x2 ∧ w.cell? ⟨g, 3, none⟩ = some x3 := ⟨Zp h 0 _ h0, Zp h 1 _ h1, Zp h 2 _ h2, Zp h 3 _ h3⟩
theorem Zs (w : World) (c : Array Value) (T : TypeId) : (w.alloc (.cells c T)).heap[w.heap.size]? = some (.cells c T (0, 0)) := by
 show (w.heap.push _)[w.heap.size]? = _;simp
end Go.Proofs.Ytpdnapbchcdhlab
