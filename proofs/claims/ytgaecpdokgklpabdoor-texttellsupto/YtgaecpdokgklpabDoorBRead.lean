/-
  What block.Read tells of any bytes at a place: the record that stands in them, or why they are no block of it.
  Condition: the slice holds those bytes.
-/
import Derived.Test.YtgaecpdokgklpabDoorRBytes
namespace Go.Proofs.YtgaecpdokgklpabDoor
set_option maxRecDepth 100000
open Go.RowKit
open Go.Proofs.YtgaecpdokgklpabDoor.Plain Go.Proofs.YtgaecpdokgklpabDoor.Reg

/-- The cells of bytes that lie from an address on. -/
def Cells (w : World) (b off : Nat) (l : List UInt8) : Prop := ∀ (i : Nat) (h : i < l.length), w.cell? ⟨b, off + i, none⟩ = some (.int .u8 (l[i].toNat : Int))
theorem Cells.at' {w : World} {b off : Nat} {l : List UInt8} (h : Cells w b off l) (i : Nat) (hi : i < l.length) : w.cell? ⟨b, off + i, none⟩ = some (.int .u8 ((Plain.at' l i).toNat : Int)) := by
 rw [h i hi]
 unfold Plain.at'
 rw [List.getD_eq_getElem?_getD, List.getElem?_eq_getElem hi]; rfl
theorem Cells.grow {w w' : World} {b off : Nat} {l : List UInt8} (h : Cells w b off l) (hg : Grow w w') : Cells w' b off l := fun i hi => (Below.cell hg (cell_lt (h i hi))).trans (h i hi)
theorem Cells.sub {w : World} {b off : Nat} {l : List UInt8} (h : Cells w b off l) (i n cap : Nat) (hn : i + n ≤ l.length) (hc : n ≤ cap) : Bytes w (.slice (some ⟨b, off + i, none⟩) n cap) ((l.drop i).take n) := by
 have e : ((l.drop i).take n).length = n := by simp; omega
 refine .inr ⟨b, off + i, cap, by rw [e], by omega, fun j hj => ?_⟩
 rw [Nat.add_assoc, h (i + j) (by omega)]
 simp

theorem ret_bool {a b : Bool} (h : a = b) : Ending.returned (.bool a) = .returned (.bool b) := by rw [h]

theorem noughts_snoc (l : List UInt8) (k : Nat) (h : k < l.length) : noughtsB (l.take (k + 1)) = (noughtsB (l.take k) && (l[k] == 0)) := by
 rw [take_snoc l k h]; simp only [noughtsB, List.all_append, List.all_cons, List.all_nil, Bool.and_true]

/-- A variable of a struct type, in a block of its own. -/
def BoxP (T : TypeId) (m B : Nat) (v : Value) (w : World) : Prop := ∃ g c, v = .pointer (some ⟨g, 0, none⟩) ∧ B ≤ g ∧ w.heap[g]? = some (.cells c T (0, 0)) ∧ c.size = m
/-- Such a variable is written, or nothing is. -/
def BoxStep (T : TypeId) (w w' : World) : Prop := w' = w ∨ ∃ g c c', GrowBut g w w' ∧ w.heap[g]? = some (.cells c T (0, 0)) ∧ w'.heap[g]? = some (.cells c' T (0, 0)) ∧ c'.size = c.size
theorem heap_lt {w : World} {g : Nat} {o : Obj} (h : w.heap[g]? = some o) : g < w.heap.size := by
 rcases Nat.lt_or_ge g w.heap.size with hl | hl
 ·exact hl
 ·rw [Array.getElem?_eq_none hl] at h; cases h
theorem st_box (T : TypeId) (m B : Nat) : Stable (BoxP T m B) := by
 rintro v w w' hg ⟨g, c, h1, h2, h3, h4⟩
 exact ⟨g, c, h1, h2, (hg.block g (heap_lt h3)).trans h3, h4⟩
theorem sp_box (T : TypeId) (m B : Nat) (v : Value) (w w' : World) (hs : BoxStep T w w') (h : BoxP T m B v w) : BoxP T m B v w' := by
 rcases hs with rfl | ⟨g', c1, c2, hb, h5, h6, h7⟩
 ·exact h
 ·obtain ⟨g, c, h1, h2, h3, h4⟩ := h
  by_cases e : g = g'
  ·subst e
   rw [h5] at h3; cases h3
   exact ⟨g, c2, h1, h2, h6, by omega⟩
  ·exact ⟨g, c, h1, h2, (hb.block g (heap_lt h3) e).trans h3, h4⟩

theorem own_grow {w w' : World} {base : Nat} {e : TypeId} {size : Nat} {v : Value} {n : Nat} {xs : List Value} (h : w.ownsRow base e size v n xs) (hg : Grow w w') : w'.ownsRow base e size v n xs :=
 ⟨h.1, or_map h.2 (fun x => x) fun ⟨g, cap, cur, h1, h2, h3, r⟩ => ⟨g, cap, cur, h1, h2, (hg.block g (heap_lt h3)).trans h3, r⟩⟩
theorem own_but {g' : Nat} {w w' : World} {base : Nat} {e : TypeId} {size : Nat} {v : Value} {n : Nat} {xs : List Value} (h : w.ownsRow base e size v n xs) (hg : GrowBut g' w w') (hne : ∀ g cap, v = .slice (some ⟨g, 0, none⟩) n cap → g ≠ g') : w'.ownsRow base e size v n xs :=
 ⟨h.1, or_map h.2 (fun x => x) fun ⟨g, cap, cur, h1, h2, h3, r⟩ => ⟨g, cap, cur, h1, h2, (hg.block g (heap_lt h3) (hne g cap h1)).trans h3, r⟩⟩
theorem own_box {w w' : World} {base : Nat} {e T : TypeId} {size : Nat} {v : Value} {n : Nat} {xs : List Value} (hne : e ≠ T) (hs : BoxStep T w w') (h : w.ownsRow base e size v n xs) : w'.ownsRow base e size v n xs := by
 rcases hs with rfl | ⟨g', c1, c2, hb, h5, h6, h7⟩
 ·exact h
 ·refine ⟨h.1, or_map h.2 (fun x => x) fun ⟨g, cap, cur, h1, h2, h3, r⟩ => ⟨g, cap, cur, h1, h2, (hb.block g (heap_lt h3) ?_).trans h3, r⟩⟩
  rintro rfl
  rw [h5] at h3; cases h3; exact hne rfl

/-- A record's value, its data in a row of its own. -/
def RecP (B : Nat) (r : Rec) (v : Value) (w : World) : Prop := ∃ d, v = .agg #[.int .i64 r.kind, .int .i64 r.key, .int .i64 r.ver, d] ∧ w.ownsRow B 5 1 d r.data.length (r.data.map bv)
theorem st_rec (B : Nat) (r : Rec) : Stable (RecP B r) := by
 rintro v w w' hg ⟨d, h1, h2⟩
 exact ⟨d, h1, own_grow h2 hg⟩
/-- Data in a row of its own. -/
def OwnP (B : Nat) (l : List UInt8) (v : Value) (w : World) : Prop := w.ownsRow B 5 1 v l.length (l.map bv)
theorem st_own (B : Nat) (l : List UInt8) : Stable (OwnP B l) := fun _ _ _ hg h => own_grow h hg
theorem arr4 {c : Array Value} (h : c.size = 4) : ∃ x0 x1 x2 x3, c = #[x0, x1, x2, x3] := by
 obtain ⟨l⟩ := c
 match l, h with
 | [x0, x1, x2, x3], _ => exact ⟨x0, x1, x2, x3, rfl⟩

theorem heap_set {w : World} {g : Nat} {c : Array Value} {T : TypeId} {f} (h : w.heap[g]? = some (.cells c T f)) (i : Nat) (x : Value) : (w.setCell ⟨g, i, none⟩ x).heap[g]? = some (.cells (c.setIfInBounds i x) T f) := by
 simp only [World.setCell, Array.getElem?_modify, if_true, h, Option.map_some]
 rfl
/-- Four cells of a block are written. -/
theorem box_put {w : World} {g : Nat} {T : TypeId} {f} {c0 c1 c2 c3 : Value} (h : w.heap[g]? = some (.cells #[c0, c1, c2, c3] T f)) (x0 x1 x2 x3 : Value) :
  ((((w.setCell ⟨g, 0, none⟩ x0).setCell ⟨g, 1, none⟩ x1).setCell ⟨g, 2, none⟩ x2).setCell ⟨g, 3, none⟩ x3).heap[g]? = some (.cells #[x0, x1, x2, x3] T f) ∧ GrowBut g w ((((w.setCell ⟨g, 0, none⟩ x0).setCell ⟨g, 1, none⟩ x1).setCell ⟨g, 2, none⟩ x2).setCell ⟨g, 3, none⟩ x3) := by
 refine ⟨?_, ((((GrowBut.refl g w).set _ _ _).set _ _ _).set _ _ _).set _ _ _⟩
 have h1 := heap_set (heap_set (heap_set (heap_set h 0 x0) 1 x1) 2 x2) 3 x3
 simpa using h1
theorem box_cell {w : World} {g : Nat} {T : TypeId} {f} {c : Array Value} (h : w.heap[g]? = some (.cells c T f)) (i : Nat) (x : Value) (hx : c[i]? = some x) : w.cell? ⟨g, i, none⟩ = some x := by
 simp [World.cell?, h, hx]
theorem box_frozen {w : World} {g : Nat} {T : TypeId} {c : Array Value} (h : w.heap[g]? = some (.cells c T (0, 0))) (i : Nat) : w.frozen? ⟨g, i, none⟩ = false := by
 simp [World.frozen?, h]
theorem box2 {w : World} {g : Nat} {T : TypeId} {f} {c : Array Value} (h : w.heap[g]? = some (.cells c T f)) {x0 x1 : Value} (h0 : c[0]? = some x0) (h1 : c[1]? = some x1) : w.cell? ⟨g, 0, none⟩ = some x0 ∧ w.cell? ⟨g, 1, none⟩ = some x1 := ⟨box_cell h 0 _ h0, box_cell h 1 _ h1⟩
theorem box3 {w : World} {g : Nat} {T : TypeId} {f} {c : Array Value} (h : w.heap[g]? = some (.cells c T f)) {x0 x1 x2 : Value} (h0 : c[0]? = some x0) (h1 : c[1]? = some x1) (h2 : c[2]? = some x2) : w.cell? ⟨g, 0, none⟩ = some x0 ∧ w.cell? ⟨g, 1, none⟩ = some x1 ∧ w.cell? ⟨g, 2, none⟩ = some x2 := ⟨box_cell h 0 _ h0, box_cell h 1 _ h1, box_cell h 2 _ h2⟩
theorem box4 {w : World} {g : Nat} {T : TypeId} {f} {c : Array Value} (h : w.heap[g]? = some (.cells c T f)) {x0 x1 x2 x3 : Value} (h0 : c[0]? = some x0) (h1 : c[1]? = some x1) (h2 : c[2]? = some x2) (h3 : c[3]? = some x3) : w.cell? ⟨g, 0, none⟩ = some x0 ∧ w.cell? ⟨g, 1, none⟩ = some x1 ∧ w.cell? ⟨g, 2, none⟩ = some x2 ∧ w.cell? ⟨g, 3, none⟩ = some x3 := ⟨box_cell h 0 _ h0, box_cell h 1 _ h1, box_cell h 2 _ h2, box_cell h 3 _ h3⟩
theorem box5 {w : World} {g : Nat} {T : TypeId} {f} {c : Array Value} (h : w.heap[g]? = some (.cells c T f)) {x0 x1 x2 x3 x4 : Value} (h0 : c[0]? = some x0) (h1 : c[1]? = some x1) (h2 : c[2]? = some x2) (h3 : c[3]? = some x3) (h4 : c[4]? = some x4) : w.cell? ⟨g, 0, none⟩ = some x0 ∧ w.cell? ⟨g, 1, none⟩ = some x1 ∧ w.cell? ⟨g, 2, none⟩ = some x2 ∧ w.cell? ⟨g, 3, none⟩ = some x3 ∧ w.cell? ⟨g, 4, none⟩ = some x4 := ⟨box_cell h 0 _ h0, box_cell h 1 _ h1, box_cell h 2 _ h2, box_cell h 3 _ h3, box_cell h 4 _ h4⟩
theorem boxf4 {w : World} {g : Nat} {T : TypeId} {c : Array Value} (h : w.heap[g]? = some (.cells c T (0, 0))) : w.frozen? ⟨g, 0, none⟩ = false ∧ w.frozen? ⟨g, 1, none⟩ = false ∧ w.frozen? ⟨g, 2, none⟩ = false ∧ w.frozen? ⟨g, 3, none⟩ = false := ⟨box_frozen h 0, box_frozen h 1, box_frozen h 2, box_frozen h 3⟩
theorem heap_new (w : World) (c : Array Value) (T : TypeId) : (w.alloc (.cells c T)).heap[w.heap.size]? = some (.cells c T (0, 0)) := by
 show (w.heap.push _)[w.heap.size]? = _
 simp

theorem spoilt_zero {l : List UInt8} {at_ : Int} (h : spoilt l at_ = 0) : l.length = 16 ∧ sealedB l = true ∧ ((at' l 1).toNat : Int) = at_ ∧ (at' l 5).toNat ≤ 8 ∧ noughtsB (restOf l) = true := by
 unfold spoilt at h
 by_cases h1 : l.length ≠ 16
 ·rw [if_pos h1] at h; omega
 ·rw [if_neg h1] at h
  by_cases h2 : sealedB l = false
  ·rw [if_pos h2] at h; omega
  ·rw [if_neg h2] at h
   by_cases h3 : ((at' l 1).toNat : Int) ≠ at_
   ·rw [if_pos h3] at h; omega
   ·rw [if_neg h3] at h
    by_cases h4 : 8 < (at' l 5).toNat
    ·rw [if_pos h4] at h; omega
    ·rw [if_neg h4] at h
     by_cases h5 : noughtsB (restOf l) = false
     ·rw [if_pos h5] at h; omega
     ·exact ⟨by omega, by simpa using h2, by simpa using h3, by omega, by simpa using h5⟩

end Go.Proofs.YtgaecpdokgklpabDoor
