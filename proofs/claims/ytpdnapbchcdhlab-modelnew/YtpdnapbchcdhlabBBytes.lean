import Derived.Test.YtpdnapbchcdhlabOwn
import Derived.Laws.CopyRow
set_option maxHeartbeats 8000000
namespace Go.Proofs.Ytpdnapbchcdhlab
set_option maxRecDepth 100000
open Go.RowKit
open Plain Reg
variable {a b w : World} {g : Nat}
structure Z5 (g : Nat) (w w' : World) : Prop where
 os : w'.os = w.os
 tape : w'.tape = w.tape
 output : w'.output = w.output
 size : w.heap.size ≤ w'.heap.size
 block : ∀ k, k < w.heap.size → k ≠ g → w'.heap[k]? = w.heap[k]?
theorem Z5.refl (g : Nat) (w : World) : Z5 g w w := ⟨rfl, rfl, rfl, Nat.le_refl _, fun _ _ _ => rfl⟩
theorem Z5.trans {c : World} (h : Z5 g a b) (k : Z5 g b c) : Z5 g a c :=
 ⟨k.os.trans h.os, k.tape.trans h.tape, k.output.trans h.output, Nat.le_trans h.size k.size, fun i hi hg => (k.block i (Nat.lt_of_lt_of_le hi h.size) hg).trans (h.block i hi hg)⟩
theorem Z5.of (h : Zi a b) : Z5 g a b := ⟨h.os, h.tape, h.output, h.size, fun k hk _ => h.block k hk⟩
theorem Z5.row (h : Z5 g a b) (c : Array Value) : Z5 g a (b.setRow g c) :=
 h.trans ⟨rfl, rfl, rfl, by simp [World.setRow], fun k _ hk => by simp only [World.setRow, Array.getElem?_modify]; rw [if_neg (fun e => hk e.symm)]⟩
theorem Z5.set (h : Z5 g a b) (o : Nat) (s) (x : Value) : Z5 g a (b.setCell ⟨g, o, s⟩ x) :=
 h.trans ⟨rfl, rfl, rfl, by simp, fun k _ hk => Below.heap_setCell _ _ _ _ hk⟩
theorem Z5.grow (h : Z5 g a b) (hw : Zi w a) (hg : w.heap.size ≤ g) : Zi w b :=
 Below.trans (a := w) (b := a) hw ⟨h.os, h.tape, h.output, h.size, fun k hk => h.block k (Nat.lt_of_lt_of_le hk hw.size) (by omega)⟩
def Zbx (w : World) (g : Nat) (xs : List UInt8) : Prop := w.heap[g]? = some (.cells (xs.map bv).toArray 5 (0, 0))
theorem Zbx.set {xs : List UInt8} (h : Zbx w g xs) (i : Nat) (c : UInt8) : Zbx (w.setCell ⟨g, i, none⟩ (.int .u8 (c.toNat : Int))) g (xs.set i c) := by
 unfold Zbx at h ⊢;simp only [World.setCell, Array.getElem?_modify, if_true, h, Option.map_some];simp [List.map_set, bv]
end Go.Proofs.Ytpdnapbchcdhlab
