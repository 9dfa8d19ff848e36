/-
  What block.Bytes makes of a right record at a place: the block that tells it.
  Condition: the record's data lie in memory.
-/
import Derived.Test.YtpfbddhlkckfhabDoorOwn
import Derived.Test.YtpfbddhlkckfhabDoorJReg
import Derived.Laws.CopyRow
namespace Go.Proofs.YtpfbddhlkckfhabDoor
set_option maxRecDepth 100000
open Go.RowKit
open Go.Proofs.YtpfbddhlkckfhabDoor.Plain Go.Proofs.YtpfbddhlkckfhabDoor.Reg

/-- All but block g is as it was; more may be there. -/
structure GrowBut (g : Nat) (w w' : World) : Prop where
  os : w'.os = w.os
  tape : w'.tape = w.tape
  output : w'.output = w.output
  size : w.heap.size ≤ w'.heap.size
  block : ∀ k, k < w.heap.size → k ≠ g → w'.heap[k]? = w.heap[k]?
theorem GrowBut.refl (g : Nat) (w : World) : GrowBut g w w := ⟨rfl, rfl, rfl, Nat.le_refl _, fun _ _ _ => rfl⟩
theorem GrowBut.trans {g : Nat} {a b c : World} (h : GrowBut g a b) (k : GrowBut g b c) : GrowBut g a c :=
  ⟨k.os.trans h.os, k.tape.trans h.tape, k.output.trans h.output, Nat.le_trans h.size k.size, fun i hi hg => (k.block i (Nat.lt_of_lt_of_le hi h.size) hg).trans (h.block i hi hg)⟩
theorem GrowBut.set {g : Nat} {a b : World} (h : GrowBut g a b) (o : Nat) (s) (x : Value) : GrowBut g a (b.setCell ⟨g, o, s⟩ x) :=
  h.trans ⟨rfl, rfl, rfl, by simp, fun k _ hk => Below.heap_setCell _ _ _ _ hk⟩
theorem GrowBut.cell {g : Nat} {a b : World} (h : GrowBut g a b) {p : Addr} (hp : p.block < a.heap.size) (hg : p.block ≠ g) : b.cell? p = a.cell? p := World.cell?_of_block (h.block _ hp hg)
theorem GrowBut.grow {g : Nat} {w a b : World} (h : GrowBut g a b) (hw : Grow w a) (hg : w.heap.size ≤ g) : Grow w b :=
  Below.trans (a := w) (b := a) hw ⟨h.os, h.tape, h.output, h.size, fun k hk => h.block k (Nat.lt_of_lt_of_le hk hw.size) (by omega)⟩

end Go.Proofs.YtpfbddhlkckfhabDoor
