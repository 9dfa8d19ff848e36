import Derived.Test.YtpdnapbchcdhlaaPTell
set_option maxHeartbeats 8000000
namespace Go.Proofs.Ytpdnapbchcdhlaa
set_option maxRecDepth 100000
open Go.RowKit
open Plain Reg
variable {D : Dk} {S : Nat → Prop} {rc vd : Array Value} {w w' w0 : World}
structure Zj1 (w0 : World) (vd : Array Value) (rc : Array Value) (w : World) : Prop where
 grow : Zm w0 w
 disk : w.heap[w0.heap.size]? = some (.cells vd 46 (0, 0))
 recd : w.heap[w0.heap.size + 1]? = some (.cells rc 32 (0, 0))
 zero : w.heap[w0.heap.size + 1 + 1]? = some (.cells #[.slice none 0 0, .slice none 0 0] 46 (0, 0))
 size : w0.heap.size + 1 + 1 + 1 < w.heap.size
theorem Zj1.on (h : Zj1 w0 vd rc w) (hg : Zm w w') : Zj1 w0 vd rc w' :=
 ⟨h.grow.trans hg, (hg.block _ (Zg h.disk)).trans h.disk, (hg.block _ (Zg h.recd)).trans h.recd, (hg.block _ (Zg h.zero)).trans h.zero, Nat.lt_of_lt_of_le h.size hg.size⟩
def Zj2 (w0 : World) (S : Nat → Prop) (D : Dk) (vb vl : Value) (w : World) : Prop := w.heap[w0.heap.size + 1 + 1 + 1]? = some (.cells #[vb, vl] 46 (0, 0)) ∧ V4 (Qg S (w0.heap.size + 1 + 1 + 1 + 1)) D (.agg #[vb, vl]) w
theorem Zj2.on {vb vl : Value} (h : Zj2 w0 S D vb vl w) (hg : Zm w w') : Zj2 w0 S D vb vl w' := ⟨(hg.block _ (Zg h.1)).trans h.1, h.2.grow hg⟩
def Zkw (w0 : World) (vd rc : Array Value) (S : Nat → Prop) (D : Dk) (w : World) : Prop := Zj1 w0 vd rc w ∧ ∃ vb vl, Zj2 w0 S D vb vl w
theorem Zkw.on (h : Zkw w0 vd rc S D w) (hg : Zm w w') : Zkw w0 vd rc S D w' := by
 obtain ⟨h1, vb, vl, h2⟩ := h;exact ⟨h1.on hg, vb, vl, h2.on hg⟩
end Go.Proofs.Ytpdnapbchcdhlaa
