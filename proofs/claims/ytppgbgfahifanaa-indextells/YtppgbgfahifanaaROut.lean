/-
  A disk's variable whose blocks grow one by one, and what the document's Flush makes of a disk.
  Condition: the disk lies in memory, of at most 256 blocks.
-/
import Derived.Test.YtppgbgfahifanaaRPut
import Derived.Test.YtppgbgfahifanaaDkLaw
namespace Go.Proofs.Ytppgbgfahifanaa
set_option maxRecDepth 100000
open Go.RowKit
open Go.Proofs.Ytppgbgfahifanaa.Plain Go.Proofs.Ytppgbgfahifanaa.Reg

/-- What such a disk may lean on: what was there ahead, and rows of bytes from block B on. -/
def InS (S0 : Nat → Prop) (B : Nat) (w : World) (b : Nat) : Prop := S0 b ∨ (B ≤ b ∧ ∃ c f, w.heap[b]? = some (.cells c 5 f))
theorem InS.grow {S0 : Nat → Prop} {B : Nat} {w w' : World} (hg : Grow w w') (b : Nat) (h : InS S0 B w b) : InS S0 B w' b :=
  or_map h (fun x => x) fun ⟨h1, c, f, h2⟩ => ⟨h1, c, f, (hg.block _ (heap_lt h2)).trans h2⟩
theorem InS.upon {S0 : Nat → Prop} {B : Nat} {w : World} (b : Nat) (h : InS S0 B w b) : Upon S0 B b := or_map h (fun x => x) fun h => h.1
theorem own_in {w : World} {base B : Nat} {v : Value} {l : List UInt8} (S0 : Nat → Prop) (hb : B ≤ base) (h : w.ownsRow base 5 1 v l.length (l.map bv)) : BytesS (InS S0 B w) w v l := by
  rcases h.2 with ⟨rfl, h0⟩ | ⟨q, cap, cur, rfl, hq, hh, h1, h2, h3, h4⟩
  · exact .inl ⟨none, 0, rfl, List.eq_nil_of_length_eq_zero h0, fun _ => rfl⟩
  · refine .inr ⟨q, 0, cap, .inr ⟨by omega, _, _, hh⟩, rfl, h1, fun i hi => ?_⟩
    have := h.cellAt i (by omega)
    rw [Nat.zero_add, this]
    simp [hi, bv]
end Go.Proofs.Ytppgbgfahifanaa
