import Derived.Test.YtpdnapbchcdhlabRPut
import Derived.Test.YtpdnapbchcdhlabDkLaw
set_option maxHeartbeats 8000000
namespace Go.Proofs.Ytpdnapbchcdhlab
set_option maxRecDepth 100000
open Go.RowKit
open Plain Reg
variable {B : Nat} {S0 : Nat → Prop} {w : World}
def InS (S0 : Nat → Prop) (B : Nat) (w : World) (b : Nat) : Prop := S0 b ∨ (B ≤ b ∧ ∃ c f, w.heap[b]? = some (.cells c 5 f))
theorem InS.grow {w' : World} (hg : Zi w w') (b : Nat) (h : InS S0 B w b) : InS S0 B w' b :=
 Xa h (fun x => x) fun ⟨h1, c, f, h2⟩ => ⟨h1, c, f, (hg.block _ (Zf h2)).trans h2⟩
theorem InS.upon (b : Nat) (h : InS S0 B w b) : Xv S0 B b := Xa h (fun x => x) fun h => h.1
theorem Za1 {base : Nat} {v : Value} {l : List UInt8} (S0 : Nat → Prop) (hb : B ≤ base) (h : w.ownsRow base 5 1 v l.length (l.map bv)) : Zu (InS S0 B w) w v l := by
 rcases h.2 with ⟨rfl, h0⟩ | ⟨q, cap, cur, rfl, hq, hh, h1, h2, h3, h4⟩
 ·exact .inl ⟨none, 0, rfl, List.eq_nil_of_length_eq_zero h0, fun _ => rfl⟩
 ·refine .inr ⟨q, 0, cap, .inr ⟨by omega, _, _, hh⟩, rfl, h1, fun i hi => ?_⟩;have := h.cellAt i (by omega);rw [Nat.zero_add, this];simp [hi, bv]
end Go.Proofs.Ytpdnapbchcdhlab
