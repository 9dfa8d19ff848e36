/-
  sclaw6.ModelNew answers true for all records and deeds, and leaves them as they were: newer is greater.
  No condition.
-/
import Derived.Test.YtpdnapbchcdhlabRows
import Derived.WalkKit
import Derived.ProofKit
import Derived.OpenShut
import Derived.ShutString
import Derived.ChangeOld
import Derived.Below
import Derived.SizedLaws
import Derived.Test.YtpdnapbchcdhlabModelNew
import Derived.Test.YtpdnapbchcdhlabMdlP
import Derived.Test.YtpdnapbchcdhlabArg5
namespace Go.Proofs.Ytpdnapbchcdhlab.modelNew
open Go.ChangeShapes Go.WideShapes Go.ChangeAt Go.RowKit
set_option linter.unusedVariables false
theorem own : ownKnob Try.prog.godebug = none := by kernel_rfl
theorem laidOut : laidOutB Try.prog = true := by kernel_rfl
set_option maxRecDepth 100000 in
theorem lifted (os : Os) (started : os.Started) (H : Type) (enc : TypeId × Value → H) :
    ReturnsInHanded {} Try.checked os 6 .any (Rows.modelNewSpec.pre6 enc Try.prog Try.f6 Rows.modelNewRow.domain false) (Rows.modelNewSpec.post enc Try.prog Try.f6 false true false false) := by
  refine returnsInHanded_of_change_sized (C := Try.checked) own started (by kernel_rfl) Try.func6
    (ChangeSpec.witness6 (enc := enc) (C := Try.checked) false ⟨#[], #[.slice none 0 0, .agg #[.int .i64 0, .int .i64 0, .int .i64 0, .slice none 0 0]], []⟩ 8 (by kernel_rfl) (by kernel_rfl) (by kernel_rfl) (by kernel_rfl)) ?_
  intro W base args ds gs before hval0 hW hcnd hsz0 _;have hval : ∀ (j : Nat) t v, Try.f6.params[j]? = some t → args[j]? = some v → Value.okWide Try.prog W .any base t v := hval0;have hW' := hW;obtain ⟨p, q, hA0, hV, rfl, hfz, hnd⟩ := hW;have hA : DataW.TrodAll enc Try.prog W 0 (fun _ => true) true Try.f6.params.toList args.toList ds p := hA0;have hsz : (DataW.weightsEach Try.prog (Try.f6.params.toList ++ Rows.modelNewSpec.plain.varTypes Try.prog) (ds ++ gs)).all (· ≤ reachBytes) = true := hsz0;rw [Try.params6] at hA hval hsz;obtain ⟨v0, vs0, d0, ds0, p0, q0, hargs, rfl, rfl, h0, r0⟩ := trodAll_cons hA;obtain ⟨v1, vs1, d1, ds1, p1, q1, rfl, rfl, rfl, h1, r1⟩ := trodAll_cons r0;obtain ⟨rfl, rfl, rfl⟩ := trodAll_nil r1;obtain rfl : args = #[v0, v1] := by cases args; simp_all
  obtain ⟨rfl, rfl⟩ := trodVars_none hV;have k0_ := h0;have lt0 : ∀ x ∈ p0, x.block < W.heap.size := by obtain ⟨m, hm⟩ := k0_; exact DataW.trod_lt m _ _ _ hm
  obtain ⟨s0, len0, cap0, rfl⟩ := okWide_slice Try.underlying45 (hval 0 45 v0 rfl rfl);obtain ⟨l0, he0, hl0⟩ : ∃ l, Zv (fun b => b < W.heap.size) W (.slice s0 len0 cap0) l ∧ l.length ≤ 2932031007403 := by
    obtain ⟨fuel, hf⟩ := h0;obtain ⟨l, h1, h2⟩ := Qc hf (Xp (j := 0) hsz rfl rfl);exact ⟨l, h1, by omega⟩
  have k1_ := h1;have lt1 : ∀ x ∈ p1, x.block < W.heap.size := by obtain ⟨m, hm⟩ := k1_; exact DataW.trod_lt m _ _ _ hm
  obtain ⟨e1, ao1, cp1, rfl, hb1, hl1⟩ := Qw (hval 1 47 v1 rfl rfl) h1 (Xp (j := 1) hsz rfl rfl);clear hA0 hval0;refine (K0 Q6 Ki Jp Zb6 Za4 Jn l0 e1 _ ao1 cp1 W he0 hb1 (by omega) (by omega)).mono fun e W' ⟨he, bel0⟩ => ?_;subst he;have bel : Below W.heap.size W W' := bel0;exact ⟨_, rfl, _, _, _, [], _, [], hW', trodAll_mk1 (shut_bool Try.underlying4 _), (trodAll_cons_mk (Below.trod laidOut (by kernel_rfl) (of_decide_eq_true (by kernel_rfl)) k0_ bel lt0) (trodAll_cons_mk (Below.trod laidOut (by kernel_rfl) (of_decide_eq_true (by kernel_rfl)) k1_ bel lt1) trodAll_mk0)), rfl, bel.frame _, fun h => by cases h⟩
theorem over : Rows.modelNewRow.holds Try.pinned (OpenSpec.ofChange Rows.modelNewSpec) :=
  OpenClaim.holds_of_wide 6 Try.f6 rfl rfl rfl rfl rfl rfl rfl ⟨rfl, rfl, rfl, rfl, rfl⟩ rfl rfl rfl rfl rfl (by kernel_rfl) Try.func6 (by kernel_rfl)
    (of_decide_eq_true (by kernel_rfl)) (by unfold Func.isWrapper; first | (rw [if_pos (by decide +kernel)]; kernel_rfl) | (rw [if_neg (by decide +kernel)]; exact ⟨rfl, rfl⟩))
    (fun os started H enc _ => lifted os started H enc)
end Go.Proofs.Ytpdnapbchcdhlab.modelNew
namespace Go.Proofs.Ytpdnapbchcdhlab
theorem modelNew_holds : Rows.ModelNewSaid := modelNew.over
end Go.Proofs.Ytpdnapbchcdhlab
