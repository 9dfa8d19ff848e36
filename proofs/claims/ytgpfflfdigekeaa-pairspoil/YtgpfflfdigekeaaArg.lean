/-
  A slice of bytes that came in, as the walks want it: it holds the bytes that its numbers are.
  Condition: as the row reads it.
-/
import Derived.Test.YtgpfflfdigekeaaSeal
import Derived.ProofKit
import Derived.OpenShut
namespace Go.Proofs.Ytgpfflfdigekeaa
set_option maxRecDepth 100000
open Go.RowKit Go.ChangeShapes Go.WideShapes Go.ChangeAt
open Go.Proofs.Ytgpfflfdigekeaa.Plain Go.Proofs.Ytgpfflfdigekeaa.Reg

theorem wf_byte {n : Int} (h : (Lit.int .u8 n).wf = true) : 0 ≤ n ∧ n < 256 := by
  have : 0 ≤ n ∧ n ≤ 255 := by simpa [Lit.wf, IntKind.min, IntKind.max, IntKind.signed, IntKind.bits] using h
  omega
theorem byte_of {n : Int} (h : (Lit.int .u8 n).wf = true) : ∃ c : UInt8, n = (c.toNat : Int) := by
  have := wf_byte h
  refine ⟨UInt8.ofNat n.toNat, ?_⟩
  rw [UInt8.toNat_ofNat']
  omega

def toBytes (zs : List Int) : List UInt8 := zs.map fun n => UInt8.ofNat n.toNat

theorem bytes_row {w : World} {x : Addr} {len cap : Nat} {zs : List Int} (hl : len ≤ cap) (hz : zs.length = cap)
    (hc : ∀ i, i < zs.length → w.cell? (x.add i) = some (.int .u8 (zs.getD i 0))) (hw : ∀ n ∈ zs, (Lit.int .u8 n).wf = true) :
    Bytes w (.slice (some x) len cap) (toBytes (zs.take len)) := by
  have e : (toBytes (zs.take len)).length = len := by simp [toBytes]; omega
  by_cases h0 : len = 0
  · subst h0
    exact .inl ⟨some x, cap, rfl, by simp [toBytes], fun h => by cases h⟩
  · obtain ⟨b, off, rfl, hc'⟩ := ints_at hc (by omega)
    refine .inr ⟨b, off, cap, by rw [e], by omega, fun i hi => ?_⟩
    have hi' : i < zs.length := by omega
    rw [hc' i hi']
    have h1 : zs.getD i 0 = zs[i] := by rw [List.getD_eq_getElem?_getD, List.getElem?_eq_getElem hi']; rfl
    have h2 := wf_byte (hw zs[i] (List.getElem_mem hi'))
    have h3 : ((toBytes (zs.take len))[i].toNat : Int) = zs[i] := by
      simp only [toBytes, List.getElem_map, List.getElem_take]
      rw [UInt8.toNat_ofNat']
      omega
    rw [h1, h3]
end Go.Proofs.Ytgpfflfdigekeaa
