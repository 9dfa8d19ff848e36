/-
  A disk that lies in memory, wherever: what is told of it. No program but its types' numbers.
-/
import Derived.Test.YtgpfflfdigekeaaPOwn
namespace Go.Proofs.Ytgpfflfdigekeaa
set_option maxRecDepth 100000
open Go.RowKit
open Go.Proofs.Ytgpfflfdigekeaa.Plain Go.Proofs.Ytgpfflfdigekeaa.Reg

/-- A disk, wherever it lies. -/
def DiskP (d : Dk) (v : Value) (w : World) : Prop := ∃ vb vl, v = .agg #[vb, vl] ∧ BlocksP w vb d.blocks ∧ LateP w vl d.late
theorem st_diskp (d : Dk) : Stable (DiskP d) := by
  rintro v w w' hg ⟨vb, vl, h1, h2, h3⟩; exact ⟨vb, vl, h1, h2.grow hg, h3.grow hg⟩
theorem DiskQ.p {B : Nat} {d : Dk} {v : Value} {w : World} (h : DiskQ B d v w) : DiskP d v w := by
  obtain ⟨vb, vl, h1, h2, h3⟩ := h; exact ⟨vb, vl, h1, h2.p, h3.p⟩
theorem DiskP.form {d : Dk} {v : Value} {w : World} (h : DiskP d v w) : ∃ ab cb al cl, v = .agg #[.slice ab d.blocks.length cb, .slice al d.late.length cl] ∧ BlocksP w (.slice ab d.blocks.length cb) d.blocks ∧ LateP w (.slice al d.late.length cl) d.late := by
  obtain ⟨vb, vl, h1, h2, h3⟩ := h
  obtain ⟨ab, cb, rfl⟩ := h2.form
  obtain ⟨al, cl, rfl⟩ := h3.form
  exact ⟨ab, cb, al, cl, h1, h2, h3⟩
theorem late_nil (w : World) : LateP w (.slice none 0 0) [] := .inl ⟨none, 0, rfl, rfl, fun _ => rfl⟩

theorem Dk.right_all {d : Dk} (h : d.right = true) : d.blocks.length = 12 ∧ d.late.length ≤ 40 ∧ (∀ x ∈ d.blocks, x.length ≤ 1000) ∧ (∀ x ∈ d.late, x.2.length ≤ 1000) ∧ (∀ x ∈ d.late, 0 ≤ x.1 ∧ x.1 < (d.blocks.length : Int)) := by
  refine ⟨Dk.right_len h, Dk.right_few h, fun x hx => ?_, fun x hx => ?_, fun x hx => ?_⟩
  · obtain ⟨i, hi, rfl⟩ := List.mem_iff_getElem.1 hx
    rw [Dk.right_block h i hi]; omega
  · obtain ⟨i, hi, rfl⟩ := List.mem_iff_getElem.1 hx
    rw [(Dk.right_late h i hi).2.2]; omega
  · obtain ⟨i, hi, rfl⟩ := List.mem_iff_getElem.1 hx
    exact ⟨(Dk.right_late h i hi).1, (Dk.right_late h i hi).2.1⟩
theorem Dk.putD_len (d : Dk) (a : Int) (l : List UInt8) : (d.putD a l).blocks = d.blocks ∧ (d.putD a l).late.length ≤ d.late.length + 1 := by
  unfold Dk.putD Dk.put
  split
  · exact ⟨rfl, by simp⟩
  · exact ⟨rfl, by omega⟩
theorem Dk.spoil_len (d : Dk) (a n y : Int) : (d.spoil a n y).blocks.length = d.blocks.length ∧ (d.spoil a n y).late = d.late := by
  unfold Dk.spoil
  split
  · exact ⟨by simp, rfl⟩
  · exact ⟨rfl, rfl⟩
end Go.Proofs.Ytgpfflfdigekeaa
