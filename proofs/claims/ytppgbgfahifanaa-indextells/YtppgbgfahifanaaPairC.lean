/-
  What is asked of the program's pair: the contracts of Look, Put and Mend, as premises. No program but its functions' numbers.
-/
import Derived.Test.YtppgbgfahifanaaJPd
import Derived.Test.YtppgbgfahifanaaPairLaw
import Derived.Test.YtppgbgfahifanaaRNew
import Derived.Test.YtppgbgfahifanaaJRd
namespace Go.Proofs.Ytppgbgfahifanaa
set_option maxRecDepth 100000
open Go.RowKit
open Go.Proofs.Ytppgbgfahifanaa.Plain Go.Proofs.Ytppgbgfahifanaa.Reg

/-- A disk that leans on the blocks S of memory. -/
def DiskS (S : Nat → Prop) (d : Dk) (v : Value) (w : World) : Prop := ∃ vb vl, v = .agg #[vb, vl] ∧ BlocksS S w vb d.blocks ∧ LateS S w vl d.late
theorem DiskS.grow {S : Nat → Prop} {d : Dk} {v : Value} {w w' : World} (h : DiskS S d v w) (hg : Grow w w') : DiskS S d v w' := by
  obtain ⟨vb, vl, h1, h2, h3⟩ := h; exact ⟨vb, vl, h1, h2.grow hg, h3.grow hg⟩
theorem DiskS.p {S : Nat → Prop} {d : Dk} {v : Value} {w : World} (h : DiskS S d v w) : DiskP d v w := by
  obtain ⟨vb, vl, h1, h2, h3⟩ := h; exact ⟨vb, vl, h1, h2.p, h3.p⟩
theorem DiskP.s {d : Dk} {v : Value} {w : World} (h : DiskP d v w) : DiskS (fun b => b < w.heap.size) d v w := by
  obtain ⟨vb, vl, h1, h2, h3⟩ := h; exact ⟨vb, vl, h1, h2.s, h3.s⟩
/-- A disk as the document has them, of at most n late writes. -/
structure Dk.Fine (n : Nat) (d : Dk) : Prop where
  len : d.blocks.length = 12
  few : d.late.length ≤ n
  block : ∀ x ∈ d.blocks, x.length = 16
  late : ∀ x ∈ d.late, x.2.length = 16
  place : ∀ x ∈ d.late, 0 ≤ x.1 ∧ x.1 < 12
theorem Dk.right_fine {d : Dk} (h : d.right = true) : d.Fine 40 := by
  have h12 := Dk.right_len h
  refine ⟨h12, Dk.right_few h, fun x hx => ?_, fun x hx => ?_, fun x hx => ?_⟩
  · obtain ⟨i, hi, rfl⟩ := List.mem_iff_getElem.1 hx; exact Dk.right_block h i hi
  · obtain ⟨i, hi, rfl⟩ := List.mem_iff_getElem.1 hx; exact (Dk.right_late h i hi).2.2
  · obtain ⟨i, hi, rfl⟩ := List.mem_iff_getElem.1 hx
    have := Dk.right_late h i hi
    rw [h12] at this
    exact ⟨this.1, this.2.1⟩
theorem Dk.Fine.mono {n m : Nat} {d : Dk} (h : d.Fine n) (hm : n ≤ m) : d.Fine m := ⟨h.len, Nat.le_trans h.few hm, h.block, h.late, h.place⟩
theorem Dk.Fine.b16 {n : Nat} {d : Dk} (h : d.Fine n) : ∀ x ∈ d.blocks, x.length ≤ 1000 := fun x hx => by rw [h.block x hx]; omega
theorem Dk.Fine.l16 {n : Nat} {d : Dk} (h : d.Fine n) : ∀ x ∈ d.late, x.2.length ≤ 1000 := fun x hx => by rw [h.late x hx]; omega
/-! ### The document's answers, told of disks -/

theorem rright_c (d : Dk) (v : Value) (w : World) (hd : DiskP d v w) : Calls Try.prog 37 #[v] w fun e w' => e = .returned (.bool d.right) ∧ Grow w w' := by
  obtain ⟨vb, vl, rfl, h1, h2⟩ := hd
  exact rightDisk_any d vb vl w h1 h2
end Go.Proofs.Ytppgbgfahifanaa
