/-
  The program's index keeps the contracts that are asked of it.
-/
import Derived.Test.YtgaecpdokgklpabIdxD
import Derived.Test.YtgaecpdokgklpabIdxF
import Derived.Test.YtgaecpdokgklpabIdxH
namespace Go.Proofs.Ytgaecpdokgklpab
set_option maxRecDepth 100000
open Go.RowKit
open Go.Proofs.Ytgaecpdokgklpab.Plain Go.Proofs.Ytgaecpdokgklpab.Reg

theorem wrong_8 {r : Rec} (h : wrong r = 0) : r.data.length ≤ 8 := (right_bd h).2.2.2.2.2.2
theorem right_8 {l : List Ent} (h : rightI l = true) : ∀ x ∈ l, x.rc.data.length ≤ 8 := fun x hx => wrong_8 (((rightI_iff l).1 h).2 x hx).1
theorem right_0 {l : List Ent} (h : rightI l = true) : ∀ x ∈ l, 0 ≤ x.pair := fun x hx => (((rightI_iff l).1 h).2 x hx).2.2.1
theorem right_many {l : List Ent} (h : rightI l = true) : l.length ≤ 1000000 := by have := right_len h; omega
theorem iownC : IOwnC := fun S l v w _ hr hl => (pown_any S l v w hl (right_many hr) (right_8 hr)).mono fun _ _ ⟨v', _, h1, h2, h3⟩ => ⟨v', h1, h2.from.mono fun _ h => .inr h, h3⟩
theorem idropC : IDropC := fun S l p v w _ hr hl => (pdrop_any S l p v w hl (right_many hr) (right_8 hr)).mono fun _ w' ⟨v', _, h1, h2, h3⟩ => ⟨v', h1, by
 have h4 := h2.from.mono (S' := Upon S w.heap.size) fun _ h => .inr h
 have e : (l.filter fun x => x.pair != p) = dropE l p := by
  unfold dropE
  congr 1
  funext x
  by_cases h : x.pair = p <;> simp [h]
 rw [← e]; exact h4, h3⟩
theorem iaddC : IAddC := fun S l e a c v w _ hr hne hw hl hb => (padd_any S l e a c v w hl (right_many hr) (right_8 hr) (wrong_8 hw) hne hb).mono fun _ w' ⟨v', h1, h2, h3⟩ => ⟨v', h1, by
 rw [insertE_rec, ← insert_parts e l ((rightI_iff l).1 hr).1 hne]
 exact h2.mono fun _ h => .inr h, h3⟩
theorem ilastC : ILastC := fun S l key v w _ hr hl => plast_any S l key v w hl (right_many hr) (right_8 hr)
theorem ifindC : IFindC := fun S l key ver v w _ hr hl => pfind_any S l key ver v w hl (right_many hr) (right_8 hr)
theorem ifreeC : IFreeC := fun S l pairs v w hr _ hl => pfree_any S l pairs v w hl (right_many hr) (right_0 hr)
theorem iscanC : IScanC := fun S d v w _ hF hd => (pscan_any d v w (hF.mono (by omega)) hd.p).mono fun _ w' ⟨v', h1, h2, h3⟩ => ⟨v', h1, h2.mono fun _ h => .inr h, h3⟩
end Go.Proofs.Ytgaecpdokgklpab
