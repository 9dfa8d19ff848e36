/-
  A region that draws its order: two variables of disks that are made, and then written. No program but its types' numbers.
-/
import Derived.Test.YtgaecpdokgklpabJReg
import Derived.Test.YtgaecpdokgklpabJPd
namespace Go.Proofs.Ytgaecpdokgklpab
set_option maxRecDepth 100000
open Go.RowKit
open Go.Proofs.Ytgaecpdokgklpab.Plain Go.Proofs.Ytgaecpdokgklpab.Reg

/-! ### Two variables of disks that are made, and then written -/

def nilD : Obj := .cells #[.slice none 0 0, .slice none 0 0] 25 (0, 0)
/-- A variable f b, made or not, written or not with what f c is. -/
def OneJ (W : World) (c b s : Nat) (dn : Nat → Bool) (f : Nat → Value) (w : World) : Prop :=
 dn b = true → ∃ g, f b = .pointer (some ⟨g, 0, none⟩) ∧ W.heap.size ≤ g ∧ (dn s = false → w.heap[g]? = some nilD) ∧ (dn s = true → ∃ vb vl, f c = .agg #[vb, vl] ∧ w.heap[g]? = some (.cells #[vb, vl] 25 (0, 0)))
def TwoJ (W : World) (c1 c2 b1 b2 s1 s2 : Nat) (dn : Nat → Bool) (f : Nat → Value) (w : World) : Prop :=
 Grow W w ∧ OneJ W c1 b1 s1 dn f w ∧ OneJ W c2 b2 s2 dn f w ∧ (dn b1 = true → dn b2 = true → f b1 ≠ f b2)
theorem TwoJ.start (W : World) (c1 c2 b1 b2 s1 s2 : Nat) (f : Nat → Value) : TwoJ W c1 c2 b1 b2 s1 s2 (fun _ => false) f W.drew := by
 refine ⟨(Grow.refl _).drew, ?_, ?_, ?_⟩ <;> (intro h; cases h)
theorem OneJ.keep {W : World} {c b s : Nat} {dn : Nat → Bool} {f : Nat → Value} {w w' : World} (h : OneJ W c b s dn f w) (hk : ∀ g, f b = .pointer (some ⟨g, 0, none⟩) → g < w.heap.size → w'.heap[g]? = w.heap[g]?) : OneJ W c b s dn f w' := by
 intro hb
 obtain ⟨g, h1, h2, h3, h4⟩ := h hb
 refine ⟨g, h1, h2, fun hs => ?_, fun hs => ?_⟩
 ·have := h3 hs; rw [hk g h1 (heap_lt this)]; exact this
 ·obtain ⟨vb, vl, e1, e2⟩ := h4 hs
  exact ⟨vb, vl, e1, by rw [hk g h1 (heap_lt e2)]; exact e2⟩
theorem OneJ.grow {W : World} {c b s : Nat} {dn : Nat → Bool} {f : Nat → Value} {w w' : World} (h : OneJ W c b s dn f w) (hg : Grow w w') : OneJ W c b s dn f w' := h.keep fun g _ hl => hg.block g hl
theorem TwoJ.grow {W : World} {c1 c2 b1 b2 s1 s2 : Nat} {dn : Nat → Bool} {f : Nat → Value} {w w' : World} (h : TwoJ W c1 c2 b1 b2 s1 s2 dn f w) (hg : Grow w w') : TwoJ W c1 c2 b1 b2 s1 s2 dn f w' :=
 ⟨h.1.trans hg, h.2.1.grow hg, h.2.2.1.grow hg, h.2.2.2⟩
theorem TwoJ.symm {W : World} {c1 c2 b1 b2 s1 s2 : Nat} {dn : Nat → Bool} {f : Nat → Value} {w : World} (h : TwoJ W c1 c2 b1 b2 s1 s2 dn f w) : TwoJ W c2 c1 b2 b1 s2 s1 dn f w :=
 ⟨h.1, h.2.2.1, h.2.1, fun a b e => h.2.2.2 b a e.symm⟩
theorem upd_ne {dn : Nat → Bool} {i j : Nat} (h : j ≠ i) : upd dn i j = dn j := by unfold upd; rw [if_neg h]
theorem upd_at {dn : Nat → Bool} {i : Nat} : upd dn i i = true := by unfold upd; rw [if_pos rfl]
theorem setv_ne {f : Nat → Value} {i j : Nat} {v : Value} (h : j ≠ i) : setv f i v j = f j := by unfold setv; rw [if_neg h]
theorem setv_at {f : Nat → Value} {i : Nat} {v : Value} : setv f i v i = v := by unfold setv; rw [if_pos rfl]
theorem OneJ.other {W : World} {c b s i : Nat} {dn : Nat → Bool} {f : Nat → Value} {v : Value} {w : World} (h : OneJ W c b s dn f w) (n1 : c ≠ i) (n2 : b ≠ i) (n3 : s ≠ i) : OneJ W c b s (upd dn i) (setv f i v) w := by
 unfold OneJ
 rw [upd_ne n2, upd_ne n3, setv_ne n1, setv_ne n2]
 exact h
/-- What is to be written comes. -/
theorem TwoJ.call1 {W : World} {c1 c2 b1 b2 s1 s2 : Nat} {dn : Nat → Bool} {f : Nat → Value} {v : Value} {w : World} (h : TwoJ W c1 c2 b1 b2 s1 s2 dn f w) (n : c2 ≠ c1 ∧ b1 ≠ c1 ∧ b2 ≠ c1 ∧ s1 ≠ c1 ∧ s2 ≠ c1) (hs : dn s1 = false) : TwoJ W c1 c2 b1 b2 s1 s2 (upd dn c1) (setv f c1 v) w := by
 obtain ⟨n1, n2, n3, n4, n5⟩ := n
 refine ⟨h.1, ?_, h.2.2.1.other n1 n3 n5, by rw [upd_ne n2, upd_ne n3, setv_ne n2, setv_ne n3]; exact h.2.2.2⟩
 unfold OneJ
 rw [upd_ne n2, upd_ne n4, setv_ne n2]
 intro hb
 obtain ⟨g, h1, h2, h3, h4⟩ := h.2.1 hb
 exact ⟨g, h1, h2, h3, fun h5 => by rw [hs] at h5; cases h5⟩
/-- A variable is made. -/
theorem TwoJ.alloc1 {W : World} {c1 c2 b1 b2 s1 s2 : Nat} {dn : Nat → Bool} {f : Nat → Value} {w : World} (h : TwoJ W c1 c2 b1 b2 s1 s2 dn f w) (n : c1 ≠ b1 ∧ c2 ≠ b1 ∧ b2 ≠ b1 ∧ s1 ≠ b1 ∧ s2 ≠ b1) (hs : dn s1 = false) : TwoJ W c1 c2 b1 b2 s1 s2 (upd dn b1) (setv f b1 (.pointer (some ⟨w.heap.size, 0, none⟩))) (w.alloc nilD) := by
 obtain ⟨n1, n2, n3, n4, n5⟩ := n
 have hg := grow_alloc w nilD
 refine ⟨h.1.trans hg, fun _ => ⟨w.heap.size, setv_at, h.1.size, fun _ => heap_new _ _ _, fun h5 => ?_⟩, (h.2.2.1.grow hg).other n2 n3 n5, fun _ hb2 => ?_⟩
 ·rw [upd_ne n4, hs] at h5; cases h5
 ·rw [upd_ne n3] at hb2
  obtain ⟨g, h1, h2, h3, h4⟩ := h.2.2.1 hb2
  rw [setv_at, setv_ne n3, h1]
  intro e
  have e' : w.heap.size = g := by injection e with e1; injection e1 with e2; injection e2
  have hgl : g < w.heap.size := by
   cases hd : dn s2 with
   | false => exact heap_lt (h3 hd)
   | true => obtain ⟨vb, vl, _, e2⟩ := h4 hd; exact heap_lt e2
  omega
/-- It is written. -/
theorem TwoJ.store1 {W : World} {c1 c2 b1 b2 s1 s2 : Nat} {dn : Nat → Bool} {f : Nat → Value} {w : World} {vb vl : Value} (h : TwoJ W c1 c2 b1 b2 s1 s2 dn f w) (n : c1 ≠ s1 ∧ c2 ≠ s1 ∧ b1 ≠ s1 ∧ b2 ≠ s1 ∧ s2 ≠ s1) (d1 : dn b1 = true) (d2 : dn b2 = true) (hs : dn s1 = false) (hv : f c1 = .agg #[vb, vl]) :
  ∃ g, f b1 = .pointer (some ⟨g, 0, none⟩) ∧ w.heap[g]? = some nilD ∧ TwoJ W c1 c2 b1 b2 s1 s2 (upd dn s1) (setv f s1 undef) ((w.setCell ⟨g, 0, none⟩ vb).setCell ⟨g, 1, none⟩ vl) := by
 obtain ⟨n1, n2, n3, n4, n5⟩ := n
 obtain ⟨g, h1, h2, h3, h4⟩ := h.2.1 d1
 have hz := h3 hs
 obtain ⟨hp1, hp2⟩ := box_put2 (show w.heap[g]? = some (.cells #[.slice none 0 0, .slice none 0 0] 25 (0, 0)) from hz) vb vl
 refine ⟨g, h1, hz, hp2.grow h.1 h2, ?_, ?_, by rw [upd_ne n3, upd_ne n4, setv_ne n3, setv_ne n4]; exact h.2.2.2⟩
 ·intro _
  refine ⟨g, by rw [setv_ne n3]; exact h1, h2, fun h5 => ?_, fun _ => ⟨vb, vl, by rw [setv_ne n1]; exact hv, hp1⟩⟩
  rw [upd_at] at h5; cases h5
 ·refine OneJ.other (OneJ.keep h.2.2.1 fun g' hg' hl => hp2.block g' hl ?_) n2 n4 n5
  rintro rfl
  exact h.2.2.2 d1 d2 (h1.trans hg'.symm)
theorem TwoJ.done {W : World} {c1 c2 b1 b2 s1 s2 : Nat} {dn : Nat → Bool} {f : Nat → Value} {w : World} (h : TwoJ W c1 c2 b1 b2 s1 s2 dn f w) (d1 : dn b1 = true) (d2 : dn b2 = true) (e1 : dn s1 = true) (e2 : dn s2 = true) :
  ∃ g1 g2 vb1 vl1 vb2 vl2, f b1 = .pointer (some ⟨g1, 0, none⟩) ∧ f b2 = .pointer (some ⟨g2, 0, none⟩) ∧ f c1 = .agg #[vb1, vl1] ∧ f c2 = .agg #[vb2, vl2] ∧ w.heap[g1]? = some (.cells #[vb1, vl1] 25 (0, 0)) ∧ w.heap[g2]? = some (.cells #[vb2, vl2] 25 (0, 0)) := by
 obtain ⟨g1, a1, a2, a3, a4⟩ := h.2.1 d1
 obtain ⟨g2, b1, b2, b3, b4⟩ := h.2.2.1 d2
 obtain ⟨vb1, vl1, x1, x2⟩ := a4 e1
 obtain ⟨vb2, vl2, y1, y2⟩ := b4 e2
 exact ⟨g1, g2, vb1, vl1, vb2, vl2, a1, b1, x1, y1, x2, y2⟩
theorem box_step2 {w : World} {g : Nat} (h : w.heap[g]? = some nilD) (vb vl : Value) : BoxStep 25 w ((w.setCell ⟨g, 0, none⟩ vb).setCell ⟨g, 1, none⟩ vl) := by
 obtain ⟨hp1, hp2⟩ := box_put2 (show w.heap[g]? = some (.cells #[.slice none 0 0, .slice none 0 0] 25 (0, 0)) from h) vb vl
 exact .inr ⟨g, _, _, hp2, h, hp1, rfl⟩
end Go.Proofs.Ytgaecpdokgklpab
