/-
  A disk's variable whose blocks grow one by one, and what the document's Flush makes of a disk.
  Condition: the disk lies in memory, of at most 256 blocks.
-/
import Derived.Test.YtgaecpdokgklpabRPut
import Derived.Test.YtgaecpdokgklpabDkLaw
namespace Go.Proofs.Ytgaecpdokgklpab
set_option maxRecDepth 100000
open Go.RowKit
open Go.Proofs.Ytgaecpdokgklpab.Plain Go.Proofs.Ytgaecpdokgklpab.Reg

/-- Bytes stay while other blocks are written. -/
theorem BytesS.keep {S : Nat → Prop} {w w' : World} {v : Value} {l : List UInt8} (h : BytesS S w v l) (hk : ∀ b, S b → w'.heap[b]? = w.heap[b]?) : BytesS S w' v l := by
 rcases h with h | ⟨b, off, cap, hS, rfl, h1, hc⟩
 ·exact .inl h
 ·refine .inr ⟨b, off, cap, hS, rfl, h1, fun i hi => ?_⟩
  rw [← hc i hi]
  simp only [World.cell?, hk b hS]

/-- What such a disk may lean on: what was there ahead, and rows of bytes from block B on. -/
def InS (S0 : Nat → Prop) (B : Nat) (w : World) (b : Nat) : Prop := S0 b ∨ (B ≤ b ∧ ∃ c f, w.heap[b]? = some (.cells c 5 f))
theorem InS.grow {S0 : Nat → Prop} {B : Nat} {w w' : World} (hg : Grow w w') (b : Nat) (h : InS S0 B w b) : InS S0 B w' b :=
 or_map h (fun x => x) fun ⟨h1, c, f, h2⟩ => ⟨h1, c, f, (hg.block _ (heap_lt h2)).trans h2⟩
theorem InS.upon {S0 : Nat → Prop} {B : Nat} {w : World} (b : Nat) (h : InS S0 B w b) : Upon S0 B b := or_map h (fun x => x) fun h => h.1
theorem own_in {w : World} {base B : Nat} {v : Value} {l : List UInt8} (S0 : Nat → Prop) (hb : B ≤ base) (h : w.ownsRow base 5 1 v l.length (l.map bv)) : BytesS (InS S0 B w) w v l := by
 rcases h.2 with ⟨rfl, h0⟩ | ⟨q, cap, cur, rfl, hq, hh, h1, h2, h3, h4⟩
 ·exact .inl ⟨none, 0, rfl, List.eq_nil_of_length_eq_zero h0, fun _ => rfl⟩
 ·refine .inr ⟨q, 0, cap, .inr ⟨by omega, _, _, hh⟩, rfl, h1, fun i hi => ?_⟩
  have := h.cellAt i (by omega)
  rw [Nat.zero_add, this]
  simp [hi, bv]
/-- A disk's variable g, whose blocks' row is its own, from block B on: the blocks so far. -/
def OutB (S0 : Nat → Prop) (B g : Nat) (lv : Value) (bs : List (List UInt8)) (w : World) : Prop :=
 ∃ v us, w.heap[g]? = some (.cells #[v, lv] 25 (0, 0)) ∧ us.length = bs.length ∧ (∀ i (hi : i < bs.length), ∃ u, us[i]? = some u ∧ BytesS (InS S0 B w) w u bs[i]) ∧ w.ownsRow B 31 1 v bs.length us
theorem OutB.grow {S0 : Nat → Prop} {B g : Nat} {lv : Value} {bs : List (List UInt8)} {w w' : World} (h : OutB S0 B g lv bs w) (hg : Grow w w') : OutB S0 B g lv bs w' := by
 obtain ⟨v, us, h3, h4, h5, h6⟩ := h
 exact ⟨v, us, (hg.block _ (heap_lt h3)).trans h3, h4, fun i hi => (h5 i hi).imp fun u hu => ⟨hu.1, (hu.2.grow hg).mono (InS.grow hg)⟩, own_grow h6 hg⟩
theorem OutB.start {S0 : Nat → Prop} {B g : Nat} {lv : Value} {w : World} (h : w.heap[g]? = some (.cells #[.slice none 0 0, lv] 25 (0, 0))) : OutB S0 B g lv [] w :=
 ⟨.slice none 0 0, [], h, rfl, fun i hi => by simp at hi, rfl, .inl ⟨rfl, rfl⟩⟩
theorem row_blocks {S0 : Nat → Prop} {B : Nat} {v : Value} {us : List Value} {bs : List (List UInt8)} {w : World} (h5 : ∀ i (hi : i < bs.length), ∃ u, us[i]? = some u ∧ BytesS (InS S0 B w) w u bs[i]) (h6 : w.ownsRow B 31 1 v bs.length us) : BlocksS (Upon S0 B) w v bs := by
 rcases h6.2 with ⟨rfl, h0⟩ | ⟨q, cap, cur, rfl, hb, hh, k1, k2, k3, k4⟩
 ·exact .inl ⟨none, 0, rfl, List.eq_nil_of_length_eq_zero h0, fun _ => rfl⟩
 ·refine .inr ⟨q, 0, cap, .inr hb, rfl, k1, fun i hi => ?_⟩
  have c0 := h6.cellAt i (by omega)
  obtain ⟨u, hu1, hu2⟩ := h5 i hi
  rw [hu1] at c0
  exact ⟨u, by rw [Nat.zero_add]; exact c0, hu2.mono InS.upon⟩
theorem OutB.blocks {S0 : Nat → Prop} {B g : Nat} {lv : Value} {bs : List (List UInt8)} {w : World} (h : OutB S0 B g lv bs w) : ∃ v, w.heap[g]? = some (.cells #[v, lv] 25 (0, 0)) ∧ BlocksS (Upon S0 B) w v bs := by
 obtain ⟨v, us, h3, h4, h5, h6⟩ := h
 exact ⟨v, h3, row_blocks h5 h6⟩
theorem info_bytes : (Try.prog.info? 31).map (fun i => (i.zero, i.size, i.bytes)) = some (some (.slice none 0 0), 1, 24) := by kernel_rfl
theorem news_one (w : World) (x : Value) (e : TypeId) (j : Nat) (u : Value) (h : [x][j]? = some u) : (w.alloc (.cells #[x] e)).cell? ((⟨w.heap.size, 0, none⟩ : Addr).add j) = some u := by
 match j, h with
 | 0, h => simp at h; subst h; simp [Addr.add]
 | j + 1, h => simp at h
/-- A row is no block of another type. -/
theorem out_ne {B n : Nat} {e T : TypeId} {v : Value} {us : List Value} {w : World} {b : Nat} {c f} (h : w.ownsRow B e 1 v n us) (hne : e ≠ T) (hb : w.heap[b]? = some (.cells c T f)) : some b ≠ v.ownBlock := by
 rcases h.2 with ⟨rfl, _⟩ | ⟨q, cap, cur, rfl, _, hq, _⟩
 ·simp [Value.ownBlock]
 ·intro e1
  simp [Value.ownBlock] at e1
  subst e1
  rw [hb] at hq; cases hq; exact hne rfl
theorem own_type2 {w : World} {base g n i : Nat} {e T : TypeId} {c f} {v x : Value} {xs : List Value} (h : w.ownsRow base e 1 v n xs) (hg : w.heap[g]? = some (.cells c T f)) (hT : e ≠ T) : (w.setCell ⟨g, i, none⟩ x).ownsRow base e 1 v n xs := by
 refine ⟨h.1, or_map h.2 (fun x => x) fun ⟨q, cap, cur, h1, h2, h3, r⟩ => ⟨q, cap, cur, h1, h2, ?_, r⟩⟩
 rw [Below.heap_setCell _ _ _ _ (by rintro rfl; rw [hg] at h3; cases h3; exact hT rfl)]
 exact h3
/-- Blocks ahead of B stay while a row grows, and every variable. -/
theorem out_below {B n : Nat} {v : Value} {us : List Value} {w w3 : World} {o : Obj} (hle : B ≤ w.heap.size) (hown : w.ownsRow B 31 1 v n us) (hg : (w.alloc o).grownBy w3 v.ownBlock) : Below B w w3 :=
 Below.grown (Below.alloc (Below.refl _ _) hle o) hg (by simp; omega) (fun k hk => (hown.lt k hk).1)
theorem out_box {B n b : Nat} {v : Value} {us : List Value} {T : TypeId} {c f} {w w3 : World} {o : Obj} (hown : w.ownsRow B 31 1 v n us) (hT : 31 ≠ T) (hb : w.heap[b]? = some (.cells c T f)) (hg : (w.alloc o).grownBy w3 v.ownBlock) : w3.heap[b]? = some (.cells c T f) :=
 (hg.block _ (by have := heap_lt hb; simp; omega) (out_ne hown hT hb)).trans (((grow_alloc w o).block _ (heap_lt hb)).trans hb)
/-- One more block. -/
theorem OutB.step {S0 : Nat → Prop} {B g : Nat} {lv v v' u : Value} {us : List Value} {bs : List (List UInt8)} {b : List UInt8} {w w3 : World} {o : Obj} (h3 : w.heap[g]? = some (.cells #[v, lv] 25 (0, 0))) (h4 : us.length = bs.length)
  (h5 : ∀ i (hi : i < bs.length), ∃ u, us[i]? = some u ∧ BytesS (InS S0 B w) w u bs[i]) (h6 : w.ownsRow B 31 1 v bs.length us) (hS0 : ∀ b, S0 b → b < B ∧ b ≠ g) (hle : B ≤ w.heap.size) (hu : BytesS (InS S0 B w) w u b)
  (hg : (w.alloc o).grownBy w3 v.ownBlock) (hown : w3.ownsRow B 31 1 v' (bs.length + 1) (us ++ [u])) : OutB S0 B g lv (bs ++ [b]) (w3.setCell ⟨g, 0, none⟩ v') := by
 have hbx := out_box h6 (by decide) h3 hg
 have keep : ∀ b, InS S0 B w b → (w3.setCell ⟨g, 0, none⟩ v').heap[b]? = w.heap[b]? := by
  intro b hSb
  have hne : b ≠ g := by
   rcases hSb with h | ⟨_, c, f, h⟩
   ·exact (hS0 _ h).2
   ·rintro rfl; rw [h3] at h; cases h
  have hlt : b < w.heap.size := by
   rcases hSb with h | ⟨_, c, f, h⟩
   ·have := (hS0 _ h).1; omega
   ·exact heap_lt h
  have hrow : some b ≠ v.ownBlock := by
   rcases hSb with h | ⟨_, c, f, h⟩
   ·intro e; have := (h6.lt b e.symm).1; have := (hS0 _ h).1; omega
   ·exact out_ne h6 (by decide) h
  rw [Below.heap_setCell _ _ _ _ hne]
  exact (hg.block _ (by simp; omega) hrow).trans ((grow_alloc w o).block _ hlt)
 have keep' : ∀ b, InS S0 B w b → InS S0 B (w3.setCell ⟨g, 0, none⟩ v') b := fun b h => or_map h (fun x => x) fun ⟨k1, c, f, k2⟩ => ⟨k1, c, f, (keep b h).trans k2⟩
 refine ⟨v', us ++ [u], ?_, by simp [h4], fun i hi => ?_, ?_⟩
 ·have := heap_set hbx 0 v'
  simpa using this
 ·by_cases hi2 : i < bs.length
  ·obtain ⟨x, e1, e2⟩ := h5 i hi2
   refine ⟨x, by rw [List.getElem?_append_left (by omega)]; exact e1, ?_⟩
   rw [List.getElem_append_left hi2]
   exact (e2.keep keep).mono keep'
  ·have e : i = bs.length := by simp at hi; omega
   subst e
   refine ⟨u, by rw [← h4]; simp, ?_⟩
   have hu' := (hu.keep keep).mono keep'
   simpa using hu'
 ·have := own_type2 (i := 0) (x := v') hown hbx (by decide)
  simpa using this
end Go.Proofs.Ytgaecpdokgklpab
