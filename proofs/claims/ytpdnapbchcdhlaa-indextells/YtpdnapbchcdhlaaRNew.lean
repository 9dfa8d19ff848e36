import Derived.Test.YtpdnapbchcdhlaaJPd
set_option maxHeartbeats 8000000
namespace Go.Proofs.Ytpdnapbchcdhlaa
set_option maxRecDepth 100000
open Go.RowKit
open Plain Reg
def Ziy (w : World) (v : Value) (bs : List (List UInt8)) (us : List Value) (dn : Nat → Bool) (w' : World) : Prop :=
 Zm w w' ∧ w'.heap[w.heap.size]? = some (.cells #[.slice none 0 0, .slice none 0 0] 46 (0, 0)) ∧ w.heap.size + 1 + 1 ≤ w'.heap.size ∧ (dn 8 = false → w'.heap[w.heap.size + 1]? = some (.cells #[v, .slice none 0 0] 46 (0, 0))) ∧
  (dn 6 = false → w'.ownsRow (w.heap.size + 1 + 1) 22 1 v bs.length us) ∧ (∀ i (hi : i < bs.length), ∃ u, us[i]? = some u ∧ w'.ownsRow (w.heap.size + 1 + 1) 5 1 u bs[i].length (bs[i].map bv))
theorem Ziy.grow {w : World} {v : Value} {bs : List (List UInt8)} {us : List Value} {dn : Nat → Bool} {w' w'' : World} (h : Ziy w v bs us dn w') (hg : Zm w' w'') : Ziy w v bs us dn w'' :=
 ⟨h.1.trans hg, (hg.block _ (Zg h.2.1)).trans h.2.1, Nat.le_trans h.2.2.1 hg.size, fun h8 => (hg.block _ (Zg (h.2.2.2.1 h8))).trans (h.2.2.2.1 h8), fun h6 => Z9 (h.2.2.2.2.1 h6) hg, fun i hi => (h.2.2.2.2.2 i hi).imp fun _ hu => ⟨hu.1, Z9 hu.2 hg⟩⟩
def Ze1 (S : Nat → Prop) (d : Dk) (w : World) (c : Array Value) (k : Nat) (wr : World) : Prop :=
 Zm w wr ∧ wr.heap[w.heap.size]? = some (.cells c 46 (0, 0)) ∧ wr.heap[w.heap.size + 1]? = some (.cells #[.slice none 0 0, .slice none 0 0] 46 (0, 0)) ∧
  Za5 S (w.heap.size + 1 + 1 + 1) (w.heap.size + 1 + 1) (.slice none 0 0) ((List.range k).map fun (i : Nat) => (d.get (i : Int)).getD []) wr
theorem Ze1.grow {S : Nat → Prop} {d : Dk} {w : World} {c : Array Value} {k : Nat} {wr w' : World} (h : Ze1 S d w c k wr) (hg : Zm wr w') : Ze1 S d w c k w' :=
 ⟨h.1.trans hg, (hg.block _ (Zg h.2.1)).trans h.2.1, (hg.block _ (Zg h.2.2.1)).trans h.2.2.1, h.2.2.2.grow hg⟩
end Go.Proofs.Ytpdnapbchcdhlaa
namespace Go.Proofs.Ytpdnapbchcdhlaa
set_option maxRecDepth 100000
open Go.RowKit
open Plain Reg
variable {g : Nat} {w : World}
theorem Za5.put {S0 : Nat → Prop} {B q cap i : Nat} {lv u : Value} {us : List Value} {bs : List (List UInt8)} {b : List UInt8} (h3 : w.heap[g]? = some (.cells #[.slice (some ⟨q, 0, none⟩) bs.length cap, lv] 46 (0, 0))) (h4 : us.length = bs.length)
  (h5 : ∀ i (hi : i < bs.length), ∃ u, us[i]? = some u ∧ Z4 (InS S0 B w) w u bs[i]) (h6 : w.ownsRow B 22 1 (.slice (some ⟨q, 0, none⟩) bs.length cap) bs.length us) (hS0 : ∀ b, S0 b → b < B) (hu : Z4 (InS S0 B w) w u b) (hi : i < bs.length) : Za5 S0 B g lv (bs.set i b) (w.setCell ⟨q, i, none⟩ u) := by
 have hq : ∃ cur, w.heap[q]? = some (.cells cur 22 (0, 0)) := by
  rcases h6.2 with ⟨e, _⟩ | ⟨q', cap', cur, e, _, hh, _⟩
  ·cases e
  ·cases e; exact ⟨cur, hh⟩
 obtain ⟨cur, hq⟩ := hq;have hqB : B ≤ q := (h6.lt q rfl).1;have keep : ∀ b, InS S0 B w b → (w.setCell ⟨q, i, none⟩ u).heap[b]? = w.heap[b]? := by
  intro b hSb;refine Below.heap_setCell _ _ _ _ ?_;rintro rfl;rcases hSb with h | ⟨_, c, f, h⟩
  ·have := hS0 _ h; omega
  ·rw [hq] at h; cases h
 have keep' : ∀ b, InS S0 B w b → InS S0 B (w.setCell ⟨q, i, none⟩ u) b := fun b h => Xj h (fun x => x) fun ⟨k1, c, f, k2⟩ => ⟨k1, c, f, (keep b h).trans k2⟩
 have hgq : g ≠ q := by rintro rfl; rw [h3] at hq; cases hq
 refine ⟨.slice (some ⟨q, 0, none⟩) bs.length cap, us.set i u, ?_, by simp [h4], fun j hj => ?_, ?_⟩
 ·rw [Below.heap_setCell _ _ _ _ hgq]; exact h3
 ·rw [List.length_set] at hj;by_cases e : i = j
  ·subst e;refine ⟨u, by rw [List.getElem?_set]; simp [h4, hi], ?_⟩;simp only [List.getElem_set_self];exact (hu.keep keep).mono keep'
  ·obtain ⟨x, e1, e2⟩ := h5 j hj;refine ⟨x, by rw [List.getElem?_set]; simp [e, e1], ?_⟩;rw [List.getElem_set_ne e];exact (e2.keep keep).mono keep'
 ·rw [List.length_set]; exact (h6.stored i u).1
def Zi5 (S : Nat → Prop) (d : Dk) (bits : Int) (w : World) (g : Nat) (c : Array Value) (k : Nat) (wr : World) : Prop :=
 Zm w wr ∧ wr.heap[w.heap.size]? = some (.cells c 46 (0, 0)) ∧ wr.heap[w.heap.size + 1]? = some (.cells #[.slice none 0 0, .slice none 0 0] 46 (0, 0)) ∧
  Za5 S (w.heap.size + 1 + 1) g (.slice none 0 0) (d.keepTo (Zj6 bits) k) wr
theorem Zi5.grow {S : Nat → Prop} {d : Dk} {bits : Int} {c : Array Value} {k : Nat} {wr w' : World} (h : Zi5 S d bits w g c k wr) (hg : Zm wr w') : Zi5 S d bits w g c k w' :=
 ⟨h.1.trans hg, (hg.block _ (Zg h.2.1)).trans h.2.1, (hg.block _ (Zg h.2.2.1)).trans h.2.2.1, h.2.2.2.grow hg⟩
end Go.Proofs.Ytpdnapbchcdhlaa
namespace Go.Proofs.Ytpdnapbchcdhlaa
set_option maxRecDepth 100000
open Go.RowKit
open Plain Reg
def Zew (S : Nat → Prop) (d : Dk) (a n y : Int) (w : World) (c : Array Value) (lv : Value) (k : Nat) (wr : World) : Prop :=
 Zm w wr ∧ wr.heap[w.heap.size]? = some (.cells c 46 (0, 0)) ∧ wr.heap[w.heap.size + 1]? = some (.cells #[.slice none 0 0, .slice none 0 0] 46 (0, 0)) ∧
  Za5 S (w.heap.size + 1 + 1 + 1) (w.heap.size + 1 + 1) lv ((List.range k).map fun (i : Nat) => if (i : Int) = a then Zg7 (d.blocks.getD i []) n y else d.blocks.getD i []) wr
theorem Zew.grow {S : Nat → Prop} {d : Dk} {a n y : Int} {w : World} {c : Array Value} {lv : Value} {k : Nat} {wr w' : World} (h : Zew S d a n y w c lv k wr) (hg : Zm wr w') : Zew S d a n y w c lv k w' :=
 ⟨h.1.trans hg, (hg.block _ (Zg h.2.1)).trans h.2.1, (hg.block _ (Zg h.2.2.1)).trans h.2.2.1, h.2.2.2.grow hg⟩
end Go.Proofs.Ytpdnapbchcdhlaa
