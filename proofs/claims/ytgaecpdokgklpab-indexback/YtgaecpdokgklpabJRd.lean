/-
  RFlush, RKeep, RSpoil: several texts in one.
-/
import Derived.Test.YtgaecpdokgklpabROut
import Derived.Laws.OwnMore
/-
  What the document's Flush makes of a disk.
  Condition: the disk lies in memory, of at most 256 blocks, writes of no place below nought.
-/
namespace Go.Proofs.Ytgaecpdokgklpab
set_option maxRecDepth 100000
open Go.RowKit
open Go.Proofs.Ytgaecpdokgklpab.Plain Go.Proofs.Ytgaecpdokgklpab.Reg

def FlushL (S : Nat → Prop) (d : Dk) (w : World) (c : Array Value) (k : Nat) (wr : World) : Prop :=
 Grow w wr ∧ wr.heap[w.heap.size]? = some (.cells c 25 (0, 0)) ∧ wr.heap[w.heap.size + 1]? = some (.cells #[.slice none 0 0, .slice none 0 0] 25 (0, 0)) ∧
  OutB S (w.heap.size + 1 + 1 + 1) (w.heap.size + 1 + 1) (.slice none 0 0) ((List.range k).map fun (i : Nat) => (d.get (i : Int)).getD []) wr
theorem FlushL.grow {S : Nat → Prop} {d : Dk} {w : World} {c : Array Value} {k : Nat} {wr w' : World} (h : FlushL S d w c k wr) (hg : Grow wr w') : FlushL S d w c k w' :=
 ⟨h.1.trans hg, (hg.block _ (heap_lt h.2.1)).trans h.2.1, (hg.block _ (heap_lt h.2.2.1)).trans h.2.2.1, h.2.2.2.grow hg⟩

end Go.Proofs.Ytgaecpdokgklpab

/-
  What the document's Keep makes of a disk, by bits.
  Condition: the disk lies in memory, of some blocks, at most 256, writes of places that there are.
-/
namespace Go.Proofs.Ytgaecpdokgklpab
set_option maxRecDepth 100000
open Go.RowKit
open Go.Proofs.Ytgaecpdokgklpab.Plain Go.Proofs.Ytgaecpdokgklpab.Reg

/-- A slice of blocks as append wants its source. -/
theorem blocks_src {S : Nat → Prop} {w : World} {v : Value} {bs : List (List UInt8)} (h : BlocksS S w v bs) (h0 : 0 < bs.length) :
  ∃ (ad : Addr) (cap : Nat) (us : List Value), v = .slice (some ad) bs.length cap ∧ us.length = bs.length ∧ (∀ (j : Nat) u, us[j]? = some u → w.cell? (ad.add j) = some u) ∧ (∀ i (hi : i < bs.length), ∃ u, us[i]? = some u ∧ BytesS S w u bs[i]) := by
 rcases h with ⟨ao, cap, rfl, rfl, h1⟩ | ⟨b, off, cap, hSb, rfl, h1, hc⟩
 ·simp at h0
 ·have hex : ∃ f : Nat → Value, ∀ i (hi : i < bs.length), w.cell? ⟨b, off + i, none⟩ = some (f i) ∧ BytesS S w (f i) bs[i] := by
   refine ⟨fun i => if hi : i < bs.length then (hc i hi).choose else undef, fun i hi => ?_⟩
   simp only [hi, dif_pos]
   exact (hc i hi).choose_spec
  obtain ⟨f, hf⟩ := hex
  refine ⟨_, cap, (List.range bs.length).map f, rfl, by simp, fun j u hj => ?_, fun i hi => ⟨f i, by simp [hi], (hf i hi).2⟩⟩
  have hjl : j < bs.length := by
   rcases Nat.lt_or_ge j bs.length with h | h
   ·exact h
   ·rw [List.getElem?_eq_none (by simpa using h)] at hj; cases hj
  have e : u = f j := by simp [hjl] at hj; exact hj.symm
  subst e
  have e2 : ∀ m, (⟨b, off, none⟩ : Addr).add m = ⟨b, off + m, none⟩ := fun m => by simp [Addr.add]
  rw [e2]; exact (hf j hjl).1

/-- One block is written anew. -/
theorem OutB.put {S0 : Nat → Prop} {B g q cap i : Nat} {lv u : Value} {us : List Value} {bs : List (List UInt8)} {b : List UInt8} {w : World} (h3 : w.heap[g]? = some (.cells #[.slice (some ⟨q, 0, none⟩) bs.length cap, lv] 25 (0, 0))) (h4 : us.length = bs.length)
  (h5 : ∀ i (hi : i < bs.length), ∃ u, us[i]? = some u ∧ BytesS (InS S0 B w) w u bs[i]) (h6 : w.ownsRow B 31 1 (.slice (some ⟨q, 0, none⟩) bs.length cap) bs.length us) (hS0 : ∀ b, S0 b → b < B) (hu : BytesS (InS S0 B w) w u b) (hi : i < bs.length) : OutB S0 B g lv (bs.set i b) (w.setCell ⟨q, i, none⟩ u) := by
 have hq : ∃ cur, w.heap[q]? = some (.cells cur 31 (0, 0)) := by
  rcases h6.2 with ⟨e, _⟩ | ⟨q', cap', cur, e, _, hh, _⟩
  ·cases e
  ·cases e; exact ⟨cur, hh⟩
 obtain ⟨cur, hq⟩ := hq
 have hqB : B ≤ q := (h6.lt q rfl).1
 have keep : ∀ b, InS S0 B w b → (w.setCell ⟨q, i, none⟩ u).heap[b]? = w.heap[b]? := by
  intro b hSb
  refine Below.heap_setCell _ _ _ _ ?_
  rintro rfl
  rcases hSb with h | ⟨_, c, f, h⟩
  ·have := hS0 _ h; omega
  ·rw [hq] at h; cases h
 have keep' : ∀ b, InS S0 B w b → InS S0 B (w.setCell ⟨q, i, none⟩ u) b := fun b h => or_map h (fun x => x) fun ⟨k1, c, f, k2⟩ => ⟨k1, c, f, (keep b h).trans k2⟩
 have hgq : g ≠ q := by rintro rfl; rw [h3] at hq; cases hq
 refine ⟨.slice (some ⟨q, 0, none⟩) bs.length cap, us.set i u, ?_, by simp [h4], fun j hj => ?_, ?_⟩
 ·rw [Below.heap_setCell _ _ _ _ hgq]; exact h3
 ·rw [List.length_set] at hj
  by_cases e : i = j
  ·subst e
   refine ⟨u, by rw [List.getElem?_set]; simp [h4, hi], ?_⟩
   simp only [List.getElem_set_self]
   exact (hu.keep keep).mono keep'
  ·obtain ⟨x, e1, e2⟩ := h5 j hj
   refine ⟨x, by rw [List.getElem?_set]; simp [e, e1], ?_⟩
   rw [List.getElem_set_ne e]
   exact (e2.keep keep).mono keep'
 ·rw [List.length_set]; exact (h6.stored i u).1

def KeepL (S : Nat → Prop) (d : Dk) (bits : Int) (w : World) (g : Nat) (c : Array Value) (k : Nat) (wr : World) : Prop :=
 Grow w wr ∧ wr.heap[w.heap.size]? = some (.cells c 25 (0, 0)) ∧ wr.heap[w.heap.size + 1]? = some (.cells #[.slice none 0 0, .slice none 0 0] 25 (0, 0)) ∧
  OutB S (w.heap.size + 1 + 1) g (.slice none 0 0) (d.keepTo (bitOn bits) k) wr
theorem KeepL.grow {S : Nat → Prop} {d : Dk} {bits : Int} {w : World} {g : Nat} {c : Array Value} {k : Nat} {wr w' : World} (h : KeepL S d bits w g c k wr) (hg : Grow wr w') : KeepL S d bits w g c k w' :=
 ⟨h.1.trans hg, (hg.block _ (heap_lt h.2.1)).trans h.2.1, (hg.block _ (heap_lt h.2.2.1)).trans h.2.2.1, h.2.2.2.grow hg⟩

theorem start_u64 (bits : Int) : Value.int .u64 (IntKind.u64.wrap bits) = .int .u64 (((bits % 18446744073709551616).toNat / 2 ^ 0 : Nat) : Int) := by
 rw [IntKind.wrap_u64, Nat.pow_zero, Nat.div_one]
 congr 1
 omega
theorem half_u64 (bits : Int) (k U : Nat) (h : (bits % 18446744073709551616).toNat / 2 ^ k = U) : Value.int .u64 (IntKind.u64.wrap ((U : Int) / 2)) = .int .u64 (((bits % 18446744073709551616).toNat / 2 ^ (k + 1) : Nat) : Int) := by
 rw [Nat.pow_succ, ← Nat.div_div_eq_div_mul, h, IntKind.wrap_u64]
 have hle : U ≤ (bits % 18446744073709551616).toNat := by rw [← h]; exact Nat.div_le_self _ _
 congr 1
 omega

end Go.Proofs.Ytgaecpdokgklpab

/-
  What the document's Spoil makes of a disk.
  Condition: the disk lies in memory, of at most 256 blocks of at most 1000 bytes.
-/
namespace Go.Proofs.Ytgaecpdokgklpab
set_option maxRecDepth 100000
open Go.RowKit
open Go.Proofs.Ytgaecpdokgklpab.Plain Go.Proofs.Ytgaecpdokgklpab.Reg

theorem and_255 (y : Int) : bits .and .i64 y 255 = y % 256 := by
 have e1 : (BitVec.ofInt 64 y).toNat = (y % 18446744073709551616).toNat := by simp [BitVec.toNat_ofInt]
 have e2 : (BitVec.ofInt 64 255).toNat = 255 := by decide
 show IntKind.i64.wrap ((BitVec.ofInt 64 y &&& BitVec.ofInt 64 255).toNat : Int) = _
 rw [BitVec.toNat_and, e1, e2, Nat.and_two_pow_sub_one_eq_mod _ 8, IntKind.wrap_i64]
 omega
theorem xor_i64 (a b : Nat) (ha : a < 256) (hb : b < 256) : bits .xor .i64 (a : Int) (b : Int) = ((a ^^^ b : Nat) : Int) := by
 have hx : a ^^^ b < 2 ^ 8 := Nat.xor_lt_two_pow (by omega) (by omega)
 have e1 : (BitVec.ofInt 64 (a : Int)).toNat = a := by
  rw [BitVec.ofInt_natCast, BitVec.toNat_ofNat]; exact Nat.mod_eq_of_lt (by omega)
 have e2 : (BitVec.ofInt 64 (b : Int)).toNat = b := by
  rw [BitVec.ofInt_natCast, BitVec.toNat_ofNat]; exact Nat.mod_eq_of_lt (by omega)
 show IntKind.i64.wrap ((BitVec.ofInt 64 (a : Int) ^^^ BitVec.ofInt 64 (b : Int)).toNat : Int) = _
 rw [BitVec.toNat_xor, e1, e2, IntKind.wrap_i64]
 omega
/-- The document's way: block by block. -/
theorem Dk.spoil_map (d : Dk) (a n y : Int) : (d.spoil a n y).blocks = (List.range d.blocks.length).map fun (i : Nat) => if (i : Int) = a then turned (d.blocks.getD i []) n y else d.blocks.getD i [] := by
 unfold Dk.spoil
 refine List.ext_getElem (by split <;> simp) fun i h1 h2 => ?_
 have hi : i < d.blocks.length := by simpa using h2
 rw [List.getElem_map, List.getElem_range]
 by_cases ha : 0 ≤ a ∧ a < (d.blocks.length : Int)
 ·simp only [if_pos ha]
  by_cases e : (i : Int) = a
  ·subst e; simp
  ·rw [List.getElem_set_ne (by omega), if_neg e, getD_at _ _ _ hi]
 ·have e : ¬ (i : Int) = a := by omega
  simp only [if_neg ha, if_neg e]
  rw [getD_at _ _ _ hi]

def SpoilL (S : Nat → Prop) (d : Dk) (a n y : Int) (w : World) (c : Array Value) (lv : Value) (k : Nat) (wr : World) : Prop :=
 Grow w wr ∧ wr.heap[w.heap.size]? = some (.cells c 25 (0, 0)) ∧ wr.heap[w.heap.size + 1]? = some (.cells #[.slice none 0 0, .slice none 0 0] 25 (0, 0)) ∧
  OutB S (w.heap.size + 1 + 1 + 1) (w.heap.size + 1 + 1) lv ((List.range k).map fun (i : Nat) => if (i : Int) = a then turned (d.blocks.getD i []) n y else d.blocks.getD i []) wr
theorem SpoilL.grow {S : Nat → Prop} {d : Dk} {a n y : Int} {w : World} {c : Array Value} {lv : Value} {k : Nat} {wr w' : World} (h : SpoilL S d a n y w c lv k wr) (hg : Grow wr w') : SpoilL S d a n y w c lv k w' :=
 ⟨h.1.trans hg, (hg.block _ (heap_lt h.2.1)).trans h.2.1, (hg.block _ (heap_lt h.2.2.1)).trans h.2.2.1, h.2.2.2.grow hg⟩

theorem turned_map (l : List UInt8) (m : Nat) (y : Int) (hm : m < l.length) : (l.map bv).set m (.int .u8 ((l[m] ^^^ lo y).toNat : Int)) = (turned l (m : Int) y).map bv := by
 unfold turned
 rw [if_pos (by omega), show ((m : Int)).toNat = m from by omega, getD_at _ _ _ hm, List.map_set]; rfl
theorem turned_length (l : List UInt8) (n y : Int) : (turned l n y).length = l.length := by unfold turned; split <;> simp

theorem turn_byte2 (c : UInt8) (y : Int) : bits .xor .i64 (c.toNat : Int) (bits .and .i64 y 255) % 256 = ((c ^^^ lo y).toNat : Int) := by
 rw [and_255, ← lo_val y, xor_i64 _ _ (UInt8.toNat_lt _) (UInt8.toNat_lt _), UInt8.toNat_xor]
 have hx : c.toNat ^^^ (lo y).toNat < 2 ^ 8 := Nat.xor_lt_two_pow (UInt8.toNat_lt _) (UInt8.toNat_lt _)
 omega
theorem spoil_row {w : World} {base m : Nat} {v : Value} {lb lt : List UInt8} {x c : Int} (hL : lt.length = lb.length) (hM : (lb.map bv).set m (.int .u8 c) = lt.map bv) (hx : x = c) (h : w.ownsRow base 5 1 v lb.length ((lb.map bv).set m (.int .u8 x))) : w.ownsRow base 5 1 v lt.length (lt.map bv) := by
 rw [hL, ← hM, ← hx]; exact h
theorem row_some {w : World} {base n : Nat} {e : TypeId} {v : Value} {xs : List Value} (h : w.ownsRow base e 1 v n xs) (hn : 0 < n) : ∃ q cap, v = .slice (some ⟨q, 0, none⟩) n cap := by
 rcases h.2 with ⟨_, e⟩ | ⟨q, cap, cur, e, _⟩
 ·omega
 ·exact ⟨q, cap, e⟩

end Go.Proofs.Ytgaecpdokgklpab
