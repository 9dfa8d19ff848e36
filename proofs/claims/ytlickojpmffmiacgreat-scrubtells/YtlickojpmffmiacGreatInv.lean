import Derived.Test.YtlickojpmffmiacGreatRPlay
set_option maxHeartbeats 8000000
namespace Go.Proofs.YtlickojpmffmiacGreat
set_option maxRecDepth 100000
open Plain
theorem fine_late {d : Dk} (h : d.Fine 0) : d.late = [] := List.eq_nil_of_length_eq_zero (by have := h.few; omega)
theorem side_now {d : Dk} (h : d.Fine 0) {a : Nat} (ha : a < 12) : sideB d (a : Int) = d.blocks.getD a [] := by
 unfold sideB Dk.get
 rw [if_neg (by have := h.len; omega), fine_late h]
 simp [lastW]
theorem look_same {d d' : Dk} (hl : d'.blocks.length = d.blocks.length) {p : Int} (h0 : sideB d' (2 * p) = sideB d (2 * p)) (h1 : sideB d' (2 * p + 1) = sideB d (2 * p + 1)) : d'.how p = d.how p ∧ d'.tell p = d.tell p := by
 unfold Dk.how Dk.tell firstR someN badN sideR sideE Dk.noPair
 rw [h0, h1, hl]; exact ⟨rfl, rfl⟩
theorem side_same {d d' : Dk} {a : Int} (h : sideB d' a = sideB d a) : sideR d' a = sideR d a ∧ badN d' a = badN d a := by
 unfold sideR badN sideE
 rw [h]; exact ⟨rfl, rfl⟩
theorem noPair_six {d : Dk} (h : d.blocks.length = 12) {p : Nat} (hp : p < 6) : d.noPair (p : Int) = false := noPair_in (by omega) (by rw [h]; omega)
/-! ### Free, both, one, or empty -/
def Three (d : Dk) (p : Nat) : Prop :=
 (∃ r : Rec, r.kind ≠ 1 ∧ sideR d (2 * (p : Int)) = r ∧ sideR d (2 * (p : Int) + 1) = r) ∨
 (∃ r : Rec, r.kind ≠ 1 ∧ (sideR d (2 * (p : Int)) = r ∧ (sideR d (2 * (p : Int) + 1)).kind = 1 ∨ sideR d (2 * (p : Int) + 1) = r ∧ (sideR d (2 * (p : Int))).kind = 1)) ∨
 ((sideR d (2 * (p : Int))).kind = 1 ∧ (sideR d (2 * (p : Int) + 1)).kind = 1 ∧ badN d (2 * (p : Int)) + badN d (2 * (p : Int) + 1) ≤ 1)
/-! ### Some of the two writes of a pair -/
def Dk.half (d : Dk) (p : Nat) (r : Rec) (x y : Bool) : Dk :=
 ⟨if y = true then (if x = true then d.blocks.set (2 * p) (blk r (2 * (p : Int))) else d.blocks).set (2 * p + 1) (blk r (2 * (p : Int) + 1)) else (if x = true then d.blocks.set (2 * p) (blk r (2 * (p : Int))) else d.blocks), []⟩
theorem pairD_in {d : Dk} (h : d.Fine 0) {p : Nat} (hp : p < 6) {r : Rec} (hr : wrong r = 0) : d.pairD (p : Int) r = ⟨d.blocks, [(2 * (p : Int), blk r (2 * (p : Int))), (2 * (p : Int) + 1, blk r (2 * (p : Int) + 1))]⟩ := by
 have he : d.pairE (p : Int) r = 0 := by rw [pairE_in (by omega) (by rw [h.len]; omega), hr]
 unfold Dk.pairD
 rw [if_pos he]
 unfold Dk.pairW
 rw [fine_late h]; rfl
theorem pair_keptTo {d : Dk} (h : d.Fine 0) {p : Nat} (hp : p < 6) {r : Rec} (hr : wrong r = 0) (on : Nat → Bool) : (⟨(d.pairD (p : Int) r).keepTo on (d.pairD (p : Int) r).late.length, []⟩ : Dk) = d.half p r (on 0) (on 1) := by
 rw [pairD_in h hp hr]
 have e0 : (2 * (p : Int)).toNat = 2 * p := by omega
 have e1 : (2 * (p : Int) + 1).toNat = 2 * p + 1 := by omega
 simp only [Dk.half, Dk.keepTo, List.length_cons, List.length_nil, List.getD_cons_zero, List.getD_cons_succ, e0, e1]
theorem pair_flushed {d : Dk} (h : d.Fine 0) {p : Nat} (hp : p < 6) {r : Rec} (hr : wrong r = 0) : (d.pairD (p : Int) r).flush = d.half p r true true := pair_keptTo h hp hr _
theorem half_fine {d : Dk} (h : d.Fine 0) {p : Nat} (_hp : p < 6) {r : Rec} (hr : wrong r = 0) (x y : Bool) : (d.half p r x y).Fine 0 := by
 have hl := h.len
 refine ⟨?_, Nat.le_refl _, ?_, (fun x hx => by cases hx), (fun x hx => by cases hx)⟩
 ·unfold Dk.half
  cases x <;> cases y <;> simp [hl]
 ·have key : ∀ (l : List (List UInt8)) (i : Nat) (a : Int), (∀ z ∈ l, z.length = 16) → ∀ z ∈ l.set i (blk r a), z.length = 16 := fun l i a hh z hz => by
   rcases List.mem_or_eq_of_mem_set hz with h1 | h1
   ·exact hh z h1
   ·rw [h1]; exact blk_16 r a hr
  unfold Dk.half
  cases x <;> cases y
  ·exact h.block
  ·exact key _ _ _ h.block
  ·exact key _ _ _ h.block
  ·exact key _ _ _ (key _ _ _ h.block)
theorem half_side {d : Dk} (h : d.Fine 0) {p : Nat} (hp : p < 6) {r : Rec} (hr : wrong r = 0) (x y : Bool) (a : Nat) (ha : a < 12) :
  sideB (d.half p r x y) (a : Int) = if a = 2 * p + 1 ∧ y = true then blk r (2 * (p : Int) + 1) else if a = 2 * p ∧ x = true then blk r (2 * (p : Int)) else sideB d (a : Int) := by
 have hl := h.len
 rw [side_now (half_fine h hp hr x y) ha, side_now h ha]
 unfold Dk.half
 cases x <;> cases y <;> simp only [Bool.false_eq_true, if_false, if_true, and_false, and_true]
 ·rw [getD_set _ _ _ _ _ (by omega)]
  by_cases e : 2 * p + 1 = a
  ·rw [if_pos e, if_pos e.symm]
  ·rw [if_neg e, if_neg (fun h => e h.symm)]
 ·rw [getD_set _ _ _ _ _ (by omega)]
  by_cases e : 2 * p = a
  ·rw [if_pos e, if_pos e.symm]
  ·rw [if_neg e, if_neg (fun h => e h.symm)]
 ·rw [getD_set _ _ _ _ _ (by rw [List.length_set]; omega), getD_set _ _ _ _ _ (by omega)]
  by_cases e : 2 * p + 1 = a
  ·rw [if_pos e, if_pos e.symm]
  ·have e' : ¬ a = 2 * p + 1 := fun h => e h.symm
   rw [if_neg e, if_neg e']
   by_cases e2 : 2 * p = a
   ·rw [if_pos e2, if_pos e2.symm]
   ·have e2' : ¬ a = 2 * p := fun h => e2 h.symm
    rw [if_neg e2, if_neg e2']
theorem half_other {d : Dk} (h : d.Fine 0) {p q : Nat} (hp : p < 6) (hq : q < 6) (hne : q ≠ p) {r : Rec} (hr : wrong r = 0) (x y : Bool) : (d.half p r x y).how (q : Int) = d.how (q : Int) ∧ (d.half p r x y).tell (q : Int) = d.tell (q : Int) := by
 have h0 := half_side h hp hr x y (2 * q) (by omega)
 have h1 := half_side h hp hr x y (2 * q + 1) (by omega)
 rw [if_neg (by omega), if_neg (by omega)] at h0 h1
 exact look_same ((half_fine h hp hr x y).len.trans h.len.symm) (by simpa using h0) (by simpa using h1)
/-- The two sides, behind some of the writes. -/
theorem half_sides {d : Dk} (h : d.Fine 0) {p : Nat} (hp : p < 6) {r : Rec} (hr : wrong r = 0) (x y : Bool) :
  ((x = true → sideR (d.half p r x y) (2 * (p : Int)) = r ∧ badN (d.half p r x y) (2 * (p : Int)) = 0) ∧ (x = false → sideR (d.half p r x y) (2 * (p : Int)) = sideR d (2 * (p : Int)) ∧ badN (d.half p r x y) (2 * (p : Int)) = badN d (2 * (p : Int)))) ∧
  ((y = true → sideR (d.half p r x y) (2 * (p : Int) + 1) = r ∧ badN (d.half p r x y) (2 * (p : Int) + 1) = 0) ∧ (y = false → sideR (d.half p r x y) (2 * (p : Int) + 1) = sideR d (2 * (p : Int) + 1) ∧ badN (d.half p r x y) (2 * (p : Int) + 1) = badN d (2 * (p : Int) + 1))) := by
 have h0 := half_side h hp hr x y (2 * p) (by omega)
 have h1 := half_side h hp hr x y (2 * p + 1) (by omega)
 rw [if_neg (by omega)] at h0
 have c0 : ((2 * p : Nat) : Int) = 2 * (p : Int) := by omega
 have c1 : ((2 * p + 1 : Nat) : Int) = 2 * (p : Int) + 1 := by omega
 rw [c0] at h0
 rw [c1] at h1
 have key : ∀ a : Int, 0 ≤ a → a ≤ 255 → sideB (d.half p r x y) a = blk r a → sideR (d.half p r x y) a = r ∧ badN (d.half p r x y) a = 0 := fun a ha ha' hb => by
  obtain ⟨he, hR⟩ := read_blk r a hr ha ha'
  unfold badN sideR sideE
  rw [hb, if_pos he, if_pos he]; exact ⟨hR, rfl⟩
 refine ⟨⟨fun e => ?_, fun e => ?_⟩, fun e => ?_, fun e => ?_⟩
 ·rw [if_pos ⟨rfl, e⟩] at h0; exact key _ (by omega) (by omega) h0
 ·rw [if_neg (by simp [e])] at h0; exact side_same h0
 ·rw [if_pos ⟨rfl, e⟩] at h1; exact key _ (by omega) (by omega) h1
 ·rw [if_neg (by simp [e]), if_neg (by omega)] at h1; exact side_same h1
/-! ### What gentle steps keep -/
/-! ### A byte that is turned -/
end Go.Proofs.YtlickojpmffmiacGreat
namespace Go.Proofs.YtlickojpmffmiacGreat
set_option maxRecDepth 100000
open Go.RowKit
open Plain Reg
theorem at_six {s : St} (h : s.At) : s.idx.length ≤ 6 := by
 obtain ⟨h1, h2⟩ := (rightI_iff _).1 h.ok.right
 have hn : (s.idx.map fun x => x.pair.toNat).Nodup := by
  rw [List.nodup_iff_pairwise_ne, List.pairwise_map]
  refine List.Pairwise.imp_of_mem ?_ h1
  intro a b ha hb hu e
  have ha0 := (h2 a ha).2.2.1
  have hb0 := (h2 b hb).2.2.1
  exact hu.2 (by omega)
 have := sub_len _ (List.range 6) hn (fun x hx => by
  obtain ⟨e, he, rfl⟩ := List.mem_map.1 hx
  have := h.ok.six e he
  rw [List.mem_range]
  have := (h2 e he).2.2.1
  omega)
 simpa using this
theorem StoreS.any {S : Nat → Prop} {s : St} {v : Value} {w : World} (h : StoreS S s v w) : StoreS (fun _ => True) s v w := h.mono fun _ _ => trivial
theorem StoreS.now {s : St} {v : Value} {w : World} (h : StoreS (fun _ => True) s v w) : StoreS (fun b => b < w.heap.size) s v w := h.capd.mono fun _ h => h.2
end Go.Proofs.YtlickojpmffmiacGreat
namespace Go.Proofs.YtlickojpmffmiacGreat
set_option maxRecDepth 100000
open Plain
/-- So many looks, and how the pairs were. -/
def scrubN : Nat → St → St
 | 0, s => s
 | k + 1, s => (scrubN k s).scrub
def wasN (s : St) : Nat → Int → Int
 | 0, _ => 0
 | k + 1, i => wasN s k i + (if (scrubN k s).dk.how (scrubN k s).next = i then 1 else 0)
theorem wasN_bd (s : St) : ∀ (k : Nat) (i : Int), 0 ≤ wasN s k i ∧ wasN s k i ≤ (k : Int)
 | 0, _ => by simp [wasN]
 | k + 1, i => by
  have := wasN_bd s k i
  unfold wasN
  split <;> omega
theorem scrub_at {s : St} (h : s.At) : s.scrub.At := ⟨scrub_ok h.ok.disk, by show (0 : Int) ≤ (s.next + 1) % 6; omega, by show (s.next + 1) % 6 < 6; omega⟩
theorem scrubN_at {s : St} (h : s.At) : ∀ k, (scrubN k s).At
 | 0 => h
 | k + 1 => scrub_at (scrubN_at h k)
theorem scrubN_next {s : St} (h : s.At) : ∀ k : Nat, (scrubN k s).next = (s.next + (k : Int)) % 6
 | 0 => by have := h.low; have := h.high; show s.next = _; omega
 | k + 1 => by
  have := scrubN_next h k
  show ((scrubN k s).next + 1) % 6 = _
  rw [this]; omega
theorem flush_nil {d : Dk} (h : d.Fine 0) : d.flush = d := by
 have hl := fine_late h
 obtain ⟨b, l⟩ := d
 simp only at hl
 subst hl
 rfl
theorem wrong_one {r : Rec} (h : wrong r = 0) (hk : r.kind = 1) : r = Rec.free := by
 obtain ⟨-, -, h3, h4⟩ := (wrong_zero r).1 h
 obtain ⟨k, y, n, l⟩ := r
 simp only at hk
 subst hk
 unfold inRangeB at h3
 unfold maxData at h4
 simp at h3 h4
 obtain ⟨rfl, rfl⟩ := h3
 subst h4
 rfl
/-- One pair that is mended, and what has come to the disk then: it tells what it told, twice, or is free; others are as they were. -/
structure Mended (d e : Dk) (p : Nat) : Prop where
 fine : e.Fine 0
 low : e.how (p : Int) < 2
 tell : ∀ q : Nat, q < 6 → e.tell (q : Int) = d.tell (q : Int)
 other : ∀ q : Nat, q < 6 → q ≠ p → e.how (q : Int) = d.how (q : Int)
 same : d.how (p : Int) < 2 → e = d
theorem mended {d : Dk} (h : d.Fine 0) {p : Nat} (hp : p < 6) : Mended d (d.mendD (p : Int)).flush p := by
 have hfi := (h.mend (p : Int)).flush
 revert hfi
 unfold Dk.mendD
 by_cases h2 : 2 ≤ d.how (p : Int)
 ·rw [if_pos h2]
  have hw := tell_wrong d (p : Int)
  rw [pair_flushed h hp hw]
  intro hfi
  have hn := noPair_six hfi.len hp
  obtain ⟨⟨a0, -⟩, b0, -⟩ := half_sides h hp hw true true
  have key : (d.half p (d.tell (p : Int)) true true).how (p : Int) < 2 ∧ (d.half p (d.tell (p : Int)) true true).tell (p : Int) = d.tell (p : Int) := by
   by_cases hk : (d.tell (p : Int)).kind = 1
   ·obtain ⟨k1, k2⟩ := how_free hn (by rw [(a0 rfl).1]; exact hk) (by rw [(b0 rfl).1]; exact hk) (a0 rfl).2 (b0 rfl).2
    exact ⟨by omega, by rw [k2, wrong_one hw hk]⟩
   ·obtain ⟨k1, k2⟩ := how_both hn (a0 rfl).1 (b0 rfl).1 hk
    exact ⟨by omega, k2⟩
  refine ⟨hfi, key.1, fun q hq => ?_, fun q hq hne => (half_other h hp hq hne hw true true).1, fun h3 => by omega⟩
  by_cases e : q = p
  ·subst e; exact key.2
  ·exact (half_other h hp hq e hw true true).2
 ·rw [if_neg h2, flush_nil h]
  exact fun _ => ⟨h, by omega, fun _ _ => rfl, fun _ _ _ => rfl, fun _ => rfl⟩
/-- The pair that is looked at. -/
theorem next_nat {s : St} (h : s.At) : ∃ p : Nat, p < 6 ∧ s.next = (p : Int) := ⟨s.next.toNat, by have := h.low; have := h.high; omega, by have := h.low; omega⟩
theorem scrub_mended {s : St} (h : s.At) : ∃ p : Nat, p < 6 ∧ s.next = (p : Int) ∧ Mended s.dk s.scrub.dk p := by
 obtain ⟨p, hp, e⟩ := next_nat h
 refine ⟨p, hp, e, ?_⟩
 have := mended h.ok.disk hp
 unfold St.scrub
 rw [e]
 exact this
theorem scrub_low {s : St} (h : s.At) {q : Nat} (hq : q < 6) (hl : s.dk.how (q : Int) < 2) : s.scrub.dk.how (q : Int) < 2 := by
 obtain ⟨p, hp, -, hM⟩ := scrub_mended h
 by_cases e : q = p
 ·subst e; exact hM.low
 ·rw [hM.other q hq e]; exact hl
theorem scrubN_low {s : St} (h : s.At) (q : Nat) (hq : q < 6) : ∀ k j : Nat, j < k → (s.next + (j : Int)) % 6 = (q : Int) → (scrubN k s).dk.how (q : Int) < 2
 | 0, j, hj, _ => by omega
 | k + 1, j, hj, e => by
  by_cases hjk : j = k
  ·subst hjk
   obtain ⟨p, hp, he, hM⟩ := scrub_mended (scrubN_at h j)
   rw [scrubN_next h] at he
   have : q = p := by omega
   subst this
   exact hM.low
  ·exact scrub_low (scrubN_at h k) hq (scrubN_low h q hq k j (by omega) e)
/-- Behind six looks each pair is free, or both tell the same. -/
theorem six_low {s : St} (h : s.At) (q : Nat) (hq : q < 6) : (scrubN 6 s).dk.how (q : Int) < 2 := by
 have h0 := h.low
 have h1 := h.high
 exact scrubN_low h q hq 6 (((q : Int) + 6 - s.next) % 6).toNat (by omega) (by omega)
theorem scrubN_scan (s : St) (k : Nat) : (scrubN (k + 1) s).idx = scanE (scrubN (k + 1) s).dk 6 := rfl
/-- Where nothing is to be mended all stays. -/
theorem scrub_same {s : St} (h : s.At) (hi : s.idx = scanE s.dk 6) (hl : ∀ q : Nat, q < 6 → s.dk.how (q : Int) < 2) : s.scrub = ⟨s.dk, s.idx, (s.next + 1) % 6⟩ := by
 obtain ⟨p, hp, e, hM⟩ := scrub_mended h
 have hd : (s.dk.mendD s.next).flush = s.dk := hM.same (hl p hp)
 unfold St.scrub
 rw [hd, ← hi]
theorem scrubN_same {s : St} (h : s.At) (hi : s.idx = scanE s.dk 6) (hl : ∀ q : Nat, q < 6 → s.dk.how (q : Int) < 2) : ∀ k : Nat, scrubN k s = ⟨s.dk, s.idx, (s.next + (k : Int)) % 6⟩ ∧ wasN s k 0 + wasN s k 1 = (k : Int)
 | 0 => by
  refine ⟨?_, rfl⟩
  have := h.low
  have := h.high
  show s = _
  rw [show (s.next + ((0 : Nat) : Int)) % 6 = s.next by omega]
 | k + 1 => by
  obtain ⟨h1, h2⟩ := scrubN_same h hi hl k
  have hA := scrubN_at h k
  have hs := scrub_same hA (by rw [h1]; exact hi) (by rw [h1]; exact hl)
  refine ⟨?_, ?_⟩
  ·show (scrubN k s).scrub = _
   rw [hs, h1]
   simp only [St.mk.injEq, true_and]
   omega
  ·obtain ⟨p, hp, e⟩ := next_nat hA
   have hb := hl p hp
   have h0 := (how_bd s.dk (p : Int)).1
   have hk : (scrubN k s).dk.how (scrubN k s).next = s.dk.how (p : Int) := by rw [e, h1]
   unfold wasN
   rw [hk]
   by_cases e0 : s.dk.how (p : Int) = 0
   ·rw [if_pos e0, if_neg (by omega)]; omega
   ·rw [if_neg e0, if_pos (by omega)]; omega
/-- Once is enough. -/
theorem six_twice {s : St} (h : s.At) : scrubN 6 (scrubN 6 s) = scrubN 6 s ∧ wasN (scrubN 6 s) 6 0 + wasN (scrubN 6 s) 6 1 = 6 := by
 have hA := scrubN_at h 6
 obtain ⟨h1, h2⟩ := scrubN_same hA (scrubN_scan s 5) (fun q hq => six_low h q hq) 6
 refine ⟨?_, h2⟩
 rw [h1]
 have := hA.low
 have := hA.high
 generalize scrubN 6 s = x at *
 obtain ⟨d, l, n⟩ := x
 simp only [St.mk.injEq, true_and]
 simp only at *
 omega
end Go.Proofs.YtlickojpmffmiacGreat
namespace Go.Proofs.YtlickojpmffmiacGreat
set_option maxRecDepth 100000
open Go.RowKit
open Plain Reg
def ScOneC : Prop := ∀ (S : Nat → Prop) (s : St) (v : Value) (w : World), (∀ b, S b → b < w.heap.size) → StoreS S s v w → s.At →
 Calls Tryz.prog 6 #[v] w fun r w' => ∃ v', r = .returned (.tuple #[v', .int .i64 (s.dk.how s.next)]) ∧ StoreS (Upon S w.heap.size) s.scrub v' w' ∧ Grow w w'
def ScAllC : Prop := ∀ (S : Nat → Prop) (s : St) (v : Value) (w : World), (∀ b, S b → b < w.heap.size) → StoreS S s v w → s.At →
 Calls Tryz.prog 11 #[v] w fun r w' => ∃ v', r = .returned (.tuple #[v', .agg (repA (wasN s 6))]) ∧ StoreS (Upon S w.heap.size) (scrubN 6 s) v' w' ∧ Grow w w'
def ScLookC : Prop := ∀ (d : Dk) (v : Value) (w : World), DiskP d v w → d.Fine 0 →
 Calls Tryz.prog 9 #[v] w fun r w' => r = .returned (.agg (repA (cnt d 6))) ∧ Grow w w'
/-- A closed fact, asked first. -/
def ScAliveC : Prop := ∀ w : World, Calls Tryz.prog 12 #[] w fun r w' => r = .returned (.bool true) ∧ Grow w w'
theorem at_same9 {s : St} (h : s.At) : s.dk.blocks.length ≤ 1000000 ∧ s.dk.late.length ≤ 1000000 ∧ s.idx.length ≤ 1000000 := ⟨by rw [h.ok.disk.len]; omega, by have := h.ok.disk.few; omega, by have := at_six h; omega⟩
end Go.Proofs.YtlickojpmffmiacGreat
