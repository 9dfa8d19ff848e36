/-
  What a pair tells, told of lists: mended, it tells the same, twice; one block is enough. No program.
-/
import Derived.Test.YtgaecpdokgklpabRMend
import Derived.Test.YtgaecpdokgklpabDkLaw
import Derived.Test.YtgaecpdokgklpabBlk
namespace Go.Proofs.Ytgaecpdokgklpab
set_option maxRecDepth 100000
open Go.Proofs.Ytgaecpdokgklpab.Plain

theorem wrong_free : wrong Rec.free = 0 := by decide
theorem side_wrong (d : Dk) (a : Int) : wrong (sideR d a) = 0 := by
 unfold sideR
 split
 ·next h => exact (blk_read _ _ h).1
 ·exact wrong_free
theorem tell_wrong (d : Dk) (p : Int) : wrong (d.tell p) = 0 := by
 unfold Dk.tell
 split
 ·exact wrong_free
 ·split
  ·exact wrong_free
  ·unfold firstR; split
   ·exact side_wrong _ _
   ·exact side_wrong _ _
/-- A block that is its record's. -/
theorem side_blk {d : Dk} {a : Int} {r : Rec} (h : d.get a = some (blk r a)) (hr : wrong r = 0) (h0 : 0 ≤ a) (h1 : a ≤ 255) : sideR d a = r ∧ badN d a = 0 := by
 have hb : sideB d a = blk r a := by unfold sideB; rw [h]; rfl
 obtain ⟨he, hR⟩ := read_blk r a hr h0 h1
 unfold badN sideR sideE
 rw [hb, if_pos he, if_pos he]; exact ⟨hR, rfl⟩
/-- A block that is none. -/
theorem side_bad {d : Dk} {a : Int} (h : sideE d a ≠ 0) : sideR d a = Rec.free ∧ badN d a = 1 := by
 unfold badN sideR
 rw [if_neg h, if_neg h]; exact ⟨rfl, rfl⟩
theorem someN_free {d : Dk} {a : Int} (h : (sideR d a).kind = 1) : someN d a = 0 := by unfold someN; rw [if_pos h]
theorem someN_rec {d : Dk} {a : Int} (h : (sideR d a).kind ≠ 1) : someN d a = 1 := by unfold someN; rw [if_neg h]

/-- Both blocks tell the same record. -/
theorem how_both {d : Dk} {p : Int} {r : Rec} (hn : d.noPair p = false) (h0 : sideR d (2 * p) = r) (h1 : sideR d (2 * p + 1) = r) (hr : r.kind ≠ 1) : d.how p = 1 ∧ d.tell p = r := by
 have s0 : someN d (2 * p) = 1 := someN_rec (by rw [h0]; exact hr)
 have s1 : someN d (2 * p + 1) = 1 := someN_rec (by rw [h1]; exact hr)
 have hs : sameB r r = true := by rw [sameB_iff]
 unfold Dk.how Dk.tell firstR
 rw [hn, s0, s1, h0, h1, if_neg hr]
 simp [hs]
/-- Both are free. -/
theorem how_free {d : Dk} {p : Int} (hn : d.noPair p = false) (h0 : (sideR d (2 * p)).kind = 1) (h1 : (sideR d (2 * p + 1)).kind = 1) (b0 : badN d (2 * p) = 0) (b1 : badN d (2 * p + 1) = 0) : d.how p = 0 ∧ d.tell p = Rec.free := by
 have s0 := someN_free h0
 have s1 := someN_free h1
 unfold Dk.how Dk.tell
 rw [hn, s0, s1, b0, b1]
 simp
/-- One tells a record, the other one is free, or none. -/
theorem how_one {d : Dk} {p : Int} {r : Rec} (hn : d.noPair p = false) (hr : r.kind ≠ 1) (h : sideR d (2 * p) = r ∧ (sideR d (2 * p + 1)).kind = 1 ∨ sideR d (2 * p + 1) = r ∧ (sideR d (2 * p)).kind = 1) : d.how p = 2 ∧ d.tell p = r := by
 rcases h with ⟨h0, h1⟩ | ⟨h0, h1⟩
 ·have s0 : someN d (2 * p) = 1 := someN_rec (by rw [h0]; exact hr)
  have s1 := someN_free h1
  unfold Dk.how Dk.tell firstR
  rw [hn, s0, s1, h0, if_neg hr]
  simp
 ·have s1 : someN d (2 * p + 1) = 1 := someN_rec (by rw [h0]; exact hr)
  have s0 := someN_free h1
  unfold Dk.how Dk.tell firstR
  rw [hn, s0, s1, h0, if_pos h1]
  simp

/-- A record written into a pair. -/
theorem pairW_get {d : Dk} {p : Int} {r : Rec} (h0 : 0 ≤ p) (h1 : 2 * p + 1 < (d.blocks.length : Int)) : (d.pairW p r).get (2 * p) = some (blk r (2 * p)) ∧ (d.pairW p r).get (2 * p + 1) = some (blk r (2 * p + 1)) := by
 have e : d.pairW p r = (d.put (2 * p) (blk r (2 * p))).put (2 * p + 1) (blk r (2 * p + 1)) := by simp [Dk.pairW, Dk.put]
 rw [e]
 refine ⟨?_, Dk.put_get _ _ _ (by omega) h1⟩
 rw [Dk.put_other _ _ _ _ (by omega)]
 exact Dk.put_get _ _ _ (by omega) (by omega)
theorem noPair_in {d : Dk} {p : Int} (h0 : 0 ≤ p) (h1 : 2 * p + 1 < (d.blocks.length : Int)) : d.noPair p = false := by
 unfold Dk.noPair; exact decide_eq_false (by omega)
theorem pairE_in {d : Dk} {p : Int} {r : Rec} (h0 : 0 ≤ p) (h1 : 2 * p + 1 < (d.blocks.length : Int)) : d.pairE p r = wrong r := by
 unfold Dk.pairE; rw [if_neg (by omega)]

/-- Mended, it tells the same, twice; mended again, it is as it is. -/
theorem mend_twice (d : Dk) (p : Int) (h0 : 0 ≤ p) (h1 : 2 * p + 1 < (d.blocks.length : Int)) (hlen : d.blocks.length ≤ 256) :
  (d.mendD p).how p = (if (d.tell p).kind = 1 then 0 else 1) ∧ (d.mendD p).tell p = d.tell p ∧ (d.mendD p).mendD p = d.mendD p := by
 have key : (d.mendD p).how p = (if (d.tell p).kind = 1 then 0 else 1) ∧ (d.mendD p).tell p = d.tell p := by
  have hn := noPair_in h0 h1
  by_cases h2 : 2 ≤ d.how p
  ·have hd : d.mendD p = d.pairW p (d.tell p) := by
    unfold Dk.mendD Dk.pairD
    rw [if_pos h2, pairE_in h0 h1, tell_wrong, if_pos rfl]
   rw [hd]
   obtain ⟨g0, g1⟩ := pairW_get (d := d) (r := d.tell p) h0 h1
   obtain ⟨r0, b0⟩ := side_blk g0 (tell_wrong d p) (by omega) (by omega)
   obtain ⟨r1, b1⟩ := side_blk g1 (tell_wrong d p) (by omega) (by omega)
   have hn' : (d.pairW p (d.tell p)).noPair p = false := noPair_in h0 h1
   by_cases hk : (d.tell p).kind = 1
   ·have hf : d.tell p = Rec.free := by
     by_cases hs : someN d (2 * p) + someN d (2 * p + 1) = 0
     ·unfold Dk.tell; rw [hn, if_neg (by decide), if_pos hs]
     ·exfalso
      have ht : d.tell p = firstR d p := by unfold Dk.tell; rw [hn, if_neg (by decide), if_neg hs]
      rw [ht] at hk
      unfold firstR at hk
      by_cases hk0 : (sideR d (2 * p)).kind = 1
      ·rw [if_pos hk0] at hk
       rw [someN_free hk0, someN_free hk] at hs; exact hs rfl
      ·rw [if_neg hk0] at hk; exact hk0 hk
    rw [if_pos hk]
    obtain ⟨a, b⟩ := how_free hn' (by rw [r0]; exact hk) (by rw [r1]; exact hk) b0 b1
    exact ⟨a, by rw [b, hf]⟩
   ·rw [if_neg hk]
    exact how_both hn' r0 r1 hk
  ·have hd : d.mendD p = d := by unfold Dk.mendD; rw [if_neg h2]
   rw [hd]
   refine ⟨?_, rfl⟩
   unfold Dk.how at h2 ⊢
   unfold Dk.tell
   rw [hn] at h2 ⊢
   simp only [Bool.false_eq_true, if_false] at h2 ⊢
   have e0 := someN_bd d (2 * p)
   have e1 := someN_bd d (2 * p + 1)
   by_cases hs : someN d (2 * p) + someN d (2 * p + 1) = 2
   ·rw [if_pos hs] at h2 ⊢
    have hk : (sideR d (2 * p)).kind ≠ 1 := fun h => by have := someN_free h; omega
    have hz : ¬ (someN d (2 * p) + someN d (2 * p + 1) = 0) := by omega
    rw [if_neg hz]
    by_cases hsm : sameB (sideR d (2 * p)) (sideR d (2 * p + 1)) = true
    ·unfold firstR; rw [if_pos hsm, if_neg hk, if_neg hk]
    ·rw [if_neg hsm] at h2; omega
   ·rw [if_neg hs] at h2 ⊢
    by_cases hs1 : someN d (2 * p) + someN d (2 * p + 1) = 1
    ·rw [if_pos hs1] at h2; omega
    ·rw [if_neg hs1] at h2 ⊢
     have hz : someN d (2 * p) + someN d (2 * p + 1) = 0 := by omega
     rw [if_pos hz, if_pos (show Rec.free.kind = 1 from rfl)]
     by_cases hb0 : badN d (2 * p) + badN d (2 * p + 1) = 0
     ·rw [if_pos hb0]
     ·rw [if_neg hb0] at h2; split at h2 <;> omega
 refine ⟨key.1, key.2, ?_⟩
 show (if 2 ≤ (d.mendD p).how p then _ else _) = _
 rw [if_neg (by rw [key.1]; split <;> omega)]

theorem blk_16 (r : Rec) (a : Int) (h : wrong r = 0) : (blk r a).length = 16 := blk_length r a (right_bd h).2.2.2.2.2.2
/-- A byte of a record's block turned: it is none. -/
theorem side_turned {d : Dk} {a : Int} {r : Rec} {n y : Int} (h : d.get a = some (turned (blk r a) n y)) (hr : wrong r = 0) (hn0 : 0 ≤ n) (hn1 : n < ((blk r a).length : Int)) (hy : y % 256 ≠ 0) : sideR d a = Rec.free ∧ badN d a = 1 := by
 refine side_bad ?_
 unfold sideE
 have hb : sideB d a = turned (blk r a) n y := by unfold sideB; rw [h]; rfl
 rw [hb]
 unfold turned
 rw [if_pos ⟨hn0, hn1⟩, getD_at _ _ _ (by omega)]
 rw [read_turned r a n.toNat _ hr (by omega) ?_]
 ·decide
 ·intro hE
  have h1 : lo y = 0 := by
   have h2 : (blk r a)[n.toNat] ^^^ ((blk r a)[n.toNat] ^^^ lo y) = (blk r a)[n.toNat] ^^^ (blk r a)[n.toNat] := by rw [← hE]
   rw [← UInt8.xor_assoc, UInt8.xor_self, UInt8.zero_xor] at h2
   exact h2
  have h3 := lo_val y
  rw [h1] at h3
  exact hy h3.symm

/-- One is enough: a byte of one of the two turned. -/
theorem pair_spoil (d : Dk) (p : Int) (r : Rec) (n y s : Int) (h0 : 0 ≤ p) (h1 : 2 * p + 1 < (d.blocks.length : Int)) (hlen : d.blocks.length ≤ 256) (hr : wrong r = 0) (hk : r.kind ≠ 1) (hn0 : 0 ≤ n) (hn1 : n < 16) (hy : y % 256 ≠ 0) (hs : s = 0 ∨ s = 1) :
  (((d.flush.pairD p r).flush.spoil (2 * p + s) n y).how p = 2) ∧ ((d.flush.pairD p r).flush.spoil (2 * p + s) n y).tell p = r := by
 have hfl := d.flush_length
 have hd : d.flush.pairD p r = d.flush.pairW p r := by unfold Dk.pairD; rw [pairE_in h0 (by omega), hr, if_pos rfl]
 rw [hd]
 have hpos : ∀ x ∈ (d.flush.pairW p r).late, 0 ≤ x.1 := by
  intro x hx
  have hx' : x ∈ ([(2 * p, blk r (2 * p)), (2 * p + 1, blk r (2 * p + 1))] : List Wr) := by simpa [Dk.pairW, Dk.flush] using hx
  rcases List.mem_cons.1 hx' with rfl | hx'
  ·show 0 ≤ 2 * p; omega
  ·rw [List.mem_singleton.1 hx']; show 0 ≤ 2 * p + 1; omega
 obtain ⟨g0, g1⟩ := pairW_get (d := d.flush) (r := r) h0 (by omega)
 rw [← Dk.flush_get _ hpos] at g0 g1
 have hL : (d.flush.pairW p r).flush.blocks.length = d.blocks.length := by rw [Dk.flush_length]; exact hfl
 have hW : (d.flush.pairW p r).flush.late = [] := rfl
 generalize (d.flush.pairW p r).flush = x at *
 have hx : ∀ a : Int, 0 ≤ a → a < (d.blocks.length : Int) → x.get a = some (x.blocks.getD a.toNat []) := by
  intro a ha hb
  unfold Dk.get
  rw [if_neg (by omega), hW]; rfl
 have hsp : x.spoil (2 * p + s) n y = ⟨x.blocks.set (2 * p + s).toNat (turned (x.blocks.getD (2 * p + s).toNat []) n y), x.late⟩ := by
  unfold Dk.spoil; rw [if_pos (by omega)]
 have hz : ∀ a : Int, 0 ≤ a → a < (d.blocks.length : Int) → (x.spoil (2 * p + s) n y).get a = some (if (2 * p + s).toNat = a.toNat then turned (x.blocks.getD (2 * p + s).toNat []) n y else x.blocks.getD a.toNat []) := by
  intro a ha hb
  rw [hsp]
  unfold Dk.get
  simp only [List.length_set, hW]
  rw [if_neg (by omega), getD_set _ _ _ _ _ (by omega)]; rfl
 have hnp : (x.spoil (2 * p + s) n y).noPair p = false := noPair_in h0 (by rw [hsp]; simp only [List.length_set]; omega)
 rw [hx _ (by omega) (by omega)] at g0 g1
 have g0' := Option.some.inj g0
 have g1' := Option.some.inj g1
 rcases hs with rfl | rfl
 ·have z0 := hz (2 * p) (by omega) (by omega)
  have z1 := hz (2 * p + 1) (by omega) (by omega)
  rw [if_pos (by omega), show 2 * p + 0 = 2 * p from by omega, g0'] at z0
  rw [if_neg (by omega), g1'] at z1
  rw [show 2 * p + 0 = 2 * p from by omega] at hnp z1 ⊢
  refine how_one hnp hk (.inr ⟨(side_blk z1 hr (by omega) (by omega)).1, ?_⟩)
  rw [(side_turned z0 hr hn0 (by rw [blk_16 _ _ hr]; exact hn1) hy).1]; rfl
 ·have z0 := hz (2 * p) (by omega) (by omega)
  have z1 := hz (2 * p + 1) (by omega) (by omega)
  rw [if_neg (by omega), g0'] at z0
  rw [if_pos rfl, g1'] at z1
  refine how_one hnp hk (.inl ⟨(side_blk z0 hr (by omega) (by omega)).1, ?_⟩)
  rw [(side_turned z1 hr hn0 (by rw [blk_16 _ _ hr]; exact hn1) hy).1]; rfl

theorem new_get (a : Int) (h0 : 0 ≤ a) (h1 : a < 12) : (Dk.new.blocks).getD a.toNat [] = blk Rec.free a := by
 unfold Dk.new
 rw [getD_at _ _ _ (by simp; omega), List.getElem_map, List.getElem_range, show ((a.toNat : Nat) : Int) = a from by omega]; rfl
/-- One is enough: one of the two writes alone has come to the disk. -/
theorem pair_half (p : Int) (r : Rec) (s : Int) (h0 : 0 ≤ p) (h1 : p < 6) (hr : wrong r = 0) (hk : r.kind ≠ 1) (hs : s = 0 ∨ s = 1) :
  (((Dk.new.pairD p r).keep (1 + s)).how p = 2) ∧ ((Dk.new.pairD p r).keep (1 + s)).tell p = r := by
 have h12 : Dk.new.blocks.length = 12 := by simp [Dk.new]
 have hd : Dk.new.pairD p r = Dk.new.pairW p r := by unfold Dk.pairD; rw [pairE_in h0 (by omega), hr, if_pos rfl]
 rw [hd]
 have hx : ∀ (bs : List (List UInt8)) (a : Int), 0 ≤ a → a < (bs.length : Int) → (Dk.mk bs []).get a = some (bs.getD a.toNat []) := by
  intro bs a ha hb
  unfold Dk.get
  rw [if_neg (by show ¬ _; simp only; omega)]; rfl
 have hT (b0 b1 : Bool) (e0 : bitOn (1 + s) 0 = b0) (e1 : bitOn (1 + s) 1 = b1) : (Dk.new.pairW p r).keep (1 + s) = ⟨if b1 = true then (if b0 = true then Dk.new.blocks.set (2 * p).toNat (blk r (2 * p)) else Dk.new.blocks).set (2 * p + 1).toNat (blk r (2 * p + 1)) else (if b0 = true then Dk.new.blocks.set (2 * p).toNat (blk r (2 * p)) else Dk.new.blocks), []⟩ := by
  subst e0 e1
  rfl
 have n0 := new_get (2 * p) (by omega) (by omega)
 have n1 := new_get (2 * p + 1) (by omega) (by omega)
 have wf := wrong_free
 rcases hs with rfl | rfl
 ·rw [hT true false (by decide) (by decide)]
  simp only [if_true, Bool.false_eq_true, if_false]
  have z0 := hx (Dk.new.blocks.set (2 * p).toNat (blk r (2 * p))) (2 * p) (by omega) (by rw [List.length_set]; omega)
  have z1 := hx (Dk.new.blocks.set (2 * p).toNat (blk r (2 * p))) (2 * p + 1) (by omega) (by rw [List.length_set]; omega)
  rw [getD_set _ _ _ _ _ (by omega), if_pos rfl] at z0
  rw [getD_set _ _ _ _ _ (by omega), if_neg (by omega), n1] at z1
  refine how_one (noPair_in h0 (by show _ < ((List.length (List.set _ _ _) : Nat) : Int); rw [List.length_set]; omega)) hk (.inl ⟨(side_blk z0 hr (by omega) (by omega)).1, ?_⟩)
  rw [(side_blk z1 wf (by omega) (by omega)).1]; rfl
 ·rw [hT false true (by decide) (by decide)]
  simp only [if_true, Bool.false_eq_true, if_false]
  have z0 := hx (Dk.new.blocks.set (2 * p + 1).toNat (blk r (2 * p + 1))) (2 * p) (by omega) (by rw [List.length_set]; omega)
  have z1 := hx (Dk.new.blocks.set (2 * p + 1).toNat (blk r (2 * p + 1))) (2 * p + 1) (by omega) (by rw [List.length_set]; omega)
  rw [getD_set _ _ _ _ _ (by omega), if_neg (by omega), n0] at z0
  rw [getD_set _ _ _ _ _ (by omega), if_pos rfl] at z1
  refine how_one (noPair_in h0 (by show _ < ((List.length (List.set _ _ _) : Nat) : Int); rw [List.length_set]; omega)) hk (.inr ⟨(side_blk z1 hr (by omega) (by omega)).1, ?_⟩)
  rw [(side_blk z0 wf (by omega) (by omega)).1]; rfl
end Go.Proofs.Ytgaecpdokgklpab
