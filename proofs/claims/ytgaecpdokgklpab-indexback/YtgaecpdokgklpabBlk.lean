/-
  Blocks there, and back: what a block's bytes tell is its record, and bytes that tell a record are its block. No program.
  No condition beyond the premises that each theorem writes out.
-/
import Derived.Test.YtgaecpdokgklpabBRead
namespace Go.Proofs.Ytgaecpdokgklpab
set_option maxRecDepth 100000
open Go.RowKit
open Go.Proofs.Ytgaecpdokgklpab.Plain Go.Proofs.Ytgaecpdokgklpab.Reg

theorem lo_nat (c : UInt8) : lo (c.toNat : Int) = c := by
 refine UInt8.toNat_inj.1 ?_
 have := lo_val (c.toNat : Int)
 have hc : c.toNat < 256 := UInt8.toNat_lt _
 omega
theorem lo_toNat (n : Int) (h0 : 0 ≤ n) (h1 : n ≤ 255) : ((lo n).toNat : Int) = n := by rw [lo_val]; omega
theorem two_hi (x y : UInt8) : hi ((x.toNat : Int) * 256 + (y.toNat : Int)) = x := by
 have hx : x.toNat < 256 := UInt8.toNat_lt _
 have hy : y.toNat < 256 := UInt8.toNat_lt _
 exact ((two_eq x y _ (by omega) (by omega)).1 rfl).1
theorem two_lo (x y : UInt8) : lo ((x.toNat : Int) * 256 + (y.toNat : Int)) = y := by
 have hx : x.toNat < 256 := UInt8.toNat_lt _
 have hy : y.toNat < 256 := UInt8.toNat_lt _
 exact ((two_eq x y _ (by omega) (by omega)).1 rfl).2

theorem blk_at0 (r : Rec) (a : Int) : at' (blk r a) 0 = lo r.kind := rfl
theorem blk_at1 (r : Rec) (a : Int) : at' (blk r a) 1 = lo a := rfl
theorem blk_at2 (r : Rec) (a : Int) : at' (blk r a) 2 = lo r.key := rfl
theorem blk_at3 (r : Rec) (a : Int) : at' (blk r a) 3 = hi r.ver := rfl
theorem blk_at4 (r : Rec) (a : Int) : at' (blk r a) 4 = lo r.ver := rfl
theorem blk_at5 (r : Rec) (a : Int) : at' (blk r a) 5 = lo (r.data.length : Int) := rfl
theorem blk_drop (r : Rec) (a : Int) : (blk r a).drop 6 = r.data ++ (List.replicate (8 - r.data.length) 0 ++ [hi (sumOf (body r a)), lo (sumOf (body r a))]) := by
 show (r.data ++ List.replicate (8 - r.data.length) 0) ++ _ = _
 rw [List.append_assoc]

theorem rec_blk (r : Rec) (a : Int) (h : wrong r = 0) : recOf (blk r a) = r := by
 obtain ⟨k0, k1, y0, y1, n0, n1, hl⟩ := right_bd h
 unfold recOf
 rw [blk_at0, blk_at2, blk_at3, blk_at4, blk_at5, blk_drop]
 have e1 := lo_toNat r.kind (by omega) (by omega)
 have e2 := lo_toNat r.key (by omega) (by omega)
 have e3 := lo_toNat (r.data.length : Int) (by omega) (by omega)
 have e4 : ((hi r.ver).toNat : Int) * 256 + ((lo r.ver).toNat : Int) = r.ver := by rw [hi_val, lo_val]; omega
 have e5 : (lo (r.data.length : Int)).toNat = r.data.length := by omega
 rw [e1, e2, e4, e5, List.take_left' rfl]

theorem rest_blk (r : Rec) (a : Int) (h : wrong r = 0) : noughtsB (restOf (blk r a)) = true := by
 obtain ⟨k0, k1, y0, y1, n0, n1, hl⟩ := right_bd h
 have e3 := lo_toNat (r.data.length : Int) (by omega) (by omega)
 have e5 : (lo (r.data.length : Int)).toNat = r.data.length := by omega
 unfold restOf
 rw [blk_at5, e5, ← List.drop_drop, blk_drop, List.drop_left' rfl, List.take_left' (by simp)]
 unfold noughtsB
 rw [List.all_eq_true]
 intro c hc
 simp [List.eq_of_mem_replicate hc]

theorem spoilt_blk (r : Rec) (a : Int) (h : wrong r = 0) (h0 : 0 ≤ a) (h1 : a ≤ 255) : spoilt (blk r a) a = 0 := by
 obtain ⟨k0, k1, y0, y1, n0, n1, hl⟩ := right_bd h
 have e1 := lo_toNat a h0 h1
 have e3 := lo_toNat (r.data.length : Int) (by omega) (by omega)
 unfold spoilt
 rw [if_neg (by rw [blk_length r a hl]; simp), if_neg (by unfold blk; rw [sealedB_sealed]; simp), if_neg (by rw [blk_at1, e1]; simp), if_neg (by rw [blk_at5]; omega), if_neg (by rw [rest_blk r a h]; simp)]

/-- THERE, AND BACK. -/
theorem read_blk (r : Rec) (a : Int) (h : wrong r = 0) (h0 : 0 ≤ a) (h1 : a ≤ 255) : readE (blk r a) a = 0 ∧ readR (blk r a) a = r := by
 have e : readE (blk r a) a = 0 := by unfold readE; rw [if_pos (spoilt_blk r a h h0 h1), rec_blk r a h]; exact h
 refine ⟨e, ?_⟩
 unfold readR
 rw [if_pos e, rec_blk r a h]
/-- At no other place. -/
theorem read_other (r : Rec) (a o : Int) (h : wrong r = 0) (h0 : 0 ≤ a) (h1 : a ≤ 255) (ho : o ≠ a) : readE (blk r a) o = 8 := by
 obtain ⟨k0, k1, y0, y1, n0, n1, hl⟩ := right_bd h
 have e1 := lo_toNat a h0 h1
 have e : spoilt (blk r a) o = 8 := by
  unfold spoilt
  rw [if_neg (by rw [blk_length r a hl]; simp), if_neg (by unfold blk; rw [sealedB_sealed]; simp), if_pos (by rw [blk_at1, e1]; exact fun e => ho e.symm)]
 unfold readE
 rw [e]; rfl

theorem readE_zero {b : List UInt8} {a : Int} (h : readE b a = 0) : spoilt b a = 0 ∧ wrong (recOf b) = 0 ∧ readR b a = recOf b := by
 have hr : readR b a = recOf b := by unfold readR; rw [if_pos h]
 unfold readE at h
 by_cases hs : spoilt b a = 0
 ·rw [if_pos hs] at h; exact ⟨hs, h, hr⟩
 ·rw [if_neg hs] at h; exact absurd h hs

theorem take14 (b : List UInt8) (a : Int) (hs : spoilt b a = 0) : b.take 14 = body (recOf b) a := by
 obtain ⟨hl, hsl, hp, h8, hn⟩ := spoilt_zero hs
 have hlen : ((b.drop 6).take (at' b 5).toNat).length = (at' b 5).toNat := by simp; omega
 have hz : restOf b = List.replicate (8 - (at' b 5).toNat) 0 := by
  refine List.eq_replicate_iff.2 ⟨by unfold restOf; simp; omega, fun c hc => ?_⟩
  unfold noughtsB at hn
  have := (List.all_eq_true.1 hn) c hc
  simpa using this
 unfold body recOf
 simp only []
 rw [hlen, lo_nat, lo_nat, two_hi, two_lo, lo_nat, ← hp, lo_nat, ← hz]
 have e : b.take 14 = [at' b 0, at' b 1, at' b 2, at' b 3, at' b 4, at' b 5] ++ (b.drop 6).take 8 := by
  match b, hl with
  | [x0, x1, x2, x3, x4, x5, x6, x7, x8, x9, x10, x11, x12, x13, x14, x15], _ => rfl
 rw [e]
 congr 1
 unfold restOf
 rw [← List.drop_drop, ← List.take_add]
 congr 1
 omega

/-- A block that is read is its record's. -/
theorem blk_read (b : List UInt8) (a : Int) (h : readE b a = 0) : wrong (readR b a) = 0 ∧ blk (readR b a) a = b := by
 obtain ⟨hs, hw, hr⟩ := readE_zero h
 obtain ⟨hl, hsl, -, -, -⟩ := spoilt_zero hs
 rw [hr]
 refine ⟨hw, ?_⟩
 unfold blk
 rw [← take14 b a hs]
 have := sealedB_eq b (by omega)
 rw [hsl, hl] at this
 exact beq_iff_eq.1 this

/-- ONE BYTE TURNED IS FOUND. -/
theorem read_turned (r : Rec) (a : Int) (n : Nat) (c : UInt8) (h : wrong r = 0) (hn : n < (blk r a).length) (hne : (blk r a)[n] ≠ c) : readE ((blk r a).set n c) a = 7 := by
 obtain ⟨k0, k1, y0, y1, n0, n1, hl⟩ := right_bd h
 have e : spoilt ((blk r a).set n c) a = 7 := by
  have hse : sealedB ((blk r a).set n c) = false := sealedB_set (body r a) n c hn hne
  unfold spoilt
  rw [if_neg (by rw [List.length_set, blk_length r a hl]; simp), if_pos hse]
 unfold readE
 rw [e]; rfl
end Go.Proofs.Ytgaecpdokgklpab
