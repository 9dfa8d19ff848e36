/-
  Blocks there, and back: what a block's bytes tell is its record, and bytes that tell a record are its block. No program.
  No condition beyond the premises that each theorem writes out.
-/
import Derived.Test.YtppgbgfahifanaaBRead
namespace Go.Proofs.Ytppgbgfahifanaa
set_option maxRecDepth 100000
open Go.RowKit
open Go.Proofs.Ytppgbgfahifanaa.Plain Go.Proofs.Ytppgbgfahifanaa.Reg

theorem lo_nat (c : UInt8) : lo (c.toNat : Int) = c := by
  refine UInt8.toNat_inj.1 ?_
  have := lo_val (c.toNat : Int)
  have hc : c.toNat < 256 := UInt8.toNat_lt _
  omega
theorem two_hi (x y : UInt8) : hi ((x.toNat : Int) * 256 + (y.toNat : Int)) = x := by
  have hx : x.toNat < 256 := UInt8.toNat_lt _
  have hy : y.toNat < 256 := UInt8.toNat_lt _
  exact ((two_eq x y _ (by omega) (by omega)).1 rfl).1
theorem two_lo (x y : UInt8) : lo ((x.toNat : Int) * 256 + (y.toNat : Int)) = y := by
  have hx : x.toNat < 256 := UInt8.toNat_lt _
  have hy : y.toNat < 256 := UInt8.toNat_lt _
  exact ((two_eq x y _ (by omega) (by omega)).1 rfl).2

theorem readE_zero {b : List UInt8} {a : Int} (h : readE b a = 0) : spoilt b a = 0 ∧ wrong (recOf b) = 0 ∧ readR b a = recOf b := by
  have hr : readR b a = recOf b := by unfold readR; rw [if_pos h]
  unfold readE at h
  by_cases hs : spoilt b a = 0
  · rw [if_pos hs] at h; exact ⟨hs, h, hr⟩
  · rw [if_neg hs] at h; exact absurd h hs

theorem take14 (b : List UInt8) (a : Int) (hs : spoilt b a = 0) : b.take 14 = body (recOf b) a := by
  obtain ⟨hl, hsl, hp, h8, hn⟩ := spoilt_zero hs
  have hlen : ((b.drop 6).take (at' b 5).toNat).length = (at' b 5).toNat := by simp; omega
  have hz : restOf b = List.replicate (8 - (at' b 5).toNat) 0 := by
    refine List.eq_replicate_iff.2 ⟨by unfold restOf; simp; omega, fun c hc => ?_⟩
    unfold noughtsB at hn
    have := (List.all_eq_true.1 hn) c hc
    simpa using this
  unfold body recOf
  simp only []
  rw [hlen, lo_nat, lo_nat, two_hi, two_lo, lo_nat, ← hp, lo_nat, ← hz]
  have e : b.take 14 = [at' b 0, at' b 1, at' b 2, at' b 3, at' b 4, at' b 5] ++ (b.drop 6).take 8 := by
    match b, hl with
    | [x0, x1, x2, x3, x4, x5, x6, x7, x8, x9, x10, x11, x12, x13, x14, x15], _ => rfl
  rw [e]
  congr 1
  unfold restOf
  rw [← List.drop_drop, ← List.take_add]
  congr 1
  omega

/-- A block that is read is its record's. -/
theorem blk_read (b : List UInt8) (a : Int) (h : readE b a = 0) : wrong (readR b a) = 0 ∧ blk (readR b a) a = b := by
  obtain ⟨hs, hw, hr⟩ := readE_zero h
  obtain ⟨hl, hsl, -, -, -⟩ := spoilt_zero hs
  rw [hr]
  refine ⟨hw, ?_⟩
  unfold blk
  rw [← take14 b a hs]
  have := sealedB_eq b (by omega)
  rw [hsl, hl] at this
  exact beq_iff_eq.1 this

end Go.Proofs.Ytppgbgfahifanaa
