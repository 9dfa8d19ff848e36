import Derived.Test.YtpdnapbchcdhlaaRMend
set_option maxHeartbeats 8000000
namespace Go.Proofs.Ytpdnapbchcdhlaa
set_option maxRecDepth 100000
open Go.RowKit
open Plain Reg
theorem Zbv (c : UInt8) : lo (c.toNat : Int) = c := by
 refine UInt8.toNat_inj.1 ?_;have := Zbu (c.toNat : Int);have hc : c.toNat < 256 := UInt8.toNat_lt _;omega
theorem Zkd (x y : UInt8) : hi ((x.toNat : Int) * 256 + (y.toNat : Int)) = x := by
 have hx : x.toNat < 256 := UInt8.toNat_lt _;have hy : y.toNat < 256 := UInt8.toNat_lt _;exact ((Zdu x y _ (by omega) (by omega)).1 rfl).1
theorem Zkc (x y : UInt8) : lo ((x.toNat : Int) * 256 + (y.toNat : Int)) = y := by
 have hx : x.toNat < 256 := UInt8.toNat_lt _;have hy : y.toNat < 256 := UInt8.toNat_lt _;exact ((Zdu x y _ (by omega) (by omega)).1 rfl).2
theorem Zea {b : List UInt8} {a : Int} (h : Y0 b a = 0) : Yd b a = 0 ∧ Z2 (Z7 b) = 0 ∧ Ye b a = Z7 b := by
 have hr : Ye b a = Z7 b := by unfold Ye; rw [if_pos h]
 unfold Y0 at h;by_cases hs : Yd b a = 0
 ·rw [if_pos hs] at h; exact ⟨hs, h, hr⟩
 ·rw [if_neg hs] at h; exact absurd h hs
theorem Zke (b : List UInt8) (a : Int) (hs : Yd b a = 0) : b.take 14 = Zkv (Z7 b) a := by
 obtain ⟨hl, hsl, hp, h8, hn⟩ := Q7 hs;have hlen : ((b.drop 6).take (at' b 5).toNat).length = (at' b 5).toNat := by simp; omega
 have hz : Xz b = List.replicate (8 - (at' b 5).toNat) 0 := by
  refine List.eq_replicate_iff.2 ⟨by unfold Xz; simp; omega, fun c hc => ?_⟩;unfold Yi at hn;have := (List.all_eq_true.1 hn) c hc;simpa using this
 unfold Zkv Z7;simp only [];rw [hlen, Zbv, Zbv, Zkd, Zkc, Zbv, ← hp, Zbv, ← hz];have e : b.take 14 = [at' b 0, at' b 1, at' b 2, at' b 3, at' b 4, at' b 5] ++ (b.drop 6).take 8 := by
  match b, hl with
  | [x0, x1, x2, x3, x4, x5, x6, x7, x8, x9, x10, x11, x12, x13, x14, x15], _ => rfl
 rw [e]
 congr 1
 unfold Xz;rw [← List.drop_drop, ← List.take_add]
 congr 1
 omega
theorem Ziq (b : List UInt8) (a : Int) (h : Y0 b a = 0) : Z2 (Ye b a) = 0 ∧ blk (Ye b a) a = b := by
 obtain ⟨hs, hw, hr⟩ := Zea h;obtain ⟨hl, hsl, -, -, -⟩ := Q7 hs;rw [hr];refine ⟨hw, ?_⟩;unfold blk;rw [← Zke b a hs];have := Zaf b (by omega);rw [hsl, hl] at this;exact beq_iff_eq.1 this
end Go.Proofs.Ytpdnapbchcdhlaa
namespace Go.Proofs.Ytpdnapbchcdhlaa
set_option maxRecDepth 100000
open Plain
theorem Kp : Z2 Rec.free = 0 := by decide
theorem Zad (d : Dk) (a : Int) : Z2 (Yh d a) = 0 := by
 unfold Yh;split
 ·next h => exact (Ziq _ _ h).1
 ·exact Kp
theorem Zdw (d : Dk) (p : Int) : Z2 (d.tell p) = 0 := by
 unfold Dk.tell;split
 ·exact Kp
 ·split
  ·exact Kp
  ·unfold Zby; split
   ·exact Zad _ _
   ·exact Zad _ _
end Go.Proofs.Ytpdnapbchcdhlaa
