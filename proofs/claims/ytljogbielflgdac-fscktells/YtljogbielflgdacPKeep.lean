import Derived.Test.YtljogbielflgdacJPd
set_option maxHeartbeats 8000000
namespace Go.Proofs.Ytljogbielflgdac
set_option maxRecDepth 100000
open Go.RowKit
open Plain Reg
theorem Zqw (y : Int) : bits .and .i64 y 1 = y % 2 := by
 have e1 : (BitVec.ofInt 64 y).toNat = (y % 18446744073709551616).toNat := by simp [BitVec.toNat_ofInt]
 have e2 : (BitVec.ofInt 64 1).toNat = 1 := by decide
 show IntKind.i64.wrap ((BitVec.ofInt 64 y &&& BitVec.ofInt 64 1).toNat : Int) = _;rw [BitVec.toNat_and, e1, e2, Nat.and_two_pow_sub_one_eq_mod _ 1, IntKind.wrap_i64];omega
theorem Zor (b : Int) (k : Nat) (hk : k < 60) : Q5 b k = (b / 2 ^ k % 2 == 1) := by
 have hr0 : 0 ≤ b % 18446744073709551616 := by omega
 obtain ⟨r, hr⟩ := Int.eq_ofNat_of_zero_le hr0;obtain ⟨t, ht⟩ : ∃ t, t = b / 18446744073709551616 := ⟨_, rfl⟩;have hb : b = (r : Int) + 2 ^ k * (2 ^ (63 - k) * 2 * t) := by
  have h64 : (2 : Int) ^ k * (2 ^ (63 - k) * 2) = 18446744073709551616 := by
   rw [← Int.mul_assoc, ← Int.pow_add, show k + (63 - k) = 63 from by omega]; decide
  rw [← Int.mul_assoc, h64]; omega
 have hpos : (2 : Int) ^ k ≠ 0 := by
  have : (0 : Int) < 2 ^ k := Int.pow_pos (by decide);omega
 have hq : b / 2 ^ k = (r : Int) / 2 ^ k + 2 ^ (63 - k) * 2 * t := by
  rw [hb, Int.add_mul_ediv_left _ _ hpos]
 have hd : (r : Int) / 2 ^ k = ((r / 2 ^ k : Nat) : Int) := by
  rw [Int.natCast_ediv, Int.natCast_pow]; rfl
 unfold Q5;rw [hr, Int.toNat_natCast, decide_eq_true hk, Bool.true_and, hq, hd];generalize r / 2 ^ k = s;have e : (2 : Int) ^ (63 - k) * 2 * t = 2 * (2 ^ (63 - k) * t) := by
  rw [Int.mul_comm (2 ^ (63 - k)) 2, Int.mul_assoc]
 rw [e];generalize (2 : Int) ^ (63 - k) * t = z;have e2 : ((s : Int) + 2 * z) % 2 = (s : Int) % 2 := by omega
 rw [e2];rcases Nat.mod_two_eq_zero_or_one s with h | h
 ·have h' : (s : Int) % 2 = 0 := by omega
  rw [h, h']; rfl
 ·have h' : (s : Int) % 2 = 1 := by omega
  rw [h, h']; rfl
theorem Zlw (d : Dk) (bt : Int) (vb vl : Value) (w : World) (hb : Yv w vb d.blocks) (hl : Qc w vl d.late) (h0 : 0 < d.blocks.length) (hlen : d.blocks.length ≤ 256) (hm : d.late.length ≤ 60) (hb16 : ∀ x ∈ d.blocks, x.length ≤ 1000) (hl16 : ∀ x ∈ d.late, x.2.length ≤ 1000) (hp : ∀ x ∈ d.late, 0 ≤ x.1 ∧ x.1 < (d.blocks.length : Int)) :
  Calls Try.prog 34 #[.agg #[vb, vl], .int .i64 bt] w fun e w' => ∃ v, e = .returned v ∧ Qy w.heap.size (d.keep bt) v w' ∧ Zt w w' := by
 obtain ⟨ab, cb, rfl⟩ := hb.form;have hcap : ∃ al cl, vl = .slice al d.late.length cl ∧ d.late.length ≤ cl := by
  rcases hl with ⟨ao, cap, rfl, e, _⟩ | ⟨b, off, cap, rfl, h1, _⟩
  ·exact ⟨ao, cap, by rw [e]; rfl, by rw [e]; exact Nat.zero_le _⟩
  ·exact ⟨_, cap, rfl, h1⟩
 obtain ⟨al, cl, rfl, hcl⟩ := hcap;have gW := Zv w (.cells #[.slice ab d.blocks.length cb, .slice al d.late.length cl] 27) (.cells #[.slice none 0 0, .slice none 0 0] 27);have hx := hx1 w #[.slice ab d.blocks.length cb, .slice al d.late.length cl] #[.slice none 0 0, .slice none 0 0];have hy := hy1 w #[.slice ab d.blocks.length cb, .slice al d.late.length cl] #[.slice none 0 0, .slice none 0 0];go_enter Try.func34, Try.ntmps34;go_wp2_with fail;refine (Vq d.blocks _ _ (hb.grow gW) hlen hb16).mono ?_;rintro e w1 ⟨v1, us, rfl, hU, -, g1⟩;obtain ⟨q, cap, rfl⟩ := Zfb hU h0;have g2 := Zd w1 (.cells #[.slice (some ⟨q, 0, none⟩) d.blocks.length cap, .slice none 0 0] 27);have hxw := ((g1.trans g2).block _ (Za hx)).trans hx;have hyw := ((g1.trans g2).block _ (Za hy)).trans hy;have hstart : Kf d w #[.slice ab d.blocks.length cb, .slice al d.late.length cl] (.slice (some ⟨q, 0, none⟩) d.blocks.length cap) w1.heap.size (Q5 bt) 0 (w1.alloc (.cells #[.slice (some ⟨q, 0, none⟩) d.blocks.length cap, .slice none 0 0] 27)) :=
  ⟨gW.trans (g1.trans g2), hxw, hyw, Zq _ _ _, us, (hU.grow g2).mono (by simp)⟩
 have x1 := Zf hxw 1 _ rfl;clear hU hxw hyw hx hy gW g1 g2 hb;have hmi : (d.late.length : Int) ≤ 60 := by omega
 go_wp2_with fail;clear x1 hmi;generalize w1.heap.size = g at *;generalize World.alloc w1 _ = W at *;have a1 := Zqw;go_loopw [20] (fun i wr => ∃ k : Nat, k ≤ d.late.length ∧ i = .int .i64 k ∧ Kf d w #[.slice ab d.blocks.length cb, .slice al d.late.length cl] (.slice (some ⟨q, 0, none⟩) d.blocks.length cap) g (Q5 bt) k wr) (fun i _ => d.late.length - (intOf i).toNat)
 case atStart => exact ⟨0, Nat.zero_le _, rfl, hstart⟩
 case round =>
  clear hstart;obtain ⟨k, hk, rfl, hL⟩ := hrel;by_cases hlt : k < d.late.length
  ·obtain ⟨b, off, hvl, hc0, u, hc1, hu⟩ := (hl.grow hL.1).at k hlt;cases hvl;have hpk := hp d.late[k] (List.getElem_mem _);have hx16 := hl16 d.late[k] (List.getElem_mem _);obtain ⟨m, hm0⟩ := Int.eq_ofNat_of_zero_le hpk.1;have hmn : m < d.blocks.length := by have := hpk.2; omega
   rw [hm0] at hc0;obtain ⟨au, cu, rfl, -, -⟩ := Z7 hu;have hll := hL.grow (Zd wr (.cells #[.int .i64 (m : Int), .slice au (d.late[k].2).length cu] 76));have hSB := Zor bt k (by omega);have hk64 : (k : Int) ≤ 64 := by omega
   by_cases hon : Q5 bt k = true
   ·obtain ⟨us1, hU1⟩ := hll.2.2.2.2;have hkl : (d.keepTo (Q5 bt) k).length = d.blocks.length := d.keepTo_length _ _;have hrow1 := hU1.row;rw [hkl] at hrow1;have hu1 := Zw hu (Zd wr (.cells #[.int .i64 (m : Int), .slice au (d.late[k].2).length cu] 76));have hfin := fun (l : List UInt8) (e : d.late[k].2 = l) v' w' => Kf.land (v' := v') (w' := w') hll hon hlt hm0 e hU1
    have y0 := Zf hll.2.2.2.1 0 _ rfl;have y1 := Zf hll.2.2.2.1 1 _ rfl;replace hfin := hfin _ rfl;rw [hon] at hSB;have hbit : (bt / 2 ^ k % 2 == 1) = true := hSB.symm;clear hm0 hU1 hL hu hkl hpk hll hSB hon;generalize d.late[k].2 = data at *;go_wp2_with fail;refine (Zhx q (w.heap.size + 1 + 1) d.blocks.length cap m us1 _ _ _ _ data _ _ rfl hmn hrow1 hu1 hx16).mono ?_;rintro e w2 ⟨rfl, v', hbut, hQ⟩;have hend := hfin v' w2 hbut hQ;clear hfin hbut hQ hrow1 hu1 y0 y1;go_wp2_with fail;go_roundw
    case rel => exact ⟨k + 1, by omega, by simp, hend⟩
    case measure => simp [intOf]; omega
   ·have hoff : Q5 bt k = false := by simpa using hon
    have hend := hll.skip hoff;rw [hoff] at hSB;have hbit : (bt / 2 ^ k % 2 == 1) = false := hSB.symm;clear hm0 hL hu hpk hll hSB hon hoff;generalize d.late[k].2 = data at *;go_wp2_with fail;go_roundw
    case rel => exact ⟨k + 1, by omega, by simp, hend⟩
    case measure => simp [intOf]; omega
  ·have hk' : k = d.late.length := by omega
   subst hk';obtain ⟨gL, -, hLr, hLg, us1, hU1⟩ := hL;obtain ⟨y0, y1⟩ := Yl hLg rfl rfl;obtain ⟨z0, z1⟩ := Yl hLr rfl rfl;have f0 := Zk hLr 0;have f1 := Zk hLr 1;have cs := Zz;obtain ⟨hp1, hp2⟩ := Xx hLr (.slice (some ⟨q, 0, none⟩) d.blocks.length cap) (.slice none 0 0);have hstep : Ys 27 wr _ := .inr ⟨_, _, _, hp2, hLr, hp1, rfl⟩;have gE := hp2.grow gL (by omega);have hE := (hU1.box hstep).mono (B' := w.heap.size) (by omega);clear hp1 hp2 hstep hU1 hLg hLr gL hl;go_wp2_with fail;exact bodyPost_ret (v := .agg #[.slice (some ⟨q, 0, none⟩) d.blocks.length cap, .slice none 0 0]) (by simp [results, Try.results34, go_sem, z0, z1, cs]) rfl ⟨_, rfl, ⟨_, _, rfl, ⟨us1, hE⟩, Qx.nil _ _⟩, gE⟩
end Go.Proofs.Ytljogbielflgdac
