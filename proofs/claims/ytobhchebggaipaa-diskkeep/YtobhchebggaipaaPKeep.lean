/-
  What the program's disk.Keep makes of a disk, by bits.
  Condition: the disk lies in memory, of some blocks, at most 256, and at most 60 writes, of places that there are, of at most 1000 bytes.
-/
import Derived.Test.YtobhchebggaipaaPFlush
namespace Go.Proofs.Ytobhchebggaipaa
open Go.RowKit
open Go.Proofs.Ytobhchebggaipaa.Plain Go.Proofs.Ytobhchebggaipaa.Reg

theorem and_1 (y : Int) : bits .and .i64 y 1 = y % 2 := by
  have e1 : (BitVec.ofInt 64 y).toNat = (y % 18446744073709551616).toNat := by simp [BitVec.toNat_ofInt]
  have e2 : (BitVec.ofInt 64 1).toNat = 1 := by decide
  show IntKind.i64.wrap ((BitVec.ofInt 64 y &&& BitVec.ofInt 64 1).toNat : Int) = _
  rw [BitVec.toNat_and, e1, e2, Nat.and_two_pow_sub_one_eq_mod _ 1, IntKind.wrap_i64]
  omega
theorem shr_bit (b : Int) (k : Nat) (hk : k < 60) : bitOn b k = (b / 2 ^ k % 2 == 1) := by
  have hr0 : 0 ≤ b % 18446744073709551616 := by omega
  obtain ⟨r, hr⟩ := Int.eq_ofNat_of_zero_le hr0
  obtain ⟨t, ht⟩ : ∃ t, t = b / 18446744073709551616 := ⟨_, rfl⟩
  have hb : b = (r : Int) + 2 ^ k * (2 ^ (63 - k) * 2 * t) := by
    have h64 : (2 : Int) ^ k * (2 ^ (63 - k) * 2) = 18446744073709551616 := by
      rw [← Int.mul_assoc, ← Int.pow_add, show k + (63 - k) = 63 from by omega]; decide
    rw [← Int.mul_assoc, h64]; omega
  have hpos : (2 : Int) ^ k ≠ 0 := by
    have : (0 : Int) < 2 ^ k := Int.pow_pos (by decide)
    omega
  have hq : b / 2 ^ k = (r : Int) / 2 ^ k + 2 ^ (63 - k) * 2 * t := by
    rw [hb, Int.add_mul_ediv_left _ _ hpos]
  have hd : (r : Int) / 2 ^ k = ((r / 2 ^ k : Nat) : Int) := by
    rw [Int.natCast_ediv, Int.natCast_pow]; rfl
  unfold bitOn
  rw [hr, Int.toNat_natCast, decide_eq_true hk, Bool.true_and, hq, hd]
  generalize r / 2 ^ k = s
  have e : (2 : Int) ^ (63 - k) * 2 * t = 2 * (2 ^ (63 - k) * t) := by
    rw [Int.mul_comm (2 ^ (63 - k)) 2, Int.mul_assoc]
  rw [e]
  generalize (2 : Int) ^ (63 - k) * t = z
  have e2 : ((s : Int) + 2 * z) % 2 = (s : Int) % 2 := by omega
  rw [e2]
  rcases Nat.mod_two_eq_zero_or_one s with h | h
  · have h' : (s : Int) % 2 = 0 := by omega
    rw [h, h']; rfl
  · have h' : (s : Int) % 2 = 1 := by omega
    rw [h, h']; rfl

set_option maxHeartbeats 4000000 in
theorem keepP_any (d : Dk) (bt : Int) (vb vl : Value) (w : World) (hb : BlocksP w vb d.blocks) (hl : LateP w vl d.late) (h0 : 0 < d.blocks.length) (hlen : d.blocks.length ≤ 256) (hm : d.late.length ≤ 60) (hb16 : ∀ x ∈ d.blocks, x.length ≤ 1000) (hl16 : ∀ x ∈ d.late, x.2.length ≤ 1000) (hp : ∀ x ∈ d.late, 0 ≤ x.1 ∧ x.1 < (d.blocks.length : Int)) :
    Calls Try.prog 40 #[.agg #[vb, vl], .int .i64 bt] w fun e w' => ∃ v, e = .returned v ∧ DiskQ w.heap.size (d.keep bt) v w' ∧ Grow w w' := by
  obtain ⟨ab, cb, rfl⟩ := hb.form
  have hcap : ∃ al cl, vl = .slice al d.late.length cl ∧ d.late.length ≤ cl := by
    rcases hl with ⟨ao, cap, rfl, e, _⟩ | ⟨b, off, cap, rfl, h1, _⟩
    · exact ⟨ao, cap, by rw [e]; rfl, by rw [e]; exact Nat.zero_le _⟩
    · exact ⟨_, cap, rfl, h1⟩
  obtain ⟨al, cl, rfl, hcl⟩ := hcap
  have gW := grow_alloc2 w (.cells #[.slice ab d.blocks.length cb, .slice al d.late.length cl] 46) (.cells #[.slice none 0 0, .slice none 0 0] 46)
  have hx := hx1 w #[.slice ab d.blocks.length cb, .slice al d.late.length cl] #[.slice none 0 0, .slice none 0 0]
  have hy := hy1 w #[.slice ab d.blocks.length cb, .slice al d.late.length cl] #[.slice none 0 0, .slice none 0 0]
  go_enter Try.func40, Try.ntmps40
  go_wp2_with fail
  refine (ownBlocks_any d.blocks _ _ (hb.grow gW) hlen hb16).mono ?_
  rintro e w1 ⟨v1, us, rfl, hU, -, g1⟩
  obtain ⟨q, cap, rfl⟩ := row_some2 hU h0
  have g2 := grow_alloc w1 (.cells #[.slice (some ⟨q, 0, none⟩) d.blocks.length cap, .slice none 0 0] 46)
  have hxw := ((g1.trans g2).block _ (heap_lt hx)).trans hx
  have hyw := ((g1.trans g2).block _ (heap_lt hy)).trans hy
  have hstart : LandL d w #[.slice ab d.blocks.length cb, .slice al d.late.length cl] (.slice (some ⟨q, 0, none⟩) d.blocks.length cap) w1.heap.size (bitOn bt) 0 (w1.alloc (.cells #[.slice (some ⟨q, 0, none⟩) d.blocks.length cap, .slice none 0 0] 46)) :=
    ⟨gW.trans (g1.trans g2), hxw, hyw, heap_new _ _ _, us, (hU.grow g2).mono (by simp)⟩
  have x1 := box_cell hxw 1 _ rfl
  clear hU hxw hyw hx hy gW g1 g2 hb
  have hmi : (d.late.length : Int) ≤ 60 := by omega
  go_wp2_with fail
  clear x1 hmi
  generalize w1.heap.size = g at *
  generalize World.alloc w1 _ = W at *
  have a1 := and_1
  go_loopw [20] (fun i wr => ∃ k : Nat, k ≤ d.late.length ∧ i = .int .i64 k ∧ LandL d w #[.slice ab d.blocks.length cb, .slice al d.late.length cl] (.slice (some ⟨q, 0, none⟩) d.blocks.length cap) g (bitOn bt) k wr) (fun i _ => d.late.length - (intOf i).toNat)
  case atStart => exact ⟨0, Nat.zero_le _, rfl, hstart⟩
  case round =>
    clear hstart
    obtain ⟨k, hk, rfl, hL⟩ := hrel
    by_cases hlt : k < d.late.length
    · obtain ⟨b, off, hvl, hc0, u, hc1, hu⟩ := (hl.grow hL.1).at k hlt
      cases hvl
      have hpk := hp d.late[k] (List.getElem_mem _)
      have hx16 := hl16 d.late[k] (List.getElem_mem _)
      obtain ⟨m, hm0⟩ := Int.eq_ofNat_of_zero_le hpk.1
      have hmn : m < d.blocks.length := by have := hpk.2; omega
      rw [hm0] at hc0
      obtain ⟨au, cu, rfl, -, -⟩ := bytes_src hu
      have hll := hL.grow (grow_alloc wr (.cells #[.int .i64 (m : Int), .slice au (d.late[k].2).length cu] 60))
      have hSB := shr_bit bt k (by omega)
      have hk64 : (k : Int) ≤ 64 := by omega
      by_cases hon : bitOn bt k = true
      · obtain ⟨us1, hU1⟩ := hll.2.2.2.2
        have hkl : (d.keepTo (bitOn bt) k).length = d.blocks.length := d.keepTo_length _ _
        have hrow1 := hU1.row
        rw [hkl] at hrow1
        have hu1 := bytes_grow hu (grow_alloc wr (.cells #[.int .i64 (m : Int), .slice au (d.late[k].2).length cu] 60))
        have hfin := fun (l : List UInt8) (e : d.late[k].2 = l) v' w' => LandL.land (v' := v') (w' := w') hll hon hlt hm0 e hU1
        have y0 := box_cell hll.2.2.2.1 0 _ rfl
        have y1 := box_cell hll.2.2.2.1 1 _ rfl
        replace hfin := hfin _ rfl
        rw [hon] at hSB
        have hbit : (bt / 2 ^ k % 2 == 1) = true := hSB.symm
        clear hm0 hU1 hL hu hkl hpk hll hSB hon
        generalize d.late[k].2 = data at *
        go_wp2_with fail
        refine (land_yes q (w.heap.size + 1 + 1) d.blocks.length cap m us1 _ _ _ _ data _ _ rfl hmn hrow1 hu1 hx16).mono ?_
        rintro e w2 ⟨rfl, v', hbut, hQ⟩
        have hend := hfin v' w2 hbut hQ
        clear hfin hbut hQ hrow1 hu1 y0 y1
        go_wp2_with fail
        go_roundw
        case rel => exact ⟨k + 1, by omega, by simp, hend⟩
        case measure => simp [intOf]; omega
      · have hoff : bitOn bt k = false := by simpa using hon
        have hend := hll.skip hoff
        rw [hoff] at hSB
        have hbit : (bt / 2 ^ k % 2 == 1) = false := hSB.symm
        clear hm0 hL hu hpk hll hSB hon hoff
        generalize d.late[k].2 = data at *
        go_wp2_with fail
        go_roundw
        case rel => exact ⟨k + 1, by omega, by simp, hend⟩
        case measure => simp [intOf]; omega
    · have hk' : k = d.late.length := by omega
      subst hk'
      obtain ⟨gL, -, hLr, hLg, us1, hU1⟩ := hL
      have y0 := box_cell hLg 0 _ rfl
      have y1 := box_cell hLg 1 _ rfl
      have z0 := box_cell hLr 0 _ rfl
      have z1 := box_cell hLr 1 _ rfl
      have f0 := box_frozen hLr 0
      have f1 := box_frozen hLr 1
      have cs := cell_set
      obtain ⟨hp1, hp2⟩ := box_put2 hLr (.slice (some ⟨q, 0, none⟩) d.blocks.length cap) (.slice none 0 0)
      have hstep : BoxStep 46 wr _ := .inr ⟨_, _, _, hp2, hLr, hp1, rfl⟩
      have gE := hp2.grow gL (by omega)
      have hE := (hU1.box hstep).mono (B' := w.heap.size) (by omega)
      clear hp1 hp2 hstep hU1 hLg hLr gL hl
      go_wp2_with fail
      exact bodyPost_ret (v := .agg #[.slice (some ⟨q, 0, none⟩) d.blocks.length cap, .slice none 0 0]) (by simp [results, Try.results40, go_sem, z0, z1, cs]) rfl ⟨_, rfl, ⟨_, _, rfl, ⟨us1, hE⟩, OwnLt.nil _ _⟩, gE⟩
end Go.Proofs.Ytobhchebggaipaa
