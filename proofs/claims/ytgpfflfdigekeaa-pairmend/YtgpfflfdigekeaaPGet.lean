/-
  What the program's disk.has and disk.Get tell of any disk.
  Condition: the disk lies in memory, its blocks of at most 1000 bytes.
-/
import Derived.Test.YtgpfflfdigekeaaDkLaw
import Derived.Test.YtgpfflfdigekeaaRegv
namespace Go.Proofs.Ytgpfflfdigekeaa
set_option maxRecDepth 100000
open Go.RowKit
open Go.Proofs.Ytgpfflfdigekeaa.Plain Go.Proofs.Ytgpfflfdigekeaa.Reg

def hasB (n : Nat) (a : Int) : Bool := decide (0 ≤ a ∧ a < (n : Int))

set_option maxHeartbeats 1000000 in
theorem has_any (n : Nat) (a : Int) (ab al : Option Addr) (cb nl cl : Nat) (w : World) :
    Calls Try.prog 65 #[.agg #[.slice ab n cb, .slice al nl cl], .int .i64 a] w fun e w' => e = .returned (.bool (hasB n a)) ∧ Grow w w' := by
  by_cases h0 : 0 ≤ a
  · by_cases h1 : a < (n : Int)
    · have HB : Hid (hasB n a = true) := by show hasB n a = true; unfold hasB; simp [h0, h1]
      rw [HB.out]
      go_enter Try.func65, Try.ntmps65
      go_wp2_with fail
      go_ret
      exact ⟨rfl, grow_alloc _ _⟩
    · have HB : Hid (hasB n a = false) := by show hasB n a = false; unfold hasB; simp; omega
      rw [HB.out]
      go_enter Try.func65, Try.ntmps65
      go_wp2_with fail
      go_ret
      exact ⟨rfl, grow_alloc _ _⟩
  · have HB : Hid (hasB n a = false) := by show hasB n a = false; unfold hasB; simp; omega
    rw [HB.out]
    have h2 : a < 0 := by omega
    clear h0
    go_enter Try.func65, Try.ntmps65
    go_wp2_with fail
    go_ret
    exact ⟨rfl, grow_alloc _ _⟩

set_option maxHeartbeats 2000000 in
theorem get_any (d : Dk) (a : Int) (vb vl : Value) (w : World) (hb : BlocksP w vb d.blocks) (hl : LateP w vl d.late) (hm2 : d.late.length ≤ 999990) (hb16 : ∀ x ∈ d.blocks, x.length ≤ 1000) (hl16 : ∀ x ∈ d.late, x.2.length ≤ 1000) :
    Calls Try.prog 40 #[.agg #[vb, vl], .int .i64 a] w fun e w' => ∃ v, e = .returned (.tuple #[v, .int .i64 (d.getE a)]) ∧ w'.ownsRow w.heap.size 5 1 v ((d.get a).getD []).length (((d.get a).getD []).map bv) ∧ Grow w w' := by
  obtain ⟨ab, cb, rfl⟩ := hb.form
  obtain ⟨al, cl, rfl⟩ := hl.form
  have gW := grow_alloc w (.cells #[.slice ab d.blocks.length cb, .slice al d.late.length cl] 46)
  have hx := heap_new w #[.slice ab d.blocks.length cb, .slice al d.late.length cl] 46
  by_cases hout : a < 0 ∨ (d.blocks.length : Int) ≤ a
  · have HE : Hid (d.getE a = 3) := by show d.getE a = 3; unfold Dk.getE; rw [if_pos hout]
    have HG : Hid (d.get a = none) := by show d.get a = none; unfold Dk.get; rw [if_pos hout]
    have HH : Hid (hasB d.blocks.length a = false) := by show hasB _ a = false; unfold hasB; simp; omega
    rw [HE.out, HG.out]
    clear hout
    go_enter Try.func40, Try.ntmps40
    go_wp2_with fail
    refine (has_any d.blocks.length a _ _ _ _ _ _).mono ?_
    rw [HH.out]
    rintro e w1 ⟨rfl, g1⟩
    go_wp2_with fail
    go_ret2
    exact ⟨_, rfl, World.ownsRow_nil _ _ _ _, gW.trans g1⟩
  · have HE : Hid (d.getE a = 0) := by show d.getE a = 0; unfold Dk.getE; rw [if_neg hout]
    have HG : Hid (d.get a = some ((lastW d.late a).getD (d.blocks.getD a.toNat []))) := by show d.get a = _; unfold Dk.get; rw [if_neg hout]
    have HH : Hid (hasB d.blocks.length a = true) := by show hasB _ a = true; unfold hasB; simp; omega
    rw [HE.out, HG.out, Option.getD_some]
    obtain ⟨p, rfl⟩ := Int.eq_ofNat_of_zero_le (by omega : 0 ≤ a)
    have hp : p < d.blocks.length := by omega
    clear hout
    rw [Int.toNat_natCast]
    obtain ⟨R, hR⟩ : ∃ R, R = (lastW d.late (p : Int)).getD (d.blocks.getD p []) := ⟨_, rfl⟩
    rw [← hR]
    have HR : Hid _ := hR
    clear hR
    have hsz := World.size_alloc w (.cells #[.slice ab d.blocks.length cb, .slice al d.late.length cl] 46)
    go_enter Try.func40, Try.ntmps40
    go_wp2_with fail
    refine (has_any d.blocks.length (p : Int) _ _ _ _ _ _).mono ?_
    rw [HH.out]
    rintro e W ⟨rfl, g1⟩
    have gW1 := gW.trans g1
    have hx1 := (g1.block _ (heap_lt hx)).trans hx
    have hbW := hb.grow gW1
    have hlW := hl.grow gW1
    clear hb hl hx gW g1 hsz
    have x0 := box_cell hx1 0 _ rfl
    have x1 := box_cell hx1 1 _ rfl
    go_wp2_with fail
    go_loop [6] (fun i => ∃ k : Nat, k ≤ d.late.length ∧ i = .int .i64 ((k : Int) - 1) ∧ lastW d.late p = lastW (d.late.take k) p) (fun i => (intOf i + 1).toNat)
    case atStart => exact ⟨d.late.length, Nat.le_refl _, rfl, by rw [List.take_length]⟩
    case round =>
      obtain ⟨k, hk, rfl, hla⟩ := hrel
      have HLA : Hid (lastW d.late p = lastW (d.late.take k) p) := hla
      clear hla
      match k, hk, HLA with
      | 0, hk, HLA =>
        have HB : Hid (lastW d.late p = none) := HLA
        obtain ⟨b, off, rfl, u, hu, hub⟩ := hbW.at p hp
        have hle := hb16 _ (List.getElem_mem hp)
        have hRe : R = d.blocks[p] := by rw [HR.out, HB.out, Option.getD_none]; exact getD_at _ _ _ hp
        rw [← hRe] at hub hle
        obtain ⟨au, cu, rfl, -, -⟩ := bytes_src hub
        clear HLA hRe
        go_wp2_with fail
        refine (clone_any R _ _ (by omega) hub).mono ?_
        rintro e w2 ⟨v2, rfl, ho, g2⟩
        obtain ⟨a2, c2, rfl⟩ := own_slice ho
        go_wp2_with fail
        go_ret2
        exact ⟨_, rfl, own_mono ho gW1.size, gW1.trans g2⟩
      | k + 1, hk, HLA =>
        have hkl : k < d.late.length := by omega
        obtain ⟨b, off, rfl, hc0, u, hu, hub⟩ := hlW.at k hkl
        have hle := hl16 _ (List.getElem_mem hkl)
        have hst := lastW_take d.late p k hkl
        by_cases he : d.late[k].1 = (p : Int)
        · rw [he] at hc0
          rw [if_pos he] at hst
          have hRe : R = d.late[k].2 := by rw [HR.out, HLA.out.trans hst, Option.getD_some]
          rw [← hRe] at hub hle
          clear HLA hst he hRe
          obtain ⟨au, cu, rfl, -, -⟩ := bytes_src hub
          have e1 : ((k + 1 : Nat) : Int) - 1 = (k : Int) := by omega
          rw [e1]
          clear e1
          go_wp2_with fail
          refine (clone_any R _ _ (by omega) hub).mono ?_
          rintro e w2 ⟨v2, rfl, ho, g2⟩
          obtain ⟨a2, c2, rfl⟩ := own_slice ho
          go_wp2_with fail
          go_ret2
          exact ⟨_, rfl, own_mono ho gW1.size, gW1.trans g2⟩
        · rw [if_neg he] at hst
          have HV : Hid (lastW d.late p = lastW (d.late.take k) p) := HLA.out.trans hst
          have d2 : (d.late[k].1 == (p : Int)) = false := beq_false' he
          clear HLA hst he hub hle
          generalize d.late[k].1 = q at *
          have e1 : ((k + 1 : Nat) : Int) - 1 = (k : Int) := by omega
          rw [e1]
          clear e1
          go_wp2_with fail
          go_round
          case rel => exact ⟨k, by omega, by go_num, HV.out⟩
          case measure => simp [intOf]
end Go.Proofs.Ytgpfflfdigekeaa
