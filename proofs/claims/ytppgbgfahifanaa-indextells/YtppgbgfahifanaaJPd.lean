/-
  PBlocks, PLate, POwn, PGet, PPut, DkP, PFlush, PNew: several texts in one.
-/
import Derived.Test.YtppgbgfahifanaaROut
import Derived.Laws.OwnMore
import Derived.Test.YtppgbgfahifanaaRRead
import Derived.Test.YtppgbgfahifanaaDkLaw
import Derived.Test.YtppgbgfahifanaaJReg
/-
  Disks whose rows are all their own, and what the program's disk.ownBlocks makes of blocks.
  Condition: the blocks lie in memory, at most 256 of them, of at most 1000 bytes.
-/
namespace Go.Proofs.Ytppgbgfahifanaa
set_option maxRecDepth 100000
open Go.RowKit
open Go.Proofs.Ytppgbgfahifanaa.Plain Go.Proofs.Ytppgbgfahifanaa.Reg

end Go.Proofs.Ytppgbgfahifanaa

/-
  Late writes whose rows are all their own, and what the program's disk.ownWrites makes of writes.
  Condition: the writes lie in memory, at most 1000 of them, of at most 1000 bytes.
-/
namespace Go.Proofs.Ytppgbgfahifanaa
set_option maxRecDepth 100000
open Go.RowKit
open Go.Proofs.Ytppgbgfahifanaa.Plain Go.Proofs.Ytppgbgfahifanaa.Reg

/-- The row in block g grew, or nothing was done. -/
def RowStep (g : Nat) (w w' : World) : Prop := w' = w ∨ w.grownBy w' (some g)
theorem own_past {w w' : World} {base g : Nat} {e : TypeId} {size : Nat} {v : Value} {n : Nat} {xs : List Value} (hs : RowStep g w w') (hg : g < base) (h : w.ownsRow base e size v n xs) : w'.ownsRow base e size v n xs := by
  rcases hs with rfl | hs
  · exact h
  · refine ⟨h.1, or_map h.2 (fun x => x) fun ⟨q, cap, cur, h1, h2, h3, r⟩ => ⟨q, cap, cur, h1, h2, ?_, r⟩⟩
    rw [hs.block _ (heap_lt h3) (by intro e; cases e; omega)]
    exact h3
end Go.Proofs.Ytppgbgfahifanaa

/-
  What the program's disk.Own makes of a disk: the same, all of it in memory of its own.
  Condition: the disk lies in memory, of at most 256 blocks and 1000 writes, of at most 1000 bytes.
-/
namespace Go.Proofs.Ytppgbgfahifanaa
set_option maxRecDepth 100000
open Go.RowKit
open Go.Proofs.Ytppgbgfahifanaa.Plain Go.Proofs.Ytppgbgfahifanaa.Reg

end Go.Proofs.Ytppgbgfahifanaa

/-
  What the program's disk.has and disk.Get tell of any disk.
  Condition: the disk lies in memory, its blocks of at most 1000 bytes.
-/
namespace Go.Proofs.Ytppgbgfahifanaa
set_option maxRecDepth 100000
open Go.RowKit
open Go.Proofs.Ytppgbgfahifanaa.Plain Go.Proofs.Ytppgbgfahifanaa.Reg

def hasB (n : Nat) (a : Int) : Bool := decide (0 ≤ a ∧ a < (n : Int))

set_option maxHeartbeats 1000000 in
theorem has_any (n : Nat) (a : Int) (ab al : Option Addr) (cb nl cl : Nat) (w : World) :
    Calls Try.prog 77 #[.agg #[.slice ab n cb, .slice al nl cl], .int .i64 a] w fun e w' => e = .returned (.bool (hasB n a)) ∧ Grow w w' := by
  by_cases h0 : 0 ≤ a
  · by_cases h1 : a < (n : Int)
    · have HB : Hid (hasB n a = true) := by show hasB n a = true; unfold hasB; simp [h0, h1]
      rw [HB.out]
      go_enter Try.func77, Try.ntmps77
      go_wp2_with fail
      go_ret
      exact ⟨rfl, grow_alloc _ _⟩
    · have HB : Hid (hasB n a = false) := by show hasB n a = false; unfold hasB; simp; omega
      rw [HB.out]
      go_enter Try.func77, Try.ntmps77
      go_wp2_with fail
      go_ret
      exact ⟨rfl, grow_alloc _ _⟩
  · have HB : Hid (hasB n a = false) := by show hasB n a = false; unfold hasB; simp; omega
    rw [HB.out]
    have h2 : a < 0 := by omega
    clear h0
    go_enter Try.func77, Try.ntmps77
    go_wp2_with fail
    go_ret
    exact ⟨rfl, grow_alloc _ _⟩

set_option maxHeartbeats 2000000 in
theorem get_any (d : Dk) (a : Int) (vb vl : Value) (w : World) (hb : BlocksP w vb d.blocks) (hl : LateP w vl d.late) (hm2 : d.late.length ≤ 999990) (hb16 : ∀ x ∈ d.blocks, x.length ≤ 1000) (hl16 : ∀ x ∈ d.late, x.2.length ≤ 1000) :
    Calls Try.prog 41 #[.agg #[vb, vl], .int .i64 a] w fun e w' => ∃ v, e = .returned (.tuple #[v, .int .i64 (d.getE a)]) ∧ w'.ownsRow w.heap.size 5 1 v ((d.get a).getD []).length (((d.get a).getD []).map bv) ∧ Grow w w' := by
  obtain ⟨ab, cb, rfl⟩ := hb.form
  obtain ⟨al, cl, rfl⟩ := hl.form
  have gW := grow_alloc w (.cells #[.slice ab d.blocks.length cb, .slice al d.late.length cl] 46)
  have hx := heap_new w #[.slice ab d.blocks.length cb, .slice al d.late.length cl] 46
  by_cases hout : a < 0 ∨ (d.blocks.length : Int) ≤ a
  · have HE : Hid (d.getE a = 3) := by show d.getE a = 3; unfold Dk.getE; rw [if_pos hout]
    have HG : Hid (d.get a = none) := by show d.get a = none; unfold Dk.get; rw [if_pos hout]
    have HH : Hid (hasB d.blocks.length a = false) := by show hasB _ a = false; unfold hasB; simp; omega
    rw [HE.out, HG.out]
    clear hout
    go_enter Try.func41, Try.ntmps41
    go_wp2_with fail
    refine (has_any d.blocks.length a _ _ _ _ _ _).mono ?_
    rw [HH.out]
    rintro e w1 ⟨rfl, g1⟩
    go_wp2_with fail
    go_ret2
    exact ⟨_, rfl, World.ownsRow_nil _ _ _ _, gW.trans g1⟩
  · have HE : Hid (d.getE a = 0) := by show d.getE a = 0; unfold Dk.getE; rw [if_neg hout]
    have HG : Hid (d.get a = some ((lastW d.late a).getD (d.blocks.getD a.toNat []))) := by show d.get a = _; unfold Dk.get; rw [if_neg hout]
    have HH : Hid (hasB d.blocks.length a = true) := by show hasB _ a = true; unfold hasB; simp; omega
    rw [HE.out, HG.out, Option.getD_some]
    obtain ⟨p, rfl⟩ := Int.eq_ofNat_of_zero_le (by omega : 0 ≤ a)
    have hp : p < d.blocks.length := by omega
    clear hout
    rw [Int.toNat_natCast]
    obtain ⟨R, hR⟩ : ∃ R, R = (lastW d.late (p : Int)).getD (d.blocks.getD p []) := ⟨_, rfl⟩
    rw [← hR]
    have HR : Hid _ := hR
    clear hR
    have hsz := World.size_alloc w (.cells #[.slice ab d.blocks.length cb, .slice al d.late.length cl] 46)
    go_enter Try.func41, Try.ntmps41
    go_wp2_with fail
    refine (has_any d.blocks.length (p : Int) _ _ _ _ _ _).mono ?_
    rw [HH.out]
    rintro e W ⟨rfl, g1⟩
    have gW1 := gW.trans g1
    have hx1 := (g1.block _ (heap_lt hx)).trans hx
    have hbW := hb.grow gW1
    have hlW := hl.grow gW1
    clear hb hl hx gW g1 hsz
    have x0 := box_cell hx1 0 _ rfl
    have x1 := box_cell hx1 1 _ rfl
    go_wp2_with fail
    go_loop [6] (fun i => ∃ k : Nat, k ≤ d.late.length ∧ i = .int .i64 ((k : Int) - 1) ∧ lastW d.late p = lastW (d.late.take k) p) (fun i => (intOf i + 1).toNat)
    case atStart => exact ⟨d.late.length, Nat.le_refl _, rfl, by rw [List.take_length]⟩
    case round =>
      obtain ⟨k, hk, rfl, hla⟩ := hrel
      have HLA : Hid (lastW d.late p = lastW (d.late.take k) p) := hla
      clear hla
      match k, hk, HLA with
      | 0, hk, HLA =>
        have HB : Hid (lastW d.late p = none) := HLA
        obtain ⟨b, off, rfl, u, hu, hub⟩ := hbW.at p hp
        have hle := hb16 _ (List.getElem_mem hp)
        have hRe : R = d.blocks[p] := by rw [HR.out, HB.out, Option.getD_none]; exact getD_at _ _ _ hp
        rw [← hRe] at hub hle
        obtain ⟨au, cu, rfl, -, -⟩ := bytes_src hub
        clear HLA hRe
        go_wp2_with fail
        refine (clone_any R _ _ (by omega) hub).mono ?_
        rintro e w2 ⟨v2, rfl, ho, g2⟩
        obtain ⟨a2, c2, rfl⟩ := own_slice ho
        go_wp2_with fail
        go_ret2
        exact ⟨_, rfl, own_mono ho gW1.size, gW1.trans g2⟩
      | k + 1, hk, HLA =>
        have hkl : k < d.late.length := by omega
        obtain ⟨b, off, rfl, hc0, u, hu, hub⟩ := hlW.at k hkl
        have hle := hl16 _ (List.getElem_mem hkl)
        have hst := lastW_take d.late p k hkl
        by_cases he : d.late[k].1 = (p : Int)
        · rw [he] at hc0
          rw [if_pos he] at hst
          have hRe : R = d.late[k].2 := by rw [HR.out, HLA.out.trans hst, Option.getD_some]
          rw [← hRe] at hub hle
          clear HLA hst he hRe
          obtain ⟨au, cu, rfl, -, -⟩ := bytes_src hub
          have e1 : ((k + 1 : Nat) : Int) - 1 = (k : Int) := by omega
          rw [e1]
          clear e1
          go_wp2_with fail
          refine (clone_any R _ _ (by omega) hub).mono ?_
          rintro e w2 ⟨v2, rfl, ho, g2⟩
          obtain ⟨a2, c2, rfl⟩ := own_slice ho
          go_wp2_with fail
          go_ret2
          exact ⟨_, rfl, own_mono ho gW1.size, gW1.trans g2⟩
        · rw [if_neg he] at hst
          have HV : Hid (lastW d.late p = lastW (d.late.take k) p) := HLA.out.trans hst
          have d2 : (d.late[k].1 == (p : Int)) = false := beq_false' he
          clear HLA hst he hub hle
          generalize d.late[k].1 = q at *
          have e1 : ((k + 1 : Nat) : Int) - 1 = (k : Int) := by omega
          rw [e1]
          clear e1
          go_wp2_with fail
          go_round
          case rel => exact ⟨k, by omega, by go_num, HV.out⟩
          case measure => simp [intOf]
end Go.Proofs.Ytppgbgfahifanaa

/-
  What the program's disk.Put makes of a disk.
  Condition: the disk lies in memory, of at most 256 blocks and 1000 writes, of at most 1000 bytes; the bytes that are put do.
-/
namespace Go.Proofs.Ytppgbgfahifanaa
set_option maxRecDepth 100000
open Go.RowKit
open Go.Proofs.Ytppgbgfahifanaa.Plain Go.Proofs.Ytppgbgfahifanaa.Reg

/-- A row stays while another one, of another type, grows. -/
theorem own_grown {w w3 : World} {B base n m size sz : Nat} {e T : TypeId} {v u : Value} {xs ys : List Value} {o : Obj} (hrow : w.ownsRow B T size v n xs) (hg : (w.alloc o).grownBy w3 v.ownBlock) (hT : e ≠ T) (h : w.ownsRow base e sz u m ys) : w3.ownsRow base e sz u m ys := by
  refine ⟨h.1, or_map h.2 (fun x => x) fun ⟨q, cap, cur, h1, h2, h3, r⟩ => ⟨q, cap, cur, h1, h2, ?_, r⟩⟩
  have hq := heap_lt h3
  rw [hg.block q (by simp; omega) ?_, (grow_alloc w o).block q hq]
  · exact h3
  · rcases hrow.2 with ⟨rfl, _⟩ | ⟨g, cap', cur', rfl, _, hh, _⟩
    · simp [Value.ownBlock]
    · intro e1
      simp [Value.ownBlock] at e1
      subst e1
      rw [h3] at hh; cases hh; exact hT rfl


theorem grown_below {B n size : Nat} {e : TypeId} {v : Value} {us : List Value} {w w3 : World} {o : Obj} (hle : B ≤ w.heap.size) (hown : w.ownsRow B e size v n us) (hg : (w.alloc o).grownBy w3 v.ownBlock) : Below B w w3 :=
  Below.grown (Below.alloc (Below.refl _ _) hle o) hg (by simp; omega) (fun k hk => (hown.lt k hk).1)

end Go.Proofs.Ytppgbgfahifanaa

/-
  A disk that lies in memory, wherever: what is told of it. No program but its types' numbers.
-/
namespace Go.Proofs.Ytppgbgfahifanaa
set_option maxRecDepth 100000
open Go.RowKit
open Go.Proofs.Ytppgbgfahifanaa.Plain Go.Proofs.Ytppgbgfahifanaa.Reg

/-- A disk, wherever it lies. -/
def DiskP (d : Dk) (v : Value) (w : World) : Prop := ∃ vb vl, v = .agg #[vb, vl] ∧ BlocksP w vb d.blocks ∧ LateP w vl d.late
theorem st_diskp (d : Dk) : Stable (DiskP d) := by
  rintro v w w' hg ⟨vb, vl, h1, h2, h3⟩; exact ⟨vb, vl, h1, h2.grow hg, h3.grow hg⟩
theorem DiskP.form {d : Dk} {v : Value} {w : World} (h : DiskP d v w) : ∃ ab cb al cl, v = .agg #[.slice ab d.blocks.length cb, .slice al d.late.length cl] ∧ BlocksP w (.slice ab d.blocks.length cb) d.blocks ∧ LateP w (.slice al d.late.length cl) d.late := by
  obtain ⟨vb, vl, h1, h2, h3⟩ := h
  obtain ⟨ab, cb, rfl⟩ := h2.form
  obtain ⟨al, cl, rfl⟩ := h3.form
  exact ⟨ab, cb, al, cl, h1, h2, h3⟩
end Go.Proofs.Ytppgbgfahifanaa

/-
  What the program's disk.land and disk.Flush make of a disk.
  Condition: the disk lies in memory, of some blocks, at most 256, and at most 1000 writes, of places that there are, of at most 1000 bytes.
-/
namespace Go.Proofs.Ytppgbgfahifanaa
set_option maxRecDepth 100000
open Go.RowKit
open Go.Proofs.Ytppgbgfahifanaa.Plain Go.Proofs.Ytppgbgfahifanaa.Reg

theorem own_other {w w' : World} {base q : Nat} {e : TypeId} {size : Nat} {v : Value} {n : Nat} {xs : List Value} (hg : GrowBut q w w') (hq : q < base) (h : w.ownsRow base e size v n xs) : w'.ownsRow base e size v n xs := by
  refine ⟨h.1, or_map h.2 (fun x => x) fun ⟨g, cap, cur, h1, h2, h3, r⟩ => ⟨g, cap, cur, h1, h2, ?_, r⟩⟩
  rw [hg.block _ (heap_lt h3) (by omega)]; exact h3
end Go.Proofs.Ytppgbgfahifanaa

/-
  What the program's disk.New makes: a disk all blocks of which are free.
  No condition.
-/
namespace Go.Proofs.Ytppgbgfahifanaa
set_option maxRecDepth 100000
open Go.RowKit
open Go.Proofs.Ytppgbgfahifanaa.Plain Go.Proofs.Ytppgbgfahifanaa.Reg

end Go.Proofs.Ytppgbgfahifanaa
