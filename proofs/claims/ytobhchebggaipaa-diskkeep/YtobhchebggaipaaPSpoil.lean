/-
  What the program's disk.Spoil makes of a disk: one byte of a block turned.
  Condition: the disk lies in memory, of at most 256 blocks and 1000 writes, of at most 1000 bytes.
-/
import Derived.Test.YtobhchebggaipaaPFlush
import Derived.Test.YtobhchebggaipaaRSpoil
namespace Go.Proofs.Ytobhchebggaipaa
open Go.RowKit
open Go.Proofs.Ytobhchebggaipaa.Plain Go.Proofs.Ytobhchebggaipaa.Reg

theorem own_apart {w : World} {base p i size : Nat} {e : TypeId} {v x : Value} {n : Nat} {xs : List Value} (h : w.ownsRow base e size v n xs) (hp : v.ownBlock ≠ some p) : (w.setCell ⟨p, i, none⟩ x).ownsRow base e size v n xs := by
  refine ⟨h.1, or_map h.2 (fun x => x) fun ⟨q, cap, cur, h1, h2, h3, r⟩ => ⟨q, cap, cur, h1, h2, ?_, r⟩⟩
  rw [Below.heap_setCell _ _ _ _ (by rintro rfl; subst h1; exact hp rfl)]
  exact h3

/-- A byte of a block's row is written. -/
theorem OwnU.turn {B p cp m j : Nat} {v : Value} {bs : List (List UInt8)} {us : List Value} {lt : List UInt8} {x : Value} {w : World} (h : OwnU B v bs us w) (ha : Apart us) (hm : m < bs.length) (hu : us[m]? = some (.slice (some ⟨p, 0, none⟩) bs[m].length cp))
    (hlt : lt.length = bs[m].length) (hx : (bs[m].map bv).set j x = lt.map bv) : OwnU B v (bs.set m lt) us (w.setCell ⟨p, j, none⟩ x) := by
  have hrow : w.ownsRow B 5 1 (.slice (some ⟨p, 0, none⟩) bs[m].length cp) bs[m].length (bs[m].map bv) := by
    obtain ⟨y, h1, h2⟩ := h.each m hm
    rw [hu] at h1; cases h1; exact h2
  obtain ⟨cur, hcur⟩ := own_block hrow
  refine ⟨by rw [List.length_set]; exact h.len, by rw [List.length_set]; exact own_type2 h.row hcur (by decide), fun i hi => ?_⟩
  rw [List.length_set] at hi
  by_cases e : m = i
  · subst e
    refine ⟨_, hu, ?_⟩
    simp only [List.getElem_set_self]
    rw [hlt, ← hx]
    exact (hrow.stored j x).1
  · obtain ⟨y, h1, h2⟩ := h.each i hi
    refine ⟨y, h1, ?_⟩
    rw [List.getElem_set_ne e]
    refine own_apart h2 (fun hp => ?_)
    rcases Nat.lt_or_gt_of_ne e with h' | h'
    · exact ha m i _ _ p h' hu h1 rfl hp
    · exact ha i m _ _ p h' h1 hu hp rfl
theorem OwnLt.turn {C p j : Nat} {v : Value} {ws : List Wr} {x : Value} {w : World} (h : OwnLt C v ws w) (hp : p < C) : OwnLt C v ws (w.setCell ⟨p, j, none⟩ x) := by
  obtain ⟨us, h⟩ := h
  exact ⟨us, h.len, own_set h.row hp _, fun i hi => (h.each i hi).imp fun _ hu => ⟨hu.1, own_set hu.2 hp _⟩⟩

theorem xor_u8 (c : UInt8) (y : Int) : bits .xor .u8 (c.toNat : Int) (y % 256) = ((c ^^^ lo y).toNat : Int) := by
  have hc : c.toNat < 256 := UInt8.toNat_lt _
  have hx : c.toNat ^^^ (lo y).toNat < 2 ^ 8 := Nat.xor_lt_two_pow hc (UInt8.toNat_lt _)
  have e1 : (BitVec.ofInt 8 (c.toNat : Int)).toNat = c.toNat := by
    rw [BitVec.ofInt_natCast, BitVec.toNat_ofNat]; exact Nat.mod_eq_of_lt (by omega)
  have e2 : (BitVec.ofInt 8 ((lo y).toNat : Int)).toNat = (lo y).toNat := by
    rw [BitVec.ofInt_natCast, BitVec.toNat_ofNat]; exact Nat.mod_eq_of_lt (UInt8.toNat_lt _)
  rw [← lo_val y]
  show IntKind.u8.wrap ((BitVec.ofInt 8 (c.toNat : Int) ^^^ BitVec.ofInt 8 ((lo y).toNat : Int)).toNat : Int) = _
  rw [BitVec.toNat_xor, e1, e2, IntKind.wrap_u8, UInt8.toNat_xor]
  omega


set_option maxHeartbeats 4000000 in
theorem spoilP_any (d : Dk) (a n y : Int) (vb vl : Value) (w : World) (hb : BlocksP w vb d.blocks) (hl : LateP w vl d.late) (hlen : d.blocks.length ≤ 256) (hm : d.late.length ≤ 1000) (hb16 : ∀ x ∈ d.blocks, x.length ≤ 1000) (hl16 : ∀ x ∈ d.late, x.2.length ≤ 1000) :
    Calls Try.prog 44 #[.agg #[vb, vl], .int .i64 a, .int .i64 n, .int .i64 y] w fun e w' => ∃ v, e = .returned v ∧ DiskQ w.heap.size (d.spoil a n y) v w' ∧ Grow w w' := by
  obtain ⟨ab, cb, rfl⟩ := hb.form
  obtain ⟨al, cl, rfl⟩ := hl.form
  have gW := grow_alloc2 w (.cells #[.slice ab d.blocks.length cb, .slice al d.late.length cl] 46) (.cells #[.slice none 0 0, .slice none 0 0] 46)
  have hy := hy1 w #[.slice ab d.blocks.length cb, .slice al d.late.length cl] #[.slice none 0 0, .slice none 0 0]
  go_enter Try.func44, Try.ntmps44
  go_wp2_with fail
  refine (ownDisk_any d _ _ _ (hb.grow gW) (hl.grow gW) hlen hm hb16 hl16).mono ?_
  rintro e w1 ⟨v1, rfl, hA, g1⟩
  obtain ⟨vb1, vl1, us, C, rfl, hU, hap, hah, hC, hlt⟩ := hA
  obtain ⟨a5, c5, rfl⟩ := hU.p.form
  obtain ⟨a8, c8, rfl⟩ := hlt.form
  have g2 := grow_alloc w1 (.cells #[.slice a5 d.blocks.length c5, .slice a8 d.late.length c8] 46)
  have hxg := heap_new w1 #[.slice a5 d.blocks.length c5, .slice a8 d.late.length c8] 46
  replace hyw := ((g1.trans g2).block _ (heap_lt hy)).trans hy
  replace gW3 := gW.trans (g1.trans g2)
  replace hU := (hU.grow g2).mono (B' := w.heap.size + 1 + 1) (by simp)
  replace hlt := hlt.grow g2
  replace hC : w.heap.size + 1 + 1 ≤ C := by simp at hC; exact hC
  clear g1 g2 gW hy hb hl
  go_wp2_with fail
  refine (has_any d.blocks.length a _ _ _ _ _ _).mono ?_
  rintro e w2 ⟨rfl, g3⟩
  replace hxg := (g3.block _ (heap_lt hxg)).trans hxg
  replace hyw := (g3.block _ (heap_lt hyw)).trans hyw
  replace gW3 := gW3.trans g3
  replace hU := hU.grow g3
  replace hlt := hlt.grow g3
  clear g3
  generalize w1.heap.size = g at *
  by_cases hin : 0 ≤ a ∧ a < (d.blocks.length : Int)
  · have hh : hasB d.blocks.length a = true := by unfold hasB; simp [hin]
    rw [hh]
    have hsp : d.spoil a n y = ⟨d.blocks.set a.toNat (turned (d.blocks.getD a.toNat []) n y), d.late⟩ := by unfold Dk.spoil; rw [if_pos hin]
    obtain ⟨m, rfl⟩ := Int.eq_ofNat_of_zero_le hin.1
    have hm1 : m < d.blocks.length := by omega
    rw [Int.toNat_natCast, getD_at _ _ _ hm1] at hsp
    obtain ⟨q, cq, e5⟩ := row_some2 hU (by omega)
    cases e5
    obtain ⟨u, hu1, hu2⟩ := hU.each m hm1
    have cq := (hU.row.cellAt m (by omega)).trans hu1
    obtain ⟨au, cu, rfl⟩ := own_slice hu2
    have y0 := box_cell hxg 0 _ rfl
    have y1 := box_cell hxg 1 _ rfl
    by_cases hn : 0 ≤ n ∧ n < ((d.blocks[m]).length : Int)
    · obtain ⟨j, rfl⟩ := Int.eq_ofNat_of_zero_le hn.1
      have hj : j < (d.blocks[m]).length := by omega
      obtain ⟨p, cp, ep⟩ := row_some hu2 (by omega)
      cases ep
      have cp := hu2.cellAt j (by omega)
      have fp := hu2.frozenAt j
      have hbj : ((d.blocks[m]).map bv)[j]? = some (.int .u8 ((d.blocks[m])[j].toNat : Int)) := by simp [hj, bv]
      rw [hbj] at cp
      clear hbj
      obtain ⟨cur, hcur⟩ := own_block hu2
      have hgp : g ≠ p := by rintro rfl; rw [hxg] at hcur; cases hcur
      have hyp : w.heap.size + 1 ≠ p := by rintro rfl; rw [hyw] at hcur; cases hcur
      have hpB := (hu2.lt p rfl).1
      have hpC : p < C := hah m _ p hu1 rfl
      have HX : Hid _ := xor_u8 (d.blocks[m])[j] y
      have hcb : ((d.blocks[m])[j]).toNat < 256 := UInt8.toNat_lt _
      have hT1 := turned_map d.blocks[m] j y hj
      have hT2 := turned_length d.blocks[m] (j : Int) y
      have hU' := fun x h => OwnU.turn (j := j) (x := x) hU hap hm1 hu1 hT2 h
      replace hU' := hU' _ hT1
      rw [← HX.out] at hU'
      have hsp2 : (d.spoil (m : Int) (j : Int) y).blocks = d.blocks.set m (turned d.blocks[m] (j : Int) y) := by rw [hsp]
      have hsp3 : (d.spoil (m : Int) (j : Int) y).late = d.late := by rw [hsp]
      rw [← hsp2] at hU'
      have HL : Hid (d.late = (d.spoil (m : Int) (j : Int) y).late) := hsp3.symm
      clear hT1 hT2 hsp hsp2 hsp3 hu2 hU hcur HX
      generalize hcj : (d.blocks[m])[j] = cj at *
      clear hcj
      have hlt' : OwnLt C _ _ (w2.setCell ⟨p, j, none⟩ (.int .u8 (bits .xor .u8 (cj.toNat : Int) (y % 256)))) := hlt.turn hpC
      have hxg' : (w2.setCell ⟨p, j, none⟩ (.int .u8 (bits .xor .u8 (cj.toNat : Int) (y % 256)))).heap[g]? = _ := (Below.heap_setCell _ _ _ _ hgp).trans hxg
      have hyw' : (w2.setCell ⟨p, j, none⟩ (.int .u8 (bits .xor .u8 (cj.toNat : Int) (y % 256)))).heap[w.heap.size + 1]? = _ := (Below.heap_setCell _ _ _ _ hyp).trans hyw
      have gW3' : Grow w (w2.setCell ⟨p, j, none⟩ (.int .u8 (bits .xor .u8 (cj.toNat : Int) (y % 256)))) := grow_set gW3 (by show w.heap.size ≤ p; omega) _
      have x0 := box_cell hxg' 0 _ rfl
      have x1 := box_cell hxg' 1 _ rfl
      have z0 := box_cell hyw' 0 _ rfl
      have z1 := box_cell hyw' 1 _ rfl
      have f0 := box_frozen hyw' 0
      have f1 := box_frozen hyw' 1
      have cs := cell_set
      obtain ⟨hp1, hp2⟩ := box_put2 hyw' (.slice (some ⟨q, 0, none⟩) d.blocks.length c5) (.slice a8 d.late.length c8)
      have hstep : BoxStep 46 _ _ := .inr ⟨_, _, _, hp2, hyw', hp1, rfl⟩
      have gE := hp2.grow gW3' (by omega)
      have hE := (hU'.box hstep).mono (B' := w.heap.size) (by omega)
      have hF := (hlt'.box hstep).mono (B' := w.heap.size) (by omega)
      clear hp1 hp2 hstep hU' hlt' hlt hxg hyw gW3 gW3' hyw' hxg' hgp hyp
      go_wp2_with fail
      exact bodyPost_ret (v := .agg #[.slice (some ⟨q, 0, none⟩) d.blocks.length c5, .slice a8 d.late.length c8]) (by simp [results, Try.results44, go_sem, z0, z1, cs]) rfl ⟨_, rfl, ⟨_, _, rfl, ⟨us, hE⟩, by rw [← HL.out]; exact hF⟩, gE⟩
    · have HS : Hid (d.spoil (m : Int) n y = d) := by
        show _ = _
        rw [hsp]; unfold turned; rw [if_neg hn, List.set_getElem_self]
      clear hu2 hsp hu1
      have z0 := box_cell hyw 0 _ rfl
      have z1 := box_cell hyw 1 _ rfl
      have f0 := box_frozen hyw 0
      have f1 := box_frozen hyw 1
      have cs := cell_set
      obtain ⟨hp1, hp2⟩ := box_put2 hyw (.slice (some ⟨q, 0, none⟩) d.blocks.length c5) (.slice a8 d.late.length c8)
      have hstep : BoxStep 46 _ _ := .inr ⟨_, _, _, hp2, hyw, hp1, rfl⟩
      have gE := hp2.grow gW3 (by omega)
      have hE := (hU.box hstep).mono (B' := w.heap.size) (by omega)
      have hF := (hlt.box hstep).mono (B' := w.heap.size) (by omega)
      clear hp1 hp2 hstep hU hlt hxg hyw gW3
      have hcase : n < 0 ∨ (0 ≤ n ∧ ¬ n < ((d.blocks[m]).length : Int)) := by omega
      clear hn
      rcases hcase with h1 | ⟨h1, h2⟩
      all_goals
        go_wp2_with fail
        exact bodyPost_ret (v := .agg #[.slice (some ⟨q, 0, none⟩) d.blocks.length c5, .slice a8 d.late.length c8]) (by simp [results, Try.results44, go_sem, z0, z1, cs]) rfl ⟨_, rfl, by rw [HS.out]; exact ⟨_, _, rfl, ⟨us, hE⟩, hF⟩, gE⟩
  · have hh : hasB d.blocks.length a = false := by unfold hasB; simp; omega
    rw [hh]
    have HS : Hid (d.spoil a n y = d) := by show d.spoil a n y = d; unfold Dk.spoil; rw [if_neg hin]
    clear hin hh
    have y0 := box_cell hxg 0 _ rfl
    have y1 := box_cell hxg 1 _ rfl
    have z0 := box_cell hyw 0 _ rfl
    have z1 := box_cell hyw 1 _ rfl
    have f0 := box_frozen hyw 0
    have f1 := box_frozen hyw 1
    have cs := cell_set
    obtain ⟨hp1, hp2⟩ := box_put2 hyw (.slice a5 d.blocks.length c5) (.slice a8 d.late.length c8)
    have hstep : BoxStep 46 _ _ := .inr ⟨_, _, _, hp2, hyw, hp1, rfl⟩
    have gE := hp2.grow gW3 (by omega)
    have hE := (hU.box hstep).mono (B' := w.heap.size) (by omega)
    have hF := (hlt.box hstep).mono (B' := w.heap.size) (by omega)
    clear hp1 hp2 hstep hU hlt hxg hyw gW3
    go_wp2_with fail
    exact bodyPost_ret (v := .agg #[.slice a5 d.blocks.length c5, .slice a8 d.late.length c8]) (by simp [results, Try.results44, go_sem, z0, z1, cs]) rfl ⟨_, rfl, by rw [HS.out]; exact ⟨_, _, rfl, ⟨us, hE⟩, hF⟩, gE⟩
end Go.Proofs.Ytobhchebggaipaa
