/-
  What the program's disk.Put makes of a disk.
  Condition: the disk lies in memory, of at most 256 blocks and 1000 writes, of at most 1000 bytes; the bytes that are put do.
-/
import Derived.Test.YtgpfflfdigekeaaPOwn
import Derived.Test.YtgpfflfdigekeaaPGet
namespace Go.Proofs.Ytgpfflfdigekeaa
set_option maxRecDepth 100000
open Go.RowKit
open Go.Proofs.Ytgpfflfdigekeaa.Plain Go.Proofs.Ytgpfflfdigekeaa.Reg

/-- A row stays while another one, of another type, grows. -/
theorem own_grown {w w3 : World} {B base n m size sz : Nat} {e T : TypeId} {v u : Value} {xs ys : List Value} {o : Obj} (hrow : w.ownsRow B T size v n xs) (hg : (w.alloc o).grownBy w3 v.ownBlock) (hT : e ≠ T) (h : w.ownsRow base e sz u m ys) : w3.ownsRow base e sz u m ys := by
  refine ⟨h.1, or_map h.2 (fun x => x) fun ⟨q, cap, cur, h1, h2, h3, r⟩ => ⟨q, cap, cur, h1, h2, ?_, r⟩⟩
  have hq := heap_lt h3
  rw [hg.block q (by simp; omega) ?_, (grow_alloc w o).block q hq]
  · exact h3
  · rcases hrow.2 with ⟨rfl, _⟩ | ⟨g, cap', cur', rfl, _, hh, _⟩
    · simp [Value.ownBlock]
    · intro e1
      simp [Value.ownBlock] at e1
      subst e1
      rw [h3] at hh; cases hh; exact hT rfl


theorem grown_below {B n size : Nat} {e : TypeId} {v : Value} {us : List Value} {w w3 : World} {o : Obj} (hle : B ≤ w.heap.size) (hown : w.ownsRow B e size v n us) (hg : (w.alloc o).grownBy w3 v.ownBlock) : Below B w w3 :=
  Below.grown (Below.alloc (Below.refl _ _) hle o) hg (by simp; omega) (fun k hk => (hown.lt k hk).1)

theorem each_grown {w w3 : World} {B : Nat} {v : Value} {ws : List Wr} {us : List Value} {o : Obj} (h : OwnL B v ws us w) (hg : (w.alloc o).grownBy w3 v.ownBlock) : ∀ i (hi : i < ws.length), ∃ u, us[i]? = some u ∧ w3.ownsRow B 5 1 u ws[i].2.length (ws[i].2.map bv) :=
  fun i hi => (h.each i hi).imp fun _ hu => ⟨hu.1, own_grown h.row hg (by decide) hu.2⟩

set_option maxHeartbeats 2000000 in
theorem put_no (d : Dk) (a : Int) (l : List UInt8) (vb vl v : Value) (w : World) (hb : BlocksP w vb d.blocks) (hl : LateP w vl d.late) (hv : Bytes w v l) (hlen : d.blocks.length ≤ 256) (hm : d.late.length ≤ 1000) (hb16 : ∀ x ∈ d.blocks, x.length ≤ 1000) (hl16 : ∀ x ∈ d.late, x.2.length ≤ 1000) (hn : a < 0 ∨ (d.blocks.length : Int) ≤ a ∨ l.length ≠ 16) :
    Calls Try.prog 37 #[.agg #[vb, vl], .int .i64 a, v] w fun e w' => ∃ v', e = .returned (.tuple #[v', .int .i64 (d.putE a l)]) ∧ DiskQ w.heap.size d v' w' ∧ Grow w w' := by
  obtain ⟨ab, cb, rfl⟩ := hb.form
  obtain ⟨al, cl, rfl⟩ := hl.form
  obtain ⟨av, cv, rfl, -, -⟩ := bytes_src hv
  have gW := grow_alloc2 w (.cells #[.slice ab d.blocks.length cb, .slice al d.late.length cl] 46) (.cells #[.slice none 0 0, .slice none 0 0] 46)
  have hx := hx1 w #[.slice ab d.blocks.length cb, .slice al d.late.length cl] #[.slice none 0 0, .slice none 0 0]
  have hy := hy1 w #[.slice ab d.blocks.length cb, .slice al d.late.length cl] #[.slice none 0 0, .slice none 0 0]
  by_cases hout : a < 0 ∨ (d.blocks.length : Int) ≤ a
  · have HE : Hid (d.putE a l = 3) := by show d.putE a l = 3; unfold Dk.putE; rw [if_pos hout]
    have HH : Hid (hasB d.blocks.length a = false) := by show hasB _ a = false; unfold hasB; simp; omega
    rw [HE.out]
    clear hn hout hv
    go_enter Try.func37, Try.ntmps37
    go_wp2_with fail
    refine (has_any d.blocks.length a _ _ _ _ _ _).mono ?_
    rw [HH.out]
    rintro e w1 ⟨rfl, g1⟩
    have gW1 := gW.trans g1
    have hxw1 := (g1.block _ (heap_lt hx)).trans hx
    have hyw1 := (g1.block _ (heap_lt hy)).trans hy
    have x0 := box_cell hxw1 0 _ rfl
    have x1 := box_cell hxw1 1 _ rfl
    clear hx hy g1 gW hxw1
    go_wp2_with fail
    clear x0 x1
    refine (ownDisk_any d _ _ _ (hb.grow gW1) (hl.grow gW1) hlen hm hb16 hl16).mono ?_
    rintro e w2 ⟨v2, rfl, hA, g2⟩
    obtain ⟨vb2, vl2, rfl, ⟨us, ho⟩, hlt⟩ := hA.q
    obtain ⟨a5, c5, rfl⟩ := ho.p.form
    obtain ⟨a8, c8, rfl⟩ := hlt.form
    have hyw := (g2.block _ (heap_lt hyw1)).trans hyw1
    have gw2 := gW1.trans g2
    have hz := heap_lt hyw1
    obtain ⟨hp1, hp2⟩ := box_put2 hyw (.slice a5 d.blocks.length c5) (.slice a8 d.late.length c8)
    have hstep : BoxStep 46 w2 _ := .inr ⟨_, _, _, hp2, hyw, hp1, rfl⟩
    have gE := hp2.grow gw2 (by omega)
    have y0 := box_cell hyw 0 _ rfl
    have y1 := box_cell hyw 1 _ rfl
    have f0 := box_frozen hyw 0
    have f1 := box_frozen hyw 1
    have cs := cell_set
    have hE : OwnBs w.heap.size (.slice a5 d.blocks.length c5) d.blocks _ := ⟨us, (ho.box hstep).mono (by omega)⟩
    have hF := (hlt.box hstep).mono (B' := w.heap.size) (by omega)
    clear hp1 hp2 hstep ho hlt gw2 g2 gW1 hyw hyw1 hb hl hA
    go_wp2_with fail
    exact bodyPost_ret (v := .tuple #[.agg #[.slice a5 d.blocks.length c5, .slice a8 d.late.length c8], .int .i64 3]) (by simp [results, Try.results37, go_sem, y0, y1, cs]) rfl ⟨_, rfl, ⟨_, _, rfl, hE, hF⟩, gE⟩
  · have h16 : l.length ≠ 16 := by omega
    have HE : Hid (d.putE a l = 2) := by show d.putE a l = 2; unfold Dk.putE; rw [if_neg hout, if_pos h16]
    have HH : Hid (hasB d.blocks.length a = true) := by show hasB _ a = true; unfold hasB; simp; omega
    have d0 : ((l.length : Int) != 16) = true := by simp; omega
    rw [HE.out]
    clear hn hout hv h16
    go_enter Try.func37, Try.ntmps37
    go_wp2_with fail
    refine (has_any d.blocks.length a _ _ _ _ _ _).mono ?_
    rw [HH.out]
    rintro e w1 ⟨rfl, g1⟩
    have gW1 := gW.trans g1
    have hxw1 := (g1.block _ (heap_lt hx)).trans hx
    have hyw1 := (g1.block _ (heap_lt hy)).trans hy
    have x0 := box_cell hxw1 0 _ rfl
    have x1 := box_cell hxw1 1 _ rfl
    clear hx hy g1 gW hxw1
    go_wp2_with fail
    clear x0 x1
    refine (ownDisk_any d _ _ _ (hb.grow gW1) (hl.grow gW1) hlen hm hb16 hl16).mono ?_
    rintro e w2 ⟨v2, rfl, hA, g2⟩
    obtain ⟨vb2, vl2, rfl, ⟨us, ho⟩, hlt⟩ := hA.q
    obtain ⟨a5, c5, rfl⟩ := ho.p.form
    obtain ⟨a8, c8, rfl⟩ := hlt.form
    have hyw := (g2.block _ (heap_lt hyw1)).trans hyw1
    have gw2 := gW1.trans g2
    have hz := heap_lt hyw1
    obtain ⟨hp1, hp2⟩ := box_put2 hyw (.slice a5 d.blocks.length c5) (.slice a8 d.late.length c8)
    have hstep : BoxStep 46 w2 _ := .inr ⟨_, _, _, hp2, hyw, hp1, rfl⟩
    have gE := hp2.grow gw2 (by omega)
    have y0 := box_cell hyw 0 _ rfl
    have y1 := box_cell hyw 1 _ rfl
    have f0 := box_frozen hyw 0
    have f1 := box_frozen hyw 1
    have cs := cell_set
    have hE : OwnBs w.heap.size (.slice a5 d.blocks.length c5) d.blocks _ := ⟨us, (ho.box hstep).mono (by omega)⟩
    have hF := (hlt.box hstep).mono (B' := w.heap.size) (by omega)
    clear hp1 hp2 hstep ho hlt gw2 g2 gW1 hyw hyw1 hb hl hA
    go_wp2_with fail
    exact bodyPost_ret (v := .tuple #[.agg #[.slice a5 d.blocks.length c5, .slice a8 d.late.length c8], .int .i64 2]) (by simp [results, Try.results37, go_sem, y0, y1, cs]) rfl ⟨_, rfl, ⟨_, _, rfl, hE, hF⟩, gE⟩

set_option maxHeartbeats 4000000 in
theorem put_yes (d : Dk) (a : Int) (l : List UInt8) (vb vl v : Value) (w : World) (hb : BlocksP w vb d.blocks) (hl : LateP w vl d.late) (hv : Bytes w v l) (hlen : d.blocks.length ≤ 256) (hm : d.late.length ≤ 1000) (hb16 : ∀ x ∈ d.blocks, x.length ≤ 1000) (hl16 : ∀ x ∈ d.late, x.2.length ≤ 1000) (h0 : 0 ≤ a) (h1 : a < (d.blocks.length : Int)) (h16 : l.length = 16) :
    Calls Try.prog 37 #[.agg #[vb, vl], .int .i64 a, v] w fun e w' => ∃ v', e = .returned (.tuple #[v', .int .i64 0]) ∧ DiskQ w.heap.size (d.put a l) v' w' ∧ Grow w w' := by
  obtain ⟨ab, cb, rfl⟩ := hb.form
  obtain ⟨al, cl, rfl⟩ := hl.form
  obtain ⟨av, cv, rfl, -, -⟩ := bytes_src hv
  have gW := grow_alloc2 w (.cells #[.slice ab d.blocks.length cb, .slice al d.late.length cl] 46) (.cells #[.slice none 0 0, .slice none 0 0] 46)
  have hx := hx1 w #[.slice ab d.blocks.length cb, .slice al d.late.length cl] #[.slice none 0 0, .slice none 0 0]
  have hy := hy1 w #[.slice ab d.blocks.length cb, .slice al d.late.length cl] #[.slice none 0 0, .slice none 0 0]
  obtain ⟨i0, hif, hz0, hz1, hz2⟩ := info_parts info_write
  have HH : Hid (hasB d.blocks.length a = true) := by show hasB _ a = true; unfold hasB; simp; omega
  have d0 : ((l.length : Int) != 16) = false := by simp [h16]
  have hl9 : l.length ≤ 140737488355328 := by omega
  clear h16 h0 h1
  go_enter Try.func37, Try.ntmps37
  go_wp2_with fail
  refine (has_any d.blocks.length a _ _ _ _ _ _).mono ?_
  rw [HH.out]
  rintro e w1 ⟨rfl, g1⟩
  have gW1 := gW.trans g1
  have hxw1 := (g1.block _ (heap_lt hx)).trans hx
  have hyw1 := (g1.block _ (heap_lt hy)).trans hy
  have x0 := box_cell hxw1 0 _ rfl
  have x1 := box_cell hxw1 1 _ rfl
  have hzs := heap_lt hyw1
  clear hx hy g1 gW
  go_wp2_with fail
  clear x0 x1
  refine (ownWrites_any d.late 1 1 rfl _ _ (hl.grow gW1) hm (by omega) hl16).mono ?_
  rintro e w2 ⟨v2, rfl, ⟨us, hL⟩, g2⟩
  obtain ⟨a8, c8, rfl⟩ := hL.p.form
  go_wp2_with fail
  refine (clone_any l _ _ hl9 (bytes_grow hv (gW1.trans g2))).mono ?_
  rintro e w3 ⟨v3, rfl, ho3, g3⟩
  obtain ⟨a3, c3, rfl⟩ := own_slice ho3
  have hL3 := (hL.grow g3).mono (B' := w.heap.size + 1 + 1) (by omega)
  have ho3' := own_mono ho3 (base' := w.heap.size + 1 + 1) (by have := g2.size; omega)
  have gw3 := gW1.trans (g2.trans g3)
  have hxw3 := ((g2.trans g3).block _ (heap_lt hxw1)).trans hxw1
  have hyw3 := ((g2.trans g3).block _ (heap_lt hyw1)).trans hyw1
  have hz3 : w.heap.size + 1 < w3.heap.size := heap_lt hyw3
  clear hL ho3 g2 g3 hxw1 hyw1 gW1
  go_wp2_with (first
    | (at_builtin; refine wpList_append_own _ rfl (.tmp 24) (.tmp 29) 44 rfl (w.heap.size + 1 + 1) 60 i0 (.agg #[.int .i64 0, .slice none 0 0]) 2 32 Try.underlying44 hif hz0 hz1 hz2 rfl (by decide) (.slice a8 d.late.length c8) d.late.length (flat d.late us) rfl (hL3.row.alloc _) ⟨w3.heap.size, 0, none⟩ 1 1 [.int .i64 a, .slice a3 l.length c3] rfl rfl (fun j u hj => news_two w3 _ _ _ j u hj) (by intro u hu; simp at hu; rcases hu with rfl | rfl <;> rfl) (by unfold maxLen; omega) (by omega) (by simp; omega) ?_; intro v4 w4 hown4 hgrow4 _; have hsl := own_slice2 hown4; obtain ⟨a4, c4, hv4⟩ := hsl; subst hv4; have g34 : Grow w w4 := grow_of_grown (gw3.trans (grow_alloc _ _)) hgrow4 (fun k hk => by have := (hL3.row.lt k hk).1; omega); have hB4 := grown_below (by omega) hL3.row hgrow4; have hxw4 := (hB4.block _ (by omega)).trans hxw3; have hyw4 := (hB4.block _ (by omega)).trans hyw3; have x0 := box_cell hxw4 0 _ rfl; have hO4 := own_grown hL3.row hgrow4 (e := 5) (by decide) ho3'; have hE4 := each_grown hL3 hgrow4))
  have hS := OwnL.snoc (x := (a, l)) hL3.len hown4 hE4 hO4
  clear hL3 hown4 hE4 hO4 ho3' hB4 hgrow4 hxw3 hyw3 x0
  refine (ownBlocks_any d.blocks _ _ (hb.grow g34) hlen hb16).mono ?_
  rintro e w5 ⟨v5, us5, rfl, ho5, -, g5⟩
  obtain ⟨a5, c5, rfl⟩ := ho5.p.form
  have hyw5 := (g5.block _ (heap_lt hyw4)).trans hyw4
  have gw5 := g34.trans g5
  obtain ⟨hp1, hp2⟩ := box_put2 hyw5 (.slice a5 d.blocks.length c5) (.slice a4 (d.late.length + 1) c4)
  have hstep : BoxStep 46 w5 _ := .inr ⟨_, _, _, hp2, hyw5, hp1, rfl⟩
  have gE := hp2.grow gw5 (by omega)
  have y0 := box_cell hyw5 0 _ rfl
  have y1 := box_cell hyw5 1 _ rfl
  have f0 := box_frozen hyw5 0
  have f1 := box_frozen hyw5 1
  have cs := cell_set
  have hE : OwnBs w.heap.size (.slice a5 d.blocks.length c5) d.blocks _ := ⟨us5, (ho5.box hstep).mono g34.size⟩
  have hF : OwnLt w.heap.size (.slice a4 (d.late.length + 1) c4) (d.late ++ [(a, l)]) _ := ⟨_, ((hS.grow g5).box hstep).mono (by omega)⟩
  clear hp1 hp2 hstep ho5 hS gw5 g5 g34 hyw5 hyw4 hxw4 hb hl hv
  go_wp2_with fail
  exact bodyPost_ret (v := .tuple #[.agg #[.slice a5 d.blocks.length c5, .slice a4 (d.late.length + 1) c4], .int .i64 0]) (by simp [results, Try.results37, go_sem, y0, y1, cs]) rfl ⟨_, rfl, ⟨_, _, rfl, hE, hF⟩, gE⟩

theorem put_any (d : Dk) (a : Int) (l : List UInt8) (vb vl v : Value) (w : World) (hb : BlocksP w vb d.blocks) (hl : LateP w vl d.late) (hv : Bytes w v l) (hlen : d.blocks.length ≤ 256) (hm : d.late.length ≤ 1000) (hb16 : ∀ x ∈ d.blocks, x.length ≤ 1000) (hl16 : ∀ x ∈ d.late, x.2.length ≤ 1000) :
    Calls Try.prog 37 #[.agg #[vb, vl], .int .i64 a, v] w fun e w' => ∃ v', e = .returned (.tuple #[v', .int .i64 (d.putE a l)]) ∧ DiskQ w.heap.size (d.putD a l) v' w' ∧ Grow w w' := by
  by_cases h : 0 ≤ a ∧ a < (d.blocks.length : Int) ∧ l.length = 16
  · obtain ⟨h0, h1, h16⟩ := h
    have he : d.putE a l = 0 := by unfold Dk.putE; rw [if_neg (by omega), if_neg (by omega)]
    have hd : d.putD a l = d.put a l := by unfold Dk.putD; rw [if_pos he]
    rw [he, hd]
    exact put_yes d a l vb vl v w hb hl hv hlen hm hb16 hl16 h0 h1 h16
  · have he : d.putE a l ≠ 0 := by
      unfold Dk.putE
      by_cases ho : a < 0 ∨ (d.blocks.length : Int) ≤ a
      · rw [if_pos ho]; omega
      · rw [if_neg ho, if_pos (by omega)]; omega
    have hd : d.putD a l = d := by unfold Dk.putD; rw [if_neg he]
    rw [hd]
    exact put_no d a l vb vl v w hb hl hv hlen hm hb16 hl16 (by omega)
end Go.Proofs.Ytgpfflfdigekeaa
