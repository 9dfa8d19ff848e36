/-
  What the document's Flush makes of a disk.
  Condition: the disk lies in memory, of at most 256 blocks, writes of no place below nought.
-/
import Derived.Test.YtgpfflfdigekeaaROut
namespace Go.Proofs.Ytgpfflfdigekeaa
set_option maxRecDepth 100000
open Go.RowKit
open Go.Proofs.Ytgpfflfdigekeaa.Plain Go.Proofs.Ytgpfflfdigekeaa.Reg

def FlushL (S : Nat → Prop) (d : Dk) (w : World) (c : Array Value) (k : Nat) (wr : World) : Prop :=
  Grow w wr ∧ wr.heap[w.heap.size]? = some (.cells c 46 (0, 0)) ∧ wr.heap[w.heap.size + 1]? = some (.cells #[.slice none 0 0, .slice none 0 0] 46 (0, 0)) ∧
    OutB S (w.heap.size + 1 + 1 + 1) (w.heap.size + 1 + 1) (.slice none 0 0) ((List.range k).map fun (i : Nat) => (d.get (i : Int)).getD []) wr
theorem FlushL.grow {S : Nat → Prop} {d : Dk} {w : World} {c : Array Value} {k : Nat} {wr w' : World} (h : FlushL S d w c k wr) (hg : Grow wr w') : FlushL S d w c k w' :=
  ⟨h.1.trans hg, (hg.block _ (heap_lt h.2.1)).trans h.2.1, (hg.block _ (heap_lt h.2.2.1)).trans h.2.2.1, h.2.2.2.grow hg⟩

set_option maxHeartbeats 2000000 in
theorem flush_any (S : Nat → Prop) (d : Dk) (vb vl : Value) (w : World) (hS : ∀ b, S b → b < w.heap.size) (hb : BlocksS S w vb d.blocks) (hl : LateS S w vl d.late) (hlen : d.blocks.length ≤ 256) (hm : d.late.length ≤ 999990) (hp : ∀ x ∈ d.late, 0 ≤ x.1) :
    Calls Try.prog 45 #[.agg #[vb, vl]] w fun e w' => ∃ vb', e = .returned (.agg #[vb', .slice none 0 0]) ∧ BlocksS (Upon S w.heap.size) w' vb' d.flush.blocks ∧ Grow w w' := by
  obtain ⟨ab, cb, rfl⟩ := hb.p.form
  obtain ⟨al, cl, rfl⟩ := hl.p.form
  have HF : Hid (d.flush.blocks = (List.range d.blocks.length).map fun (i : Nat) => (d.get (i : Int)).getD []) := d.flush_map hp
  obtain ⟨i0, hif, hz0, hz1, hz2⟩ := info_parts info_bytes
  go_enter Try.func45, Try.ntmps45
  go_wp2_with fail
  have hstart : FlushL S d w #[.slice ab d.blocks.length cb, .slice al d.late.length cl] 0 (((w.alloc (.cells #[.slice ab d.blocks.length cb, .slice al d.late.length cl] 46)).alloc (.cells #[.slice none 0 0, .slice none 0 0] 46)).alloc (.cells #[.slice none 0 0, .slice none 0 0] 46)) := by
    refine ⟨(grow_alloc2 _ _ _).trans (grow_alloc _ _), ((grow_alloc _ _).block _ (by simp; omega)).trans (hx1 _ _ _), ((grow_alloc _ _).block _ (by simp)).trans (hy1 _ _ _), OutB.start ?_⟩
    have h := heap_new ((w.alloc (.cells #[.slice ab d.blocks.length cb, .slice al d.late.length cl] 46)).alloc (.cells #[.slice none 0 0, .slice none 0 0] 46)) #[.slice none 0 0, .slice none 0 0] 46
    rw [World.size_alloc, World.size_alloc] at h
    exact h
  generalize World.alloc (World.alloc (World.alloc w _) _) _ = W at *
  go_loopw [11] (fun i wr => ∃ k : Nat, k ≤ d.blocks.length ∧ i = .int .i64 k ∧ FlushL S d w #[.slice ab d.blocks.length cb, .slice al d.late.length cl] k wr) (fun i _ => d.blocks.length - (intOf i).toNat)
  case atStart => exact ⟨0, Nat.zero_le _, rfl, hstart⟩
  case round =>
    clear hstart
    obtain ⟨k, hk, rfl, hL⟩ := hrel
    by_cases hlt : k < d.blocks.length
    · have x0 := box_cell hL.2.1 0 _ rfl
      have x1 := box_cell hL.2.1 1 _ rfl
      go_wp2_with fail
      refine (getBlock_any S d (k : Int) _ _ _ (hb.grow hL.1) (hl.grow hL.1) (by omega)).mono ?_
      rintro e w1 ⟨v1, rfl, hv1, g1⟩
      have hL1 := hL.grow g1
      clear x0 x1 g1 hL
      obtain ⟨gL, hLd, hLr, v, us, h3, h4, h5, h6⟩ := hL1
      have hlr : ((List.range k).map fun (i : Nat) => (d.get (i : Int)).getD []).length = k := by simp
      have HBS : Hid (((List.range k).map fun (i : Nat) => (d.get (i : Int)).getD []) ++ [(d.get (k : Int)).getD []] = (List.range (k + 1)).map fun (i : Nat) => (d.get (i : Int)).getD []) := by show _ ++ _ = _; rw [List.range_succ]; simp
      generalize ((List.range k).map fun (i : Nat) => (d.get (i : Int)).getD []) = bs at *
      subst hlr
      generalize (d.get (bs.length : Int)).getD [] = b1 at *
      obtain ⟨a1, c1, rfl, -, -⟩ := bytes_src hv1.p
      obtain ⟨av, cv, rfl⟩ := own_slice2 h6
      have y0 := box_cell h3 0 _ rfl
      have hgs : w.heap.size + 1 + 1 < w1.heap.size := heap_lt h3
      go_wp2_with (first
        | (at_builtin; refine wpList_append_own _ rfl (.tmp 21) (.tmp 23) 43 rfl (w.heap.size + 1 + 1 + 1) 22 i0 (.slice none 0 0) 1 24 Try.underlying43 hif hz0 hz1 hz2 rfl (by decide) (.slice av bs.length cv) bs.length us rfl (h6.alloc _) ⟨w1.heap.size, 0, none⟩ 1 1 [.slice a1 b1.length c1] rfl rfl (fun j u hj => news_one w1 _ _ j u hj) (by intro u hu; simp at hu; subst hu; rfl) (by unfold maxLen; omega) (by omega) (by simp; omega) ?_; intro v3 w3 hown3 hgrow3 _; have hb3 := out_box h6 (by decide) h3 hgrow3; have f0 := box_frozen hb3 0; have hst := OutB.step h3 h4 h5 h6 (fun b h => by have := hS b h; omega) (by omega) (hv1.mono (fun _ h => .inl h)) hgrow3 hown3; have hsl := own_slice2 hown3; obtain ⟨a3, c3, hv3⟩ := hsl; subst hv3; have y3 := box_cell hb3 0 _ rfl; have cs := cell_set; clear y0))
      go_roundw
      case rel =>
        have hBx := out_below hgs h6 hgrow3
        have hB2 : Below (w.heap.size + 1 + 1) w1 (w3.setCell ⟨w.heap.size + 1 + 1, 0, none⟩ (.slice a3 (bs.length + 1) c3)) := Below.setCell (hBx.mono (by omega)) (by show w.heap.size + 1 + 1 ≤ w.heap.size + 1 + 1; omega) _
        refine ⟨bs.length + 1, by omega, by simp, Below.trans gL (hB2.mono (by omega)), (hB2.block _ (by omega)).trans hLd, (hB2.block _ (by omega)).trans hLr, by rw [← HBS.out]; exact hst⟩
      case measure => simp [intOf]; omega
    · have hk' : k = d.blocks.length := by omega
      subst hk'
      obtain ⟨vo, hbo, hbs⟩ := hL.2.2.2.blocks
      obtain ⟨ao, co, rfl⟩ := hbs.p.form
      have x0 := box_cell hbo 0 _ rfl
      have x1 := box_cell hbo 1 _ rfl
      have y0 := box_cell hL.2.2.1 0 _ rfl
      have y1 := box_cell hL.2.2.1 1 _ rfl
      have f0 := box_frozen hL.2.2.1 0
      have f1 := box_frozen hL.2.2.1 1
      have cs := cell_set
      rename_i wr _
      obtain ⟨hq1, hq2⟩ := box_put2 hL.2.2.1 (.slice ao (((List.range d.blocks.length).map fun (i : Nat) => (d.get (i : Int)).getD []).length) co) (.slice none 0 0)
      have gE := hq2.grow hL.1 (by omega)
      have hbE := (hbs.but hq2 (by rintro (h | h); · have := hS _ h; omega
                                   · omega)).mono (upon_le (B := w.heap.size) (by omega))
      rw [← HF.out, Dk.flush_length] at hbE gE
      clear hq1 hq2 hbs hbo hL hlt hb hl
      go_wp2_with fail
      exact bodyPost_ret (v := .agg #[.slice ao d.blocks.length co, .slice none 0 0]) (by simp [results, Try.results45, go_sem, y0, y1, cs]) rfl ⟨_, rfl, hbE, gE⟩
end Go.Proofs.Ytgpfflfdigekeaa
