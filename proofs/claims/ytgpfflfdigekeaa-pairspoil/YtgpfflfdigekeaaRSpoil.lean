/-
  What the document's Spoil makes of a disk.
  Condition: the disk lies in memory, of at most 256 blocks of at most 1000 bytes.
-/
import Derived.Test.YtgpfflfdigekeaaRKeep
namespace Go.Proofs.Ytgpfflfdigekeaa
set_option maxRecDepth 100000
open Go.RowKit
open Go.Proofs.Ytgpfflfdigekeaa.Plain Go.Proofs.Ytgpfflfdigekeaa.Reg

theorem and_255 (y : Int) : bits .and .i64 y 255 = y % 256 := by
  have e1 : (BitVec.ofInt 64 y).toNat = (y % 18446744073709551616).toNat := by simp [BitVec.toNat_ofInt]
  have e2 : (BitVec.ofInt 64 255).toNat = 255 := by decide
  show IntKind.i64.wrap ((BitVec.ofInt 64 y &&& BitVec.ofInt 64 255).toNat : Int) = _
  rw [BitVec.toNat_and, e1, e2, Nat.and_two_pow_sub_one_eq_mod _ 8, IntKind.wrap_i64]
  omega
theorem xor_i64 (a b : Nat) (ha : a < 256) (hb : b < 256) : bits .xor .i64 (a : Int) (b : Int) = ((a ^^^ b : Nat) : Int) := by
  have hx : a ^^^ b < 2 ^ 8 := Nat.xor_lt_two_pow (by omega) (by omega)
  have e1 : (BitVec.ofInt 64 (a : Int)).toNat = a := by
    rw [BitVec.ofInt_natCast, BitVec.toNat_ofNat]; exact Nat.mod_eq_of_lt (by omega)
  have e2 : (BitVec.ofInt 64 (b : Int)).toNat = b := by
    rw [BitVec.ofInt_natCast, BitVec.toNat_ofNat]; exact Nat.mod_eq_of_lt (by omega)
  show IntKind.i64.wrap ((BitVec.ofInt 64 (a : Int) ^^^ BitVec.ofInt 64 (b : Int)).toNat : Int) = _
  rw [BitVec.toNat_xor, e1, e2, IntKind.wrap_i64]
  omega
/-- The document's way: block by block. -/
theorem Dk.spoil_map (d : Dk) (a n y : Int) : (d.spoil a n y).blocks = (List.range d.blocks.length).map fun (i : Nat) => if (i : Int) = a then turned (d.blocks.getD i []) n y else d.blocks.getD i [] := by
  unfold Dk.spoil
  refine List.ext_getElem (by split <;> simp) fun i h1 h2 => ?_
  have hi : i < d.blocks.length := by simpa using h2
  rw [List.getElem_map, List.getElem_range]
  by_cases ha : 0 ≤ a ∧ a < (d.blocks.length : Int)
  · simp only [if_pos ha]
    by_cases e : (i : Int) = a
    · subst e; simp
    · rw [List.getElem_set_ne (by omega), if_neg e, getD_at _ _ _ hi]
  · have e : ¬ (i : Int) = a := by omega
    simp only [if_neg ha, if_neg e]
    rw [getD_at _ _ _ hi]

def SpoilL (S : Nat → Prop) (d : Dk) (a n y : Int) (w : World) (c : Array Value) (lv : Value) (k : Nat) (wr : World) : Prop :=
  Grow w wr ∧ wr.heap[w.heap.size]? = some (.cells c 46 (0, 0)) ∧ wr.heap[w.heap.size + 1]? = some (.cells #[.slice none 0 0, .slice none 0 0] 46 (0, 0)) ∧
    OutB S (w.heap.size + 1 + 1 + 1) (w.heap.size + 1 + 1) lv ((List.range k).map fun (i : Nat) => if (i : Int) = a then turned (d.blocks.getD i []) n y else d.blocks.getD i []) wr
theorem SpoilL.grow {S : Nat → Prop} {d : Dk} {a n y : Int} {w : World} {c : Array Value} {lv : Value} {k : Nat} {wr w' : World} (h : SpoilL S d a n y w c lv k wr) (hg : Grow wr w') : SpoilL S d a n y w c lv k w' :=
  ⟨h.1.trans hg, (hg.block _ (heap_lt h.2.1)).trans h.2.1, (hg.block _ (heap_lt h.2.2.1)).trans h.2.2.1, h.2.2.2.grow hg⟩

theorem turned_map (l : List UInt8) (m : Nat) (y : Int) (hm : m < l.length) : (l.map bv).set m (.int .u8 ((l[m] ^^^ lo y).toNat : Int)) = (turned l (m : Int) y).map bv := by
  unfold turned
  rw [if_pos (by omega), show ((m : Int)).toNat = m from by omega, getD_at _ _ _ hm, List.map_set]; rfl
theorem turned_length (l : List UInt8) (n y : Int) : (turned l n y).length = l.length := by unfold turned; split <;> simp

theorem turn_byte2 (c : UInt8) (y : Int) : bits .xor .i64 (c.toNat : Int) (bits .and .i64 y 255) % 256 = ((c ^^^ lo y).toNat : Int) := by
  rw [and_255, ← lo_val y, xor_i64 _ _ (UInt8.toNat_lt _) (UInt8.toNat_lt _), UInt8.toNat_xor]
  have hx : c.toNat ^^^ (lo y).toNat < 2 ^ 8 := Nat.xor_lt_two_pow (UInt8.toNat_lt _) (UInt8.toNat_lt _)
  omega
theorem spoil_row {w : World} {base m : Nat} {v : Value} {lb lt : List UInt8} {x c : Int} (hL : lt.length = lb.length) (hM : (lb.map bv).set m (.int .u8 c) = lt.map bv) (hx : x = c) (h : w.ownsRow base 5 1 v lb.length ((lb.map bv).set m (.int .u8 x))) : w.ownsRow base 5 1 v lt.length (lt.map bv) := by
  rw [hL, ← hM, ← hx]; exact h
theorem row_some {w : World} {base n : Nat} {e : TypeId} {v : Value} {xs : List Value} (h : w.ownsRow base e 1 v n xs) (hn : 0 < n) : ∃ q cap, v = .slice (some ⟨q, 0, none⟩) n cap := by
  rcases h.2 with ⟨_, e⟩ | ⟨q, cap, cur, e, _⟩
  · omega
  · exact ⟨q, cap, e⟩

set_option maxHeartbeats 2000000 in
theorem spoil_any (S : Nat → Prop) (d : Dk) (a n y : Int) (vb vl : Value) (w : World) (hS : ∀ b, S b → b < w.heap.size) (hb : BlocksS S w vb d.blocks) (hl : LateS S w vl d.late) (hlen : d.blocks.length ≤ 256) (h16 : ∀ x ∈ d.blocks, x.length ≤ 1000) :
    Calls Try.prog 47 #[.agg #[vb, vl], .int .i64 a, .int .i64 n, .int .i64 y] w fun e w' => ∃ vb', e = .returned (.agg #[vb', vl]) ∧ BlocksS (Upon S w.heap.size) w' vb' (d.spoil a n y).blocks ∧ Grow w w' := by
  obtain ⟨ab, cb, rfl⟩ := hb.p.form
  obtain ⟨al, cl, rfl⟩ := hl.p.form
  clear hl
  have HF : Hid _ := d.spoil_map a n y
  obtain ⟨i0, hif, hz0, hz1, hz2⟩ := info_parts info_bytes
  obtain ⟨j0, hjf, hj0, hj1, hj2⟩ := info_parts info_byte
  go_enter Try.func47, Try.ntmps47
  go_wp2_with fail
  have hstart : SpoilL S d a n y w #[.slice ab d.blocks.length cb, .slice al d.late.length cl] (.slice al d.late.length cl) 0 (((w.alloc (.cells #[.slice ab d.blocks.length cb, .slice al d.late.length cl] 46)).alloc (.cells #[.slice none 0 0, .slice none 0 0] 46)).alloc (.cells #[.slice none 0 0, .slice al d.late.length cl] 46)) := by
    refine ⟨(grow_alloc2 _ _ _).trans (grow_alloc _ _), ((grow_alloc _ _).block _ (by simp; omega)).trans (hx1 _ _ _), ((grow_alloc _ _).block _ (by simp)).trans (hy1 _ _ _), OutB.start ?_⟩
    have h := heap_new ((w.alloc (.cells #[.slice ab d.blocks.length cb, .slice al d.late.length cl] 46)).alloc (.cells #[.slice none 0 0, .slice none 0 0] 46)) #[.slice none 0 0, .slice al d.late.length cl] 46
    rw [World.size_alloc, World.size_alloc] at h
    exact h
  generalize World.alloc (World.alloc (World.alloc w _) _) _ = W at *
  go_loopw [18] (fun i wr => ∃ k : Nat, k ≤ d.blocks.length ∧ i = .int .i64 k ∧ SpoilL S d a n y w #[.slice ab d.blocks.length cb, .slice al d.late.length cl] (.slice al d.late.length cl) k wr) (fun i _ => d.blocks.length - (intOf i).toNat)
  case atStart => exact ⟨0, Nat.zero_le _, rfl, hstart⟩
  case round =>
    clear hstart
    obtain ⟨k, hk, rfl, hL⟩ := hrel
    by_cases hlt : k < d.blocks.length
    · obtain ⟨b, off, hvb, u, hc0, hu⟩ := (hb.grow hL.1).at k hlt
      cases hvb
      have hx16 := h16 d.blocks[k] (List.getElem_mem _)
      have HBS : Hid (((List.range k).map fun (i : Nat) => if (i : Int) = a then turned (d.blocks.getD i []) n y else d.blocks.getD i []) ++ [if (k : Int) = a then turned d.blocks[k] n y else d.blocks[k]] = (List.range (k + 1)).map fun (i : Nat) => if (i : Int) = a then turned (d.blocks.getD i []) n y else d.blocks.getD i []) := by
        show _ ++ _ = _; rw [List.range_succ, List.map_append, ← getD_at d.blocks k [] hlt]; rfl
      generalize d.blocks[k] = bk at *
      obtain ⟨au, cu, rfl, hnone, hcells⟩ := bytes_src hu.p
      by_cases hon : (k : Int) = a ∧ 0 ≤ n ∧ n < (bk.length : Int)
      · obtain ⟨rfl, hn0, hn1⟩ := hon
        rw [if_pos rfl] at HBS
        obtain ⟨m, rfl⟩ := Int.eq_ofNat_of_zero_le hn0
        have hm1 : m < bk.length := by omega
        cases au with
        | none => exact absurd (hnone rfl).1 (by omega)
        | some ad =>
          have ho := own_empty wr
          have hc1 : ∀ (j : Nat) u, (bk.map bv)[j]? = some u → (wr.alloc (.cells #[] 5)).cell? (ad.add j) = some u := by
            intro j u hj
            have h2 := hcells ad rfl j u hj
            rw [← h2]
            exact Below.cell (grow_alloc wr _) (cell_lt h2)
          have hlr : ((List.range k).map fun (i : Nat) => if (i : Int) = (k : Int) then turned (d.blocks.getD i []) (m : Int) y else d.blocks.getD i []).length = k := by simp
          obtain ⟨gL0, hLd0, hLr0, hO0⟩ := hL
          generalize ((List.range k).map fun (i : Nat) => if (i : Int) = (k : Int) then turned (d.blocks.getD i []) (m : Int) y else d.blocks.getD i []) = bs at *
          subst hlr
          have hbm : (bk.map bv)[m]? = some (.int .u8 (bk[m].toNat : Int)) := by simp [hm1, bv]
          have HTM : Hid _ := turned_map bk m y hm1
          have HTL : Hid _ := turned_length bk (m : Int) y
          have HX : Hid _ := turn_byte2 bk[m] y
          have hcb : bk[m].toNat < 256 := UInt8.toNat_lt _
          have hgs0 : w.heap.size + 1 + 1 < wr.heap.size := by obtain ⟨v, us, h3, _⟩ := hO0; exact heap_lt h3
          clear hcells hnone hu hn0 hn1
          generalize bk[m] = cm at *
          go_wp2_with (first
            | (at_builtin; refine wpList_append_own _ rfl (.tmp 36) (.tmp 37) 22 rfl wr.heap.size 5 j0 (.int .u8 0) 1 1 Try.underlying22 hjf hj0 hj1 hj2 rfl (by decide) (.slice (some ⟨wr.heap.size, 0, none⟩) 0 0) 0 [] rfl ho ad bk.length cu (bk.map bv) rfl (by simp) hc1 (bv_oneCell bk) (by unfold maxLen; omega) (by omega) (by simp) ?_; intro v2 w2 hown2 hgrow2 _; simp only [Nat.zero_add, List.nil_append] at hown2; have hrow := row_some hown2 (by omega); obtain ⟨q, c2, hv2⟩ := hrow; subst hv2; have cq := (hown2.cellAt m (by omega)).trans hbm; have fq := hown2.frozenAt m; have hqw := (hown2.lt q rfl).1; have g2 : Grow wr w2 := grow_of_grown (grow_alloc wr _) hgrow2 (fun k hk => by cases hk; simp); have g2' := grow_set g2 (a := ⟨q, m, none⟩) hqw (.int .u8 (bits .xor .i64 (cm.toNat : Int) (bits .and .i64 y 255) % 256)); have hst2 := spoil_row (lt := turned bk (m : Int) y) HTL.out HTM.out HX.out (hown2.stored m (.int .u8 (bits .xor .i64 (cm.toNat : Int) (bits .and .i64 y 255) % 256))).1; have hO2 := hO0.grow g2'; obtain ⟨v, us, h3, h4, h5, h6⟩ := hO2; have hsv := own_slice2 h6; obtain ⟨av, cv, hvv⟩ := hsv; subst hvv; have y0 := box_cell h3 0 _ rfl; have hsz2 : (w2.setCell ⟨q, m, none⟩ (.int .u8 (bits .xor .i64 (cm.toNat : Int) (bits .and .i64 y 255) % 256))).heap.size = w2.heap.size := World.size_setCell _ _ _; have hgz := g2.size; clear hown2 hgrow2 hc1 ho)
            | (at_builtin; refine wpList_append_own _ rfl (.tmp 52) (.tmp 54) 43 rfl (w.heap.size + 1 + 1 + 1) 22 i0 (.slice none 0 0) 1 24 Try.underlying43 hif hz0 hz1 hz2 rfl (by decide) (.slice av bs.length cv) bs.length us rfl (h6.alloc _) ⟨w2.heap.size, 0, none⟩ 1 1 [.slice (some ⟨q, 0, none⟩) bk.length c2] rfl rfl (fun j u hj => by have := news_one (w2.setCell ⟨q, m, none⟩ (.int .u8 (bits .xor .i64 (cm.toNat : Int) (bits .and .i64 y 255) % 256))) _ 22 j u hj; rw [hsz2] at this; exact this) (by intro u hu; simp at hu; subst hu; rfl) (by unfold maxLen; omega) (by omega) (by simp; omega) ?_; intro v3 w3 hown3 hgrow3 _; have hb3 := out_box h6 (by decide) h3 hgrow3; have f0 := box_frozen hb3 0; have hst := OutB.step h3 h4 h5 h6 (fun b h => by have := hS b h; omega) (by omega) (own_in S (by omega) hst2) hgrow3 hown3; have hsl := own_slice2 hown3; obtain ⟨a3, c3, hv3⟩ := hsl; subst hv3; have y3 := box_cell hb3 0 _ rfl; have cs := cell_set; clear y0))
          go_roundw
          case rel =>
            have hBx := out_below (B := w.heap.size + 1 + 1 + 1) (o := .cells #[.slice (some ⟨q, 0, none⟩) bk.length c2] 22) (by omega) h6 hgrow3
            have hB2 : Below (w.heap.size + 1 + 1) (w2.setCell ⟨q, m, none⟩ (.int .u8 (bits .xor .i64 (cm.toNat : Int) (bits .and .i64 y 255) % 256))) (w3.setCell ⟨w.heap.size + 1 + 1, 0, none⟩ (.slice a3 (bs.length + 1) c3)) := Below.setCell (hBx.mono (by omega)) (by show w.heap.size + 1 + 1 ≤ w.heap.size + 1 + 1; omega) _
            exact ⟨bs.length + 1, by omega, by simp, Below.trans (gL0.trans g2') (hB2.mono (by omega)), (hB2.block _ (by omega)).trans ((g2'.block _ (heap_lt hLd0)).trans hLd0), (hB2.block _ (by omega)).trans ((g2'.block _ (heap_lt hLr0)).trans hLr0), by rw [← HBS.out]; exact hst⟩
          case measure => simp [intOf]; omega
      · have hoff : (if (k : Int) = a then turned bk n y else bk) = bk := by
          by_cases e : (k : Int) = a
          · rw [if_pos e]; unfold turned; rw [if_neg (by omega)]
          · rw [if_neg e]
        rw [hoff] at HBS
        clear hoff hcells hnone
        obtain ⟨gL, hLd, hLr, v, us, h3, h4, h5, h6⟩ := hL
        have hlr : ((List.range k).map fun (i : Nat) => if (i : Int) = a then turned (d.blocks.getD i []) n y else d.blocks.getD i []).length = k := by simp
        generalize ((List.range k).map fun (i : Nat) => if (i : Int) = a then turned (d.blocks.getD i []) n y else d.blocks.getD i []) = bs at *
        subst hlr
        obtain ⟨av, cv, rfl⟩ := own_slice2 h6
        have y0 := box_cell h3 0 _ rfl
        have hgs : w.heap.size + 1 + 1 < wr.heap.size := heap_lt h3
        have hcase : (bs.length : Int) ≠ a ∨ ((bs.length : Int) = a ∧ n < 0) ∨ ((bs.length : Int) = a ∧ 0 ≤ n ∧ (bk.length : Int) ≤ n) := by omega
        clear hon
        rcases hcase with hn1 | ⟨rfl, hn2⟩ | ⟨rfl, hn2, hn3⟩
        all_goals
          first | (have hd0 : ((bs.length : Int) == a) = false := by simpa using hn1) | skip
          go_wp2_with (first
            | (at_builtin; refine wpList_append_own _ rfl (.tmp 52) (.tmp 54) 43 rfl (w.heap.size + 1 + 1 + 1) 22 i0 (.slice none 0 0) 1 24 Try.underlying43 hif hz0 hz1 hz2 rfl (by decide) (.slice av bs.length cv) bs.length us rfl (h6.alloc _) ⟨wr.heap.size, 0, none⟩ 1 1 [.slice au bk.length cu] rfl rfl (fun j u hj => news_one wr _ _ j u hj) (by intro u hu; simp at hu; subst hu; rfl) (by unfold maxLen; omega) (by omega) (by simp; omega) ?_; intro v3 w3 hown3 hgrow3 _; have hb3 := out_box h6 (by decide) h3 hgrow3; have f0 := box_frozen hb3 0; have hst := OutB.step h3 h4 h5 h6 (fun b h => by have := hS b h; omega) (by omega) (hu.mono (fun _ h => .inl h)) hgrow3 hown3; have hsl := own_slice2 hown3; obtain ⟨a3, c3, hv3⟩ := hsl; subst hv3; have y3 := box_cell hb3 0 _ rfl; have cs := cell_set; clear y0))
          go_roundw
          case rel =>
            have hBx := out_below (o := .cells #[.slice au bk.length cu] 22) hgs h6 hgrow3
            have hB2 : Below (w.heap.size + 1 + 1) wr (w3.setCell ⟨w.heap.size + 1 + 1, 0, none⟩ (.slice a3 (bs.length + 1) c3)) := Below.setCell (hBx.mono (by omega)) (by show w.heap.size + 1 + 1 ≤ w.heap.size + 1 + 1; omega) _
            exact ⟨bs.length + 1, by omega, by simp, Below.trans gL (hB2.mono (by omega)), (hB2.block _ (by omega)).trans hLd, (hB2.block _ (by omega)).trans hLr, by rw [← HBS.out]; exact hst⟩
          case measure => simp [intOf]; omega
    · have hk' : k = d.blocks.length := by omega
      subst hk'
      obtain ⟨vo, hbo, hbs⟩ := hL.2.2.2.blocks
      rw [← HF.out] at hbs
      obtain ⟨ao, co, rfl⟩ := hbs.p.form
      have x0 := box_cell hbo 0 _ rfl
      have x1 := box_cell hbo 1 _ rfl
      have y0 := box_cell hL.2.2.1 0 _ rfl
      have y1 := box_cell hL.2.2.1 1 _ rfl
      have f0 := box_frozen hL.2.2.1 0
      have f1 := box_frozen hL.2.2.1 1
      have cs := cell_set
      rename_i wr _
      obtain ⟨hq1, hq2⟩ := box_put2 hL.2.2.1 (.slice ao (d.spoil a n y).blocks.length co) (.slice al d.late.length cl)
      have gE := hq2.grow hL.1 (by omega)
      have hbE := (hbs.but hq2 (by rintro (h | h); · have := hS _ h; omega
                                   · omega)).mono (upon_le (B := w.heap.size) (by omega))
      clear hq1 hq2 hbs hbo hL hlt hb HF
      generalize hls : (d.spoil a n y).blocks = ls at *
      have HLS : Hid _ := hls
      clear hls
      go_wp2_with fail
      exact bodyPost_ret (v := .agg #[.slice ao ls.length co, .slice al d.late.length cl]) (by simp [results, Try.results47, go_sem, y0, y1, cs]) rfl ⟨_, rfl, by rw [HLS.out]; exact hbE, gE⟩
end Go.Proofs.Ytgpfflfdigekeaa
