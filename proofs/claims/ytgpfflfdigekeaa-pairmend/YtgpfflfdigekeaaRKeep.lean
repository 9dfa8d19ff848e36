/-
  What the document's Keep makes of a disk, by bits.
  Condition: the disk lies in memory, of some blocks, at most 256, writes of places that there are.
-/
import Derived.Test.YtgpfflfdigekeaaROut
import Derived.Laws.OwnMore
namespace Go.Proofs.Ytgpfflfdigekeaa
set_option maxRecDepth 100000
open Go.RowKit
open Go.Proofs.Ytgpfflfdigekeaa.Plain Go.Proofs.Ytgpfflfdigekeaa.Reg

/-- A slice of blocks as append wants its source. -/
theorem blocks_src {S : Nat → Prop} {w : World} {v : Value} {bs : List (List UInt8)} (h : BlocksS S w v bs) (h0 : 0 < bs.length) :
    ∃ (ad : Addr) (cap : Nat) (us : List Value), v = .slice (some ad) bs.length cap ∧ us.length = bs.length ∧ (∀ (j : Nat) u, us[j]? = some u → w.cell? (ad.add j) = some u) ∧ (∀ i (hi : i < bs.length), ∃ u, us[i]? = some u ∧ BytesS S w u bs[i]) := by
  rcases h with ⟨ao, cap, rfl, rfl, h1⟩ | ⟨b, off, cap, hSb, rfl, h1, hc⟩
  · simp at h0
  · have hex : ∃ f : Nat → Value, ∀ i (hi : i < bs.length), w.cell? ⟨b, off + i, none⟩ = some (f i) ∧ BytesS S w (f i) bs[i] := by
      refine ⟨fun i => if hi : i < bs.length then (hc i hi).choose else undef, fun i hi => ?_⟩
      simp only [hi, dif_pos]
      exact (hc i hi).choose_spec
    obtain ⟨f, hf⟩ := hex
    refine ⟨_, cap, (List.range bs.length).map f, rfl, by simp, fun j u hj => ?_, fun i hi => ⟨f i, by simp [hi], (hf i hi).2⟩⟩
    have hjl : j < bs.length := by
      rcases Nat.lt_or_ge j bs.length with h | h
      · exact h
      · rw [List.getElem?_eq_none (by simpa using h)] at hj; cases hj
    have e : u = f j := by simp [hjl] at hj; exact hj.symm
    subst e
    have e2 : ∀ m, (⟨b, off, none⟩ : Addr).add m = ⟨b, off + m, none⟩ := fun m => by simp [Addr.add]
    rw [e2]; exact (hf j hjl).1

/-- One block is written anew. -/
theorem OutB.put {S0 : Nat → Prop} {B g q cap i : Nat} {lv u : Value} {us : List Value} {bs : List (List UInt8)} {b : List UInt8} {w : World} (h3 : w.heap[g]? = some (.cells #[.slice (some ⟨q, 0, none⟩) bs.length cap, lv] 46 (0, 0))) (h4 : us.length = bs.length)
    (h5 : ∀ i (hi : i < bs.length), ∃ u, us[i]? = some u ∧ BytesS (InS S0 B w) w u bs[i]) (h6 : w.ownsRow B 22 1 (.slice (some ⟨q, 0, none⟩) bs.length cap) bs.length us) (hS0 : ∀ b, S0 b → b < B) (hu : BytesS (InS S0 B w) w u b) (hi : i < bs.length) : OutB S0 B g lv (bs.set i b) (w.setCell ⟨q, i, none⟩ u) := by
  have hq : ∃ cur, w.heap[q]? = some (.cells cur 22 (0, 0)) := by
    rcases h6.2 with ⟨e, _⟩ | ⟨q', cap', cur, e, _, hh, _⟩
    · cases e
    · cases e; exact ⟨cur, hh⟩
  obtain ⟨cur, hq⟩ := hq
  have hqB : B ≤ q := (h6.lt q rfl).1
  have keep : ∀ b, InS S0 B w b → (w.setCell ⟨q, i, none⟩ u).heap[b]? = w.heap[b]? := by
    intro b hSb
    refine Below.heap_setCell _ _ _ _ ?_
    rintro rfl
    rcases hSb with h | ⟨_, c, f, h⟩
    · have := hS0 _ h; omega
    · rw [hq] at h; cases h
  have keep' : ∀ b, InS S0 B w b → InS S0 B (w.setCell ⟨q, i, none⟩ u) b := fun b h => or_map h (fun x => x) fun ⟨k1, c, f, k2⟩ => ⟨k1, c, f, (keep b h).trans k2⟩
  have hgq : g ≠ q := by rintro rfl; rw [h3] at hq; cases hq
  refine ⟨.slice (some ⟨q, 0, none⟩) bs.length cap, us.set i u, ?_, by simp [h4], fun j hj => ?_, ?_⟩
  · rw [Below.heap_setCell _ _ _ _ hgq]; exact h3
  · rw [List.length_set] at hj
    by_cases e : i = j
    · subst e
      refine ⟨u, by rw [List.getElem?_set]; simp [h4, hi], ?_⟩
      simp only [List.getElem_set_self]
      exact (hu.keep keep).mono keep'
    · obtain ⟨x, e1, e2⟩ := h5 j hj
      refine ⟨x, by rw [List.getElem?_set]; simp [e, e1], ?_⟩
      rw [List.getElem_set_ne e]
      exact (e2.keep keep).mono keep'
  · rw [List.length_set]; exact (h6.stored i u).1

def KeepL (S : Nat → Prop) (d : Dk) (bits : Int) (w : World) (g : Nat) (c : Array Value) (k : Nat) (wr : World) : Prop :=
  Grow w wr ∧ wr.heap[w.heap.size]? = some (.cells c 46 (0, 0)) ∧ wr.heap[w.heap.size + 1]? = some (.cells #[.slice none 0 0, .slice none 0 0] 46 (0, 0)) ∧
    OutB S (w.heap.size + 1 + 1) g (.slice none 0 0) (d.keepTo (bitOn bits) k) wr
theorem KeepL.grow {S : Nat → Prop} {d : Dk} {bits : Int} {w : World} {g : Nat} {c : Array Value} {k : Nat} {wr w' : World} (h : KeepL S d bits w g c k wr) (hg : Grow wr w') : KeepL S d bits w g c k w' :=
  ⟨h.1.trans hg, (hg.block _ (heap_lt h.2.1)).trans h.2.1, (hg.block _ (heap_lt h.2.2.1)).trans h.2.2.1, h.2.2.2.grow hg⟩

theorem start_u64 (bits : Int) : Value.int .u64 (IntKind.u64.wrap bits) = .int .u64 (((bits % 18446744073709551616).toNat / 2 ^ 0 : Nat) : Int) := by
  rw [IntKind.wrap_u64, Nat.pow_zero, Nat.div_one]
  congr 1
  omega
theorem half_u64 (bits : Int) (k U : Nat) (h : (bits % 18446744073709551616).toNat / 2 ^ k = U) : Value.int .u64 (IntKind.u64.wrap ((U : Int) / 2)) = .int .u64 (((bits % 18446744073709551616).toNat / 2 ^ (k + 1) : Nat) : Int) := by
  rw [Nat.pow_succ, ← Nat.div_div_eq_div_mul, h, IntKind.wrap_u64]
  have hle : U ≤ (bits % 18446744073709551616).toNat := by rw [← h]; exact Nat.div_le_self _ _
  congr 1
  omega

set_option maxHeartbeats 2000000 in
theorem keep_any (S : Nat → Prop) (d : Dk) (bits : Int) (vb vl : Value) (w : World) (hS : ∀ b, S b → b < w.heap.size) (hb : BlocksS S w vb d.blocks) (hl : LateS S w vl d.late) (h0 : 0 < d.blocks.length) (hlen : d.blocks.length ≤ 256) (hm : d.late.length ≤ 999990) (hp : ∀ x ∈ d.late, 0 ≤ x.1 ∧ x.1 < (d.blocks.length : Int)) :
    Calls Try.prog 43 #[.agg #[vb, vl], .int .i64 bits] w fun e w' => ∃ vb', e = .returned (.agg #[vb', .slice none 0 0]) ∧ BlocksS (Upon S w.heap.size) w' vb' (d.keep bits).blocks ∧ Grow w w' := by
  obtain ⟨ad, cb, us, rfl, hul, hcells, hus⟩ := blocks_src hb h0
  obtain ⟨al, cl, rfl⟩ := hl.p.form
  obtain ⟨i0, hif, hz0, hz1, hz2⟩ := info_parts info_bytes
  have hone : ∀ u ∈ us, u.oneCell' = true := by
    intro u hu
    obtain ⟨i, hi, rfl⟩ := List.mem_iff_getElem.1 hu
    obtain ⟨u', h2, h3⟩ := hus i (by omega)
    rw [List.getElem?_eq_getElem hi] at h2
    cases h2
    exact bytes_one h3.p
  have hc1 : ∀ (j : Nat) u, us[j]? = some u → (((w.alloc (.cells #[.slice (some ad) d.blocks.length cb, .slice al d.late.length cl] 46)).alloc (.cells #[.slice none 0 0, .slice none 0 0] 46)).alloc (.cells #[] 22)).cell? (ad.add j) = some u := by
    intro j u hj
    have h2 := hcells j u hj
    rw [← h2]
    exact Below.cell ((grow_alloc2 _ _ _).trans (grow_alloc _ _)) (cell_lt h2)
  have hx := hx1 w #[.slice (some ad) d.blocks.length cb, .slice al d.late.length cl] #[.slice none 0 0, .slice none 0 0]
  have hy := hy1 w #[.slice (some ad) d.blocks.length cb, .slice al d.late.length cl] #[.slice none 0 0, .slice none 0 0]
  have gW := grow_alloc2 w (.cells #[.slice (some ad) d.blocks.length cb, .slice al d.late.length cl] 46) (.cells #[.slice none 0 0, .slice none 0 0] 46)
  have ho : (((w.alloc (.cells #[.slice (some ad) d.blocks.length cb, .slice al d.late.length cl] 46)).alloc (.cells #[.slice none 0 0, .slice none 0 0] 46)).alloc (.cells #[] 22)).ownsRow (w.heap.size + 1 + 1) 22 1 (.slice (some ⟨w.heap.size + 1 + 1, 0, none⟩) 0 0) 0 [] :=
    ⟨rfl, .inr ⟨w.heap.size + 1 + 1, 0, #[], rfl, Nat.le_refl _, by have := heap_new ((w.alloc (.cells #[.slice (some ad) d.blocks.length cb, .slice al d.late.length cl] 46)).alloc (.cells #[.slice none 0 0, .slice none 0 0] 46)) #[] 22; rw [World.size_alloc, World.size_alloc] at this; exact this, Nat.le_refl _, by unfold maxLen; omega, rfl, rfl⟩⟩
  clear hb hcells
  go_enter Try.func43, Try.ntmps43
  go_wp2_with (first
    | (at_builtin; refine wpList_append_own _ rfl (.tmp 9) (.tmp 11) 43 rfl (w.heap.size + 1 + 1) 22 i0 (.slice none 0 0) 1 24 Try.underlying43 hif hz0 hz1 hz2 rfl (by decide) (.slice (some ⟨w.heap.size + 1 + 1, 0, none⟩) 0 0) 0 [] rfl ho ad d.blocks.length cb us rfl (by omega) hc1 hone (by unfold maxLen; omega) (by omega) (by simp) ?_; intro v2 w2 hown2 hgrow2 _; simp only [Nat.zero_add, List.nil_append] at hown2; have hsl := own_slice2 hown2; obtain ⟨a2, c2, hv2⟩ := hsl; subst hv2; have g2 : Grow _ w2 := grow_of_grown (grow_alloc _ _) hgrow2 (fun k hk => by cases hk; simp); have hx2 := (g2.block _ (heap_lt hx)).trans hx; have hy2 := (g2.block _ (heap_lt hy)).trans hy; have g3 := grow_alloc w2 (.cells #[.slice a2 d.blocks.length c2, .slice none 0 0] 46); have hx3 := (g3.block _ (heap_lt hx2)).trans hx2; have hy3 := (g3.block _ (heap_lt hy2)).trans hy2; have x1 := box_cell hx3 1 _ rfl))
  have hstart : KeepL S d bits w w2.heap.size #[.slice (some ad) d.blocks.length cb, .slice al d.late.length cl] 0 (w2.alloc (.cells #[.slice a2 d.blocks.length c2, .slice none 0 0] 46)) :=
    ⟨gW.trans (g2.trans g3), hx3, hy3, _, us, heap_new _ _ _, hul, fun i hi => (hus i hi).imp fun u hu => ⟨hu.1, (hu.2.grow (gW.trans (g2.trans g3))).mono (fun _ h => .inl h)⟩, own_grow hown2 g3⟩
  clear hx hy hx2 hy2 hx3 hy3 x1 ho hc1 hone hown2 hgrow2 hus hul g2 g3 gW
  generalize w2.heap.size = g at *
  generalize World.alloc w2 _ = W at *
  go_loopw [6, 19] (fun u i wr => ∃ k : Nat, k ≤ d.late.length ∧ u = .int .u64 (((bits % 18446744073709551616).toNat / 2 ^ k : Nat) : Int) ∧ i = .int .i64 k ∧ KeepL S d bits w g #[.slice (some ad) d.blocks.length cb, .slice al d.late.length cl] k wr) (fun _ i _ => d.late.length - (intOf i).toNat)
  case atStart => exact ⟨0, Nat.zero_le _, start_u64 bits, rfl, hstart⟩
  case round =>
    clear hstart
    obtain ⟨k, hk, rfl, rfl, hL⟩ := hrel
    by_cases hlt : k < d.late.length
    · obtain ⟨b, off, hvl, hc0, u, hc1, hu⟩ := (hl.grow hL.1).at k hlt
      cases hvl
      obtain ⟨au, cu, rfl, -, -⟩ := bytes_src hu.p
      have hK : d.keepTo (bitOn bits) (k + 1) = if bitOn bits k = true then (d.keepTo (bitOn bits) k).set d.late[k].1.toNat d.late[k].2 else d.keepTo (bitOn bits) k := by
        show (if bitOn bits k = true then _ else _) = _
        rw [getD_at _ _ _ hlt]
      have HK : Hid _ := hK
      have hpk := hp d.late[k] (List.getElem_mem _)
      clear hK
      generalize d.late[k] = lk at *
      obtain ⟨at_, data⟩ := lk
      have HB : Hid (bitOn bits k = (decide (k < 60) && ((bits % 18446744073709551616).toNat / 2 ^ k % 2 == 1))) := rfl
      generalize hUU : (bits % 18446744073709551616).toNat / 2 ^ k = U at *
      have HU : Hid _ := hUU
      clear hUU
      have g1 := grow_alloc wr (.cells #[.int .i64 at_, .slice au data.length cu] 60)
      have hz := heap_new wr #[.int .i64 at_, .slice au data.length cu] 60
      have hL1 := hL.grow g1
      have hu1 := hu.grow g1
      by_cases hon : k < 60 ∧ U % 2 = 1
      · have hb1 : bitOn bits k = true := by rw [HB.out]; simp [hon.1, hon.2]
        have hK1 := HK.out
        rw [if_pos hb1] at hK1
        have HK1 : Hid _ := hK1
        clear hK1 hb1 HK HB hu
        obtain ⟨m, rfl⟩ := Int.eq_ofNat_of_zero_le hpk.1
        obtain ⟨gL, hLd, hLr, v, us', h3, h4, h5, h6⟩ := hL1
        have hbl : (d.keepTo (bitOn bits) k).length = d.blocks.length := d.keepTo_length _ _
        generalize d.keepTo (bitOn bits) k = bs at *
        have hrow : ∃ q cap, v = .slice (some ⟨q, 0, none⟩) bs.length cap := by
          rcases h6.2 with ⟨_, e⟩ | ⟨q, cap, cur, e, _⟩
          · omega
          · exact ⟨q, cap, e⟩
        obtain ⟨q, cap, rfl⟩ := hrow
        have hm1 : m < bs.length := by have := hpk.2; simp only at this; omega
        have y0 := box_cell h3 0 _ rfl
        have z0 := box_cell hz 0 _ rfl
        have z1 := box_cell hz 1 _ rfl
        have fq := h6.frozenAt m
        have cq := h6.cellAt m (by omega)
        have hux : us'[m]? = some us'[m] := List.getElem?_eq_getElem (by omega)
        rw [hux] at cq
        clear hux
        generalize us'[m] = xm at cq
        have hput := OutB.put (i := m) h3 h4 h5 h6 (fun b h => by have := hS b h; omega) (hu1.mono (fun _ h => .inl h)) hm1
        have hqB : w.heap.size + 1 + 1 ≤ q := (h6.lt q rfl).1
        have hBe : Below (w.heap.size + 1 + 1) (wr.alloc (.cells #[.int .i64 (m : Int), .slice au data.length cu] 60)) ((wr.alloc (.cells #[.int .i64 (m : Int), .slice au data.length cu] 60)).setCell ⟨q, m, none⟩ (.slice au data.length cu)) := Below.setCell (Below.refl _ _) hqB _
        have hend : KeepL S d bits w g #[.slice (some ad) d.blocks.length cb, .slice (some ⟨b, off, none⟩) d.late.length cl] (k + 1) ((wr.alloc (.cells #[.int .i64 (m : Int), .slice au data.length cu] 60)).setCell ⟨q, m, none⟩ (.slice au data.length cu)) :=
          ⟨Below.trans gL (hBe.mono (by omega)), (hBe.block _ (by omega)).trans hLd, (hBe.block _ (by omega)).trans hLr, by rw [HK1.out]; exact hput⟩
        have hU2 : (U : Int) % 2 = 1 := by omega
        have hk60 : k < 60 := hon.1
        clear hput h3 h4 h5 h6 hLd hLr gL hL hBe hz hon hu1
        go_wp2_with fail
        go_roundw
        case rel => exact ⟨k + 1, by omega, half_u64 bits k U HU.out, by simp, hend⟩
        case measure => simp [intOf]; omega
      · have hb1 : ¬ bitOn bits k = true := by
          rw [HB.out]; simp only [Bool.and_eq_true, decide_eq_true_eq, beq_iff_eq]; exact hon
        have hK1 := HK.out
        rw [if_neg hb1] at hK1
        have hend : KeepL S d bits w g #[.slice (some ad) d.blocks.length cb, .slice (some ⟨b, off, none⟩) d.late.length cl] (k + 1) (wr.alloc (.cells #[.int .i64 at_, .slice au data.length cu] 60)) :=
          ⟨hL1.1, hL1.2.1, hL1.2.2.1, by rw [hK1]; exact hL1.2.2.2⟩
        clear hK1 hb1 HK HB hu hu1 hL1 hL hz
        by_cases hk60 : k < 60
        · have hU2 : (U : Int) % 2 = 0 := by omega
          clear hon
          go_wp2_with fail
          go_roundw
          case rel => exact ⟨k + 1, by omega, half_u64 bits k U HU.out, by simp, hend⟩
          case measure => simp [intOf]; omega
        · have hk60' : 60 ≤ k := by omega
          clear hon
          go_wp2_with fail
          go_roundw
          case rel => exact ⟨k + 1, by omega, half_u64 bits k U HU.out, by simp, hend⟩
          case measure => simp [intOf]; omega
    · have hk' : k = d.late.length := by omega
      subst hk'
      obtain ⟨vo, hbo, hbs⟩ := hL.2.2.2.blocks
      obtain ⟨ao, co, rfl⟩ := hbs.p.form
      have x0 := box_cell hbo 0 _ rfl
      have x1 := box_cell hbo 1 _ rfl
      have y0 := box_cell hL.2.2.1 0 _ rfl
      have y1 := box_cell hL.2.2.1 1 _ rfl
      have f0 := box_frozen hL.2.2.1 0
      have f1 := box_frozen hL.2.2.1 1
      have cs := cell_set
      rename_i wr _
      obtain ⟨hq1, hq2⟩ := box_put2 hL.2.2.1 (.slice ao (d.keepTo (bitOn bits) d.late.length).length co) (.slice none 0 0)
      have gE := hq2.grow hL.1 (by omega)
      have hbE := (hbs.but hq2 (by rintro (h | h); · have := hS _ h; omega
                                   · omega)).mono (upon_le (B := w.heap.size) (by omega))
      clear hq1 hq2 hbs hbo hL hlt hl
      go_wp2_with fail
      exact bodyPost_ret (v := .agg #[.slice ao (d.keepTo (bitOn bits) d.late.length).length co, .slice none 0 0]) (by simp [results, Try.results43, go_sem, y0, y1, cs]) rfl ⟨_, rfl, hbE, gE⟩
end Go.Proofs.Ytgpfflfdigekeaa
