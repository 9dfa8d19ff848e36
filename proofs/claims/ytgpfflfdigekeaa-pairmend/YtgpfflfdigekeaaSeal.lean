/-
  What sum.Seal and the document's Seal make of any bytes: those bytes and the two bytes of their sum behind, in memory of their own.
  Condition: the slice holds those bytes, and fewer than 2^47 - 2 of them.
-/
import Derived.Test.YtgpfflfdigekeaaSum
import Derived.Laws.AppendOwnNone
namespace Go.Proofs.Ytgpfflfdigekeaa
set_option maxRecDepth 100000
open Go.RowKit
open Go.Proofs.Ytgpfflfdigekeaa.Plain Go.Proofs.Ytgpfflfdigekeaa.Reg

/-- A byte as a value. -/
def bv (c : UInt8) : Value := .int .u8 (c.toNat : Int)

theorem info_byte : (Try.prog.info? 5).map (fun i => (i.zero, i.size, i.bytes)) = some (some (.int .u8 0), 1, 1) := by kernel_rfl

/-- A slice of bytes as append wants its source. -/
theorem bytes_src {w : World} {v : Value} {l : List UInt8} (h : Bytes w v l) :
    ∃ ao cap, v = .slice ao l.length cap ∧ (ao = none → l.length = 0 ∧ cap = 0) ∧ (∀ ad, ao = some ad → ∀ (j : Nat) u, (l.map bv)[j]? = some u → w.cell? (ad.add j) = some u) := by
  rcases h with ⟨ao, cap, rfl, rfl, h0⟩ | ⟨b, off, cap, rfl, _, hc⟩
  · exact ⟨ao, cap, rfl, fun h => ⟨rfl, h0 h⟩, fun ad _ j u hj => by simp at hj⟩
  · refine ⟨_, cap, rfl, fun h => (by cases h), fun ad had j u hj => ?_⟩
    cases had
    rw [List.getElem?_map] at hj
    by_cases hl : j < l.length
    · simp only [List.getElem?_eq_getElem hl, Option.map_some, bv, Option.some.injEq] at hj
      subst hj
      have e : (⟨b, off, none⟩ : Addr).add j = ⟨b, off + j, none⟩ := by simp [Addr.add]
      rw [e]
      exact hc j hl
    · rw [List.getElem?_eq_none (by omega)] at hj; cases hj

theorem bv_oneCell (l : List UInt8) : ∀ u ∈ l.map bv, u.oneCell' = true := by
  intro u hu
  obtain ⟨c, _, rfl⟩ := List.mem_map.1 hu
  rfl

theorem grow_of_grown {w w1 w2 : World} {row : Option Nat} (h : Grow w w1) (hg : w1.grownBy w2 row) (hr : ∀ k, row = some k → w.heap.size ≤ k) : Grow w w2 :=
  Below.grown h hg h.size hr

theorem cell_lt {w : World} {p : Addr} {v : Value} (h : w.cell? p = some v) : p.block < w.heap.size := by
  rcases Nat.lt_or_ge p.block w.heap.size with hl | hl
  · exact hl
  · simp [World.cell?, Array.getElem?_eq_none hl] at h

theorem bytes_grow {w w' : World} {v : Value} {l : List UInt8} (h : Bytes w v l) (hg : Grow w w') : Bytes w' v l := by
  rcases h with h | ⟨b, off, cap, rfl, h1, hc⟩
  · exact .inl h
  · refine .inr ⟨b, off, cap, rfl, h1, fun i hi => ?_⟩
    have h2 := hc i hi
    rw [← h2]
    exact Below.cell hg (cell_lt h2)

/-- What is owned reads as bytes. -/
theorem bytes_own {w : World} {base : Nat} {e : TypeId} {v : Value} {n : Nat} {l : List UInt8} (h : w.ownsRow base e 1 v n (l.map bv)) : Bytes w v l := by
  have hl : l.length = n := by simpa using h.1
  subst hl
  rcases h.2 with ⟨rfl, h0⟩ | ⟨g, cap, cur, rfl, hb, hh, h1, h2, h3, h4⟩
  · exact .inl ⟨none, 0, rfl, List.eq_nil_of_length_eq_zero h0, fun _ => rfl⟩
  · refine .inr ⟨g, 0, cap, rfl, h1, fun i hi => ?_⟩
    have := h.cellAt i (by omega)
    rw [Nat.zero_add, this]
    simp [hi, bv]

theorem sealed_map (l : List UInt8) : (sealed l).map bv = l.map bv ++ [.int .u8 ((hi (sumOf l)).toNat : Int), .int .u8 ((lo (sumOf l)).toNat : Int)] := by
  simp [sealed, bv]

theorem news_two (w : World) (x y : Value) (e : TypeId) (j : Nat) (u : Value) (h : [x, y][j]? = some u) : (w.alloc (.cells #[x, y] e)).cell? ((⟨w.heap.size, 0, none⟩ : Addr).add j) = some u := by
  match j, h with
  | 0, h => simp at h; subst h; simp [Addr.add]
  | 1, h => simp at h; subst h; simp [Addr.add]
  | j + 2, h => simp at h

theorem grow_make {w w1 : World} (hg : w.grownBy w1 none) : Grow w w1 := grow_of_grown (Grow.refl w) hg (fun k h => by cases h)
theorem grow_row {w w1 w2 : World} (h : Grow w w1) (hg : w1.grownBy w2 (some w.heap.size)) : Grow w w2 := grow_of_grown h hg (fun k e => by cases e; exact Nat.le_refl _)
theorem grow_alloc (w : World) (o : Obj) : Grow w (w.alloc o) := Below.alloc (Below.refl _ _) (Nat.le_refl _) o

theorem src_grow {w w' : World} {ao : Option Addr} {l : List UInt8} (h : ∀ ad, ao = some ad → ∀ (j : Nat) u, (l.map bv)[j]? = some u → w.cell? (ad.add j) = some u) (hg : Grow w w') :
    ∀ ad, ao = some ad → ∀ (j : Nat) u, (l.map bv)[j]? = some u → w'.cell? (ad.add j) = some u := by
  intro ad ha j u hj
  have h2 := h ad ha j u hj
  rw [← h2]
  exact Below.cell hg (cell_lt h2)

set_option maxHeartbeats 400000 in
theorem seal_any (l : List UInt8) (v : Value) (w : World) (hm : l.length ≤ 140737488355326) (h : Bytes w v l) :
    Calls Try.prog 18 #[v] w fun e w' => ∃ v', e = .returned v' ∧ w'.ownsRow w.heap.size 5 1 v' (l.length + 2) ((sealed l).map bv) ∧ Grow w w' := by
  rw [sealed_map]
  obtain ⟨ao, cap, rfl, hnone, hcells⟩ := bytes_src h
  obtain ⟨i0, hif, hz0, hz1, hz2⟩ := info_parts info_byte
  go_enter Try.func18, Try.ntmps18
  go_wp2_with (first
    | (at_make; refine wpList_make_own _ rfl _ _ 22 rfl w.heap.size 5 i0 (.int .u8 0) 1 Try.underlying22 hif hz0 hz1 .i64 .i64 _ (l.length + 2) rfl rfl (by omega) (by rw [hz2]; omega) (by unfold maxLen; omega) (Nat.le_refl _) ?_; intro w1 hown1 hgrow1)
    | (at_builtin; refine wpList_append_fits_any _ rfl (.tmp 8) (.tmp 9) 22 rfl w.heap.size 5 i0 1 Try.underlying22 hif hz1 w.heap.size 0 (l.length + 2) [] rfl (by assumption) ao l.length cap (l.map bv) rfl (by simp) hnone (src_grow hcells (grow_make hgrow1)) (bv_oneCell l) (by omega) ?_; intro w2 hown2 hgrow2))
  have g2 : Grow w w2 := grow_row (grow_make hgrow1) hgrow2
  have hb2 : Bytes w2 (.slice ao l.length cap) l := bytes_grow h g2
  simp only [Nat.zero_add, List.nil_append] at hown2
  refine (of_any l _ _ (by omega) hb2).mono ?_
  rintro e w' ⟨rfl, rfl⟩
  clear hown1 hgrow1 hgrow2 hcells h hb2
  go_wp2_with fail
  refine (two_any _ _).mono ?_
  rintro e w' ⟨rfl, rfl⟩
  go_wp2_with (at_builtin; refine wpList_append_fits_any _ rfl (.tmp 11) (.tmp 14) 22 rfl w.heap.size 5 i0 1 Try.underlying22 hif hz1 w.heap.size l.length (l.length + 2) (l.map bv) rfl (hown2.alloc _) (some ⟨w2.heap.size, 0, none⟩) 2 2 [.int .u8 ((hi (sumOf l)).toNat : Int), .int .u8 ((lo (sumOf l)).toNat : Int)] rfl rfl (fun h => by cases h) ?c1 ?c2 (Nat.le_refl _) ?_; rotate_right; intro w3 hown3 hgrow3)
  · go_ret
    exact ⟨_, rfl, hown3, grow_row (g2.trans (grow_alloc w2 _)) hgrow3⟩
  · intro ad had j u hj
    cases had
    exact news_two w2 _ _ _ j u hj
  · intro u hu
    simp at hu
    rcases hu with rfl | rfl <;> rfl

theorem own_empty (w : World) : (w.alloc (.cells #[] 5)).ownsRow w.heap.size 5 1 (.slice (some ⟨w.heap.size, 0, none⟩) 0 0) 0 [] :=
  ⟨rfl, .inr ⟨w.heap.size, 0, #[], rfl, Nat.le_refl _, by show (w.heap.push _)[w.heap.size]? = _; simp, Nat.le_refl _, by unfold maxLen; omega, rfl, rfl⟩⟩

set_option maxHeartbeats 400000 in
theorem rseal_some (l : List UInt8) (ad : Addr) (cap : Nat) (w : World) (hm : l.length ≤ 140737488355326) (h : Bytes w (.slice (some ad) l.length cap) l)
    (hcells : ∀ (j : Nat) u, (l.map bv)[j]? = some u → w.cell? (ad.add j) = some u) :
    Calls Try.prog 19 #[.slice (some ad) l.length cap] w fun e w' => ∃ v', e = .returned v' ∧ w'.ownsRow w.heap.size 5 1 v' (l.length + 2) ((sealed l).map bv) ∧ Grow w w' := by
  rw [sealed_map]
  have hs := sumOf_bd l
  have e1 : ((hi (sumOf l)).toNat : Int) = sumOf l / 256 := by rw [hi_val]; omega
  have e2 : ((lo (sumOf l)).toNat : Int) = sumOf l % 256 := lo_val _
  rw [e1, e2]
  clear e1 e2
  obtain ⟨i0, hif, hz0, hz1, hz2⟩ := info_parts info_byte
  go_enter Try.func19, Try.ntmps19
  go_wp2_with fail
  refine (rsum_any l _ _ (by omega) h).mono ?_
  rintro e w' ⟨rfl, rfl⟩
  have ho := own_empty w
  have hc1 : ∀ (j : Nat) u, (l.map bv)[j]? = some u → (w.alloc (.cells #[] 5)).cell? (ad.add j) = some u := by
    intro j u hj
    have h2 := hcells j u hj
    rw [← h2]
    exact Below.cell (grow_alloc w _) (cell_lt h2)
  clear hcells h
  go_wp2_with (first
    | (at_builtin; refine wpList_append_own _ rfl (.tmp 6) (.tmp 7) 22 rfl w.heap.size 5 i0 (.int .u8 0) 1 1 Try.underlying22 hif hz0 hz1 hz2 rfl (by decide) (.slice (some ⟨w.heap.size, 0, none⟩) 0 0) 0 [] rfl ho ad l.length cap (l.map bv) rfl (by simp) hc1 (bv_oneCell l) (by unfold maxLen; omega) (by omega) (by simp) ?_; intro v2 w2 hown2 hgrow2 _; simp only [Nat.zero_add, List.nil_append] at hown2)
    | (at_builtin; refine wpList_append_own _ rfl (.tmp 8) (.tmp 15) 22 rfl w.heap.size 5 i0 (.int .u8 0) 1 1 Try.underlying22 hif hz0 hz1 hz2 rfl (by decide) v2 l.length (l.map bv) rfl (hown2.alloc _) ⟨w2.heap.size, 0, none⟩ 2 2 [.int .u8 (sumOf l / 256), .int .u8 (sumOf l % 256)] rfl rfl (fun j u hj => news_two w2 _ _ _ j u hj) (by intro u hu; simp at hu; rcases hu with rfl | rfl <;> rfl) (by unfold maxLen; omega) (by omega) (by have := hgrow2.size; simp at this ⊢; omega) ?_; intro v3 w3 hown3 hgrow3 _))
  have g2 : Grow w w2 := grow_of_grown (grow_alloc w _) hgrow2 (fun k e => by simp [Value.ownBlock] at e; omega)
  have g3 : Grow w w3 := grow_of_grown (g2.trans (grow_alloc w2 _)) hgrow3 (fun k e => (hown2.lt k e).1)
  go_ret
  exact ⟨_, rfl, hown3, g3⟩

set_option maxHeartbeats 400000 in
theorem rseal_none (w : World) :
    Calls Try.prog 19 #[.slice none 0 0] w fun e w' => ∃ v', e = .returned v' ∧ w'.ownsRow w.heap.size 5 1 v' 2 ((sealed []).map bv) ∧ Grow w w' := by
  rw [show (sealed []).map bv = [.int .u8 0, .int .u8 3] from by kernel_rfl]
  obtain ⟨i0, hif, hz0, hz1, hz2⟩ := info_parts info_byte
  go_enter Try.func19, Try.ntmps19
  go_wp2_with fail
  refine (rsum_any [] _ _ (by simp) (.inl ⟨none, 0, rfl, rfl, fun _ => rfl⟩)).mono ?_
  rw [sumOf_nil]
  rintro e w' ⟨rfl, rfl⟩
  have ho := own_empty w
  go_wp2_with (first
    | (at_builtin; refine wpList_append_own_none rfl (.tmp 6) (.tmp 7) 22 rfl w.heap.size 5 i0 1 Try.underlying22 hif (.slice (some ⟨w.heap.size, 0, none⟩) 0 0) 0 [] rfl ho rfl ?_)
    | (at_builtin; refine wpList_append_own _ rfl (.tmp 8) (.tmp 15) 22 rfl w.heap.size 5 i0 (.int .u8 0) 1 1 Try.underlying22 hif hz0 hz1 hz2 rfl (by decide) (.slice (some ⟨w.heap.size, 0, none⟩) 0 0) 0 [] rfl (ho.alloc _) ⟨w.heap.size + 1, 0, none⟩ 2 2 [.int .u8 0, .int .u8 3] rfl rfl (fun j u hj => by have := news_two (w.alloc (.cells #[] 5)) (.int .u8 0) (.int .u8 3) 5 j u hj; simpa using this) (by intro u hu; simp at hu; rcases hu with rfl | rfl <;> rfl) (by unfold maxLen; omega) (by omega) (by simp; omega) ?_; intro v3 w3 hown3 hgrow3 _))
  have g3 : Grow w w3 := grow_of_grown ((grow_alloc w _).trans (grow_alloc _ _)) hgrow3 (fun k e => by simp [Value.ownBlock] at e; omega)
  go_ret
  exact ⟨_, rfl, hown3, g3⟩

theorem rseal_any (l : List UInt8) (v : Value) (w : World) (hm : l.length ≤ 140737488355326) (h : Bytes w v l) :
    Calls Try.prog 19 #[v] w fun e w' => ∃ v', e = .returned v' ∧ w'.ownsRow w.heap.size 5 1 v' (l.length + 2) ((sealed l).map bv) ∧ Grow w w' := by
  obtain ⟨ao, cap, rfl, hnone, hcells⟩ := bytes_src h
  cases ao with
  | some ad => exact rseal_some l ad cap w hm h (hcells ad rfl)
  | none =>
    obtain ⟨h1, rfl⟩ := hnone rfl
    obtain rfl := List.eq_nil_of_length_eq_zero h1
    exact rseal_none w
end Go.Proofs.Ytgpfflfdigekeaa
