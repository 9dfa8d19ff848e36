/-
  Disks whose rows are all their own, and what the program's disk.ownBlocks makes of blocks.
  Condition: the blocks lie in memory, at most 256 of them, of at most 1000 bytes.
-/
import Derived.Test.YtgpfflfdigekeaaROut
import Derived.Laws.OwnMore
namespace Go.Proofs.Ytgpfflfdigekeaa
set_option maxRecDepth 100000
open Go.RowKit
open Go.Proofs.Ytgpfflfdigekeaa.Plain Go.Proofs.Ytgpfflfdigekeaa.Reg

/-- The slice v is a row of its own, from block B on, of slices us that are rows of their own of these bytes. -/
structure OwnU (B : Nat) (v : Value) (bs : List (List UInt8)) (us : List Value) (w : World) : Prop where
  len : us.length = bs.length
  row : w.ownsRow B 22 1 v bs.length us
  each : ∀ i (hi : i < bs.length), ∃ u, us[i]? = some u ∧ w.ownsRow B 5 1 u bs[i].length (bs[i].map bv)
/-- No two of them are the same row. -/
def Apart (us : List Value) : Prop := ∀ (i j : Nat) (u u' : Value) (p : Nat), i < j → us[i]? = some u → us[j]? = some u' → u.ownBlock = some p → u'.ownBlock ≠ some p
def OwnBs (B : Nat) (v : Value) (bs : List (List UInt8)) (w : World) : Prop := ∃ us, OwnU B v bs us w
theorem OwnU.grow {B : Nat} {v : Value} {bs : List (List UInt8)} {us : List Value} {w w' : World} (h : OwnU B v bs us w) (hg : Grow w w') : OwnU B v bs us w' :=
  ⟨h.len, own_grow h.row hg, fun i hi => (h.each i hi).imp fun _ hu => ⟨hu.1, own_grow hu.2 hg⟩⟩
theorem OwnU.mono {B B' : Nat} {v : Value} {bs : List (List UInt8)} {us : List Value} {w : World} (h : OwnU B v bs us w) (hb : B' ≤ B) : OwnU B' v bs us w :=
  ⟨h.len, own_mono h.row hb, fun i hi => (h.each i hi).imp fun _ hu => ⟨hu.1, own_mono hu.2 hb⟩⟩
theorem OwnU.box {B : Nat} {v : Value} {bs : List (List UInt8)} {us : List Value} {w w' : World} (h : OwnU B v bs us w) (hs : BoxStep 46 w w') : OwnU B v bs us w' :=
  ⟨h.len, own_box (by decide) hs h.row, fun i hi => (h.each i hi).imp fun _ hu => ⟨hu.1, own_box (by decide) hs hu.2⟩⟩
theorem OwnU.p {B : Nat} {v : Value} {bs : List (List UInt8)} {us : List Value} {w : World} (h : OwnU B v bs us w) : BlocksP w v bs := by
  rcases h.row.2 with ⟨rfl, h0⟩ | ⟨q, cap, cur, rfl, hb, hh, k1, k2, k3, k4⟩
  · exact .inl ⟨none, 0, rfl, List.eq_nil_of_length_eq_zero h0, fun _ => rfl⟩
  · refine .inr ⟨q, 0, cap, rfl, k1, fun i hi => ?_⟩
    have c0 := h.row.cellAt i (by omega)
    obtain ⟨u, hu1, hu2⟩ := h.each i hi
    rw [hu1] at c0
    exact ⟨u, by rw [Nat.zero_add]; exact c0, bytes_own hu2⟩
theorem OwnBs.grow {B : Nat} {v : Value} {bs : List (List UInt8)} {w w' : World} (h : OwnBs B v bs w) (hg : Grow w w') : OwnBs B v bs w' := h.imp fun _ x => x.grow hg
theorem OwnBs.mono {B B' : Nat} {v : Value} {bs : List (List UInt8)} {w : World} (h : OwnBs B v bs w) (hb : B' ≤ B) : OwnBs B' v bs w := h.imp fun _ x => x.mono hb
theorem OwnBs.box {B : Nat} {v : Value} {bs : List (List UInt8)} {w w' : World} (h : OwnBs B v bs w) (hs : BoxStep 46 w w') : OwnBs B v bs w' := h.imp fun _ x => x.box hs
theorem OwnBs.p {B : Nat} {v : Value} {bs : List (List UInt8)} {w : World} (h : OwnBs B v bs w) : BlocksP w v bs := h.elim fun _ x => x.p
theorem OwnBs.form {B : Nat} {v : Value} {bs : List (List UInt8)} {w : World} (h : OwnBs B v bs w) : ∃ ao cap, v = .slice ao bs.length cap := h.p.form

theorem makeBlocks (w : World) (n : Nat) (hn : n ≤ 256) : (Instr.makeSlice 43 (.int .i64 (n : Int)) (.int .i64 (n : Int))).run Try.prog w = .ok (.slice (some ⟨w.heap.size, 0, none⟩) n n) (w.alloc (.cells (Array.replicate n (.slice none 0 0)) 22)) := by
  obtain ⟨i0, hif, hz0, hz1, hz2⟩ := info_parts info_bytes
  have h := run_make (P := Try.prog) w 43 22 i0 (.slice none 0 0) Try.underlying43 hif hz0 .i64 .i64 n n (by omega) (by omega) (by rw [hz2]; omega) (by omega)
  rw [h, hz1]
  have e : madeCells (Value.slice none 0 0).cells ((n : Int).toNat * 1) = Array.replicate n (Value.slice none 0 0) := by
    have h2 := toList_madeCells_one (.slice none 0 0) n
    rw [Int.toNat_natCast, Nat.mul_one, ← List.toArray_replicate, ← h2]
    rfl
  rw [e, Int.toNat_natCast]

/-- What holds while blocks are copied, k of them done. -/
structure CopyL (B : Nat) (bs : List (List UInt8)) (k : Nat) (us : List Value) (w : World) : Prop where
  len : us.length = bs.length
  row : w.ownsRow B 22 1 (.slice (some ⟨B, 0, none⟩) bs.length bs.length) bs.length us
  each : ∀ i (hi : i < bs.length), i < k → ∃ u, us[i]? = some u ∧ w.ownsRow B 5 1 u bs[i].length (bs[i].map bv)
  apart : ∀ (i j : Nat) (u u' : Value) (p : Nat), i < j → j < k → us[i]? = some u → us[j]? = some u' → u.ownBlock = some p → u'.ownBlock ≠ some p

theorem own_block {w : World} {B n : Nat} {e : TypeId} {size g cap : Nat} {xs : List Value} (h : w.ownsRow B e size (.slice (some ⟨g, 0, none⟩) n cap) n xs) : ∃ cur, w.heap[g]? = some (.cells cur e (0, 0)) := by
  rcases h.2 with ⟨e, _⟩ | ⟨q', cap', cur, e, _, hh, _⟩
  · cases e
  · cases e; exact ⟨cur, hh⟩

theorem CopyL.step {B k : Nat} {bs : List (List UInt8)} {us : List Value} {w w1 : World} {u : Value} (h : CopyL B bs k us w) (hk : k < bs.length) (hB : B ≤ w.heap.size) (hg : Grow w w1) (hu : w1.ownsRow w.heap.size 5 1 u bs[k].length (bs[k].map bv)) : CopyL B bs (k + 1) (us.set k u) (w1.setCell ⟨B, k, none⟩ u) := by
  obtain ⟨cur, hcur⟩ := own_block (own_grow h.row hg)
  refine ⟨by rw [List.length_set]; exact h.len, ((own_grow h.row hg).stored k u).1, fun i hi hik => ?_, fun i j x x' p hij hjk hx hx' hp => ?_⟩
  · by_cases e : k = i
    · subst e
      exact ⟨u, by rw [List.getElem?_set]; simp [h.len, hi], own_type2 (own_mono hu hB) hcur (by decide)⟩
    · obtain ⟨x, h1, h2⟩ := h.each i hi (by omega)
      exact ⟨x, by rw [List.getElem?_set]; simp [e, h1], own_type2 (own_grow h2 hg) hcur (by decide)⟩
  · have hi : i < bs.length := by omega
    rw [List.getElem?_set, if_neg (by omega)] at hx
    by_cases e : k = j
    · subst e
      rw [List.getElem?_set, if_pos rfl, if_pos (by rw [h.len]; exact hk)] at hx'
      cases hx'
      obtain ⟨y, h1, h2⟩ := h.each i hi (by omega)
      rw [hx] at h1; cases h1
      intro hq
      have a1 := (h2.lt p hp).2
      have a2 := (hu.lt p hq).1
      omega
    · rw [List.getElem?_set, if_neg e] at hx'
      exact h.apart i j x x' p hij (by omega) hx hx' hp

set_option maxHeartbeats 2000000 in
theorem ownBlocks_any (bs : List (List UInt8)) (v : Value) (w : World) (hb : BlocksP w v bs) (hlen : bs.length ≤ 256) (h16 : ∀ x ∈ bs, x.length ≤ 1000) :
    Calls Try.prog 67 #[v] w fun e w' => ∃ v' us, e = .returned v' ∧ OwnU w.heap.size v' bs us w' ∧ Apart us ∧ Grow w w' := by
  obtain ⟨ab, cb, rfl⟩ := hb.form
  have mk := fun w => makeBlocks w bs.length hlen
  have hg0 := grow_alloc w (.cells (Array.replicate bs.length (.slice none 0 0)) 22)
  have hstart : CopyL w.heap.size bs 0 (List.replicate bs.length (.slice none 0 0)) (w.alloc (.cells (Array.replicate bs.length (.slice none 0 0)) 22)) := by
    refine ⟨by simp, ?_, fun i _ h => by omega, fun i j _ _ _ _ h => by omega⟩
    have := World.ownsRow_lit (e := 22) (base := w.heap.size) (size := 1) w (Array.replicate bs.length (.slice none 0 0)) bs.length (Nat.le_refl _) (by unfold maxLen; omega) (by simp)
    simpa using this
  go_enter Try.func67, Try.ntmps67
  go_wp2_with fail
  clear mk
  generalize World.alloc w _ = W at *
  go_loopw [11] (fun i wr => ∃ k : Nat, k ≤ bs.length ∧ i = .int .i64 k ∧ Grow w wr ∧ ∃ us, CopyL w.heap.size bs k us wr) (fun i _ => bs.length - (intOf i).toNat)
  case atStart => exact ⟨0, Nat.zero_le _, rfl, hg0, _, hstart⟩
  case round =>
    clear hstart hg0
    obtain ⟨k, hk, rfl, hg, us, hL⟩ := hrel
    by_cases hlt : k < bs.length
    · obtain ⟨b, off, hvb, u, hc0, hu⟩ := (hb.grow hg).at k hlt
      cases hvb
      have hx16 := h16 bs[k] (List.getElem_mem _)
      have hstep := fun w1 u => CopyL.step (w1 := w1) (u := u) hL hlt hg.size
      have hgw := fun (w1 : World) (g1 : Grow wr w1) => hg.trans g1
      obtain ⟨au, cu, rfl, -, -⟩ := bytes_src hu
      have hlk : (bs[k]).length ≤ 140737488355328 := by omega
      go_wp2_with fail
      refine (clone_any bs[k] _ _ hlk hu).mono ?_
      rintro e w1 ⟨v1, rfl, ho, g1⟩
      have hs1 := hstep w1 v1 g1 ho
      have gw1 := hgw w1 g1
      have hrow := own_grow hL.row g1
      obtain ⟨a1, c1, rfl⟩ := own_slice ho
      have fq := hrow.frozenAt k
      have cq := hrow.cellAt k (by omega)
      rw [List.getElem?_eq_getElem (by rw [hL.len]; exact hlt)] at cq
      generalize us[k]'(by rw [hL.len]; exact hlt) = xm at cq
      have gw2 := grow_set gw1 (a := ⟨w.heap.size, k, none⟩) (Nat.le_refl _) (.slice a1 (bs[k]).length c1)
      clear hstep hgw hrow hL ho hc0 hu gw1 g1 hb
      go_wp2_with fail
      go_roundw
      case rel => exact ⟨k + 1, by omega, by simp, gw2, _, hs1⟩
      case measure => simp [intOf]; omega
    · have hk' : k = bs.length := by omega
      subst hk'
      have hE : OwnU w.heap.size (.slice (some ⟨w.heap.size, 0, none⟩) bs.length bs.length) bs us wr := ⟨hL.len, hL.row, fun i hi => hL.each i hi hi⟩
      have hA : Apart us := by
        intro i j u u' p hij h1 h2 h3
        have hj : j < bs.length := by
          rcases Nat.lt_or_ge j us.length with h | h
          · rw [← hL.len]; exact h
          · rw [List.getElem?_eq_none h] at h2; cases h2
        exact hL.apart i j u u' p hij hj h1 h2 h3
      clear hL hb
      go_wp2_with fail
      go_ret
      exact ⟨_, us, rfl, hE, hA, hg⟩
end Go.Proofs.Ytgpfflfdigekeaa
