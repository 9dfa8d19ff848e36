/-
  sclaw1.SumByte answers true for every input.
  Condition: the slice holds its bytes, and fewer than 2^47 - 2 of them.
-/
import Derived.Test.YtahclfghlddekaaSealed
import Derived.Lib.SlBytesConst
namespace Go.Proofs.Ytahclfghlddekaa
open Go.RowKit
open Go.Proofs.Ytahclfghlddekaa.Plain Go.Proofs.Ytahclfghlddekaa.Reg

theorem own_form {w : World} {base n : Nat} {e : TypeId} {v : Value} {xs : List Value} (h : w.ownsRow base e 1 v n xs) (hn : 0 < n) : ∃ g cap, v = .slice (some ⟨g, 0, none⟩) n cap ∧ base ≤ g := by
  rcases h.2 with ⟨_, h0⟩ | ⟨g, cap, cur, rfl, hb, _⟩
  · omega
  · exact ⟨g, cap, rfl, hb⟩

theorem bytes_ab (w : World) : Bytes (w.alloc (.cells #[.int .u8 97, .int .u8 98] 5 (2, 3))) (.slice (some ⟨w.heap.size, 0, none⟩) 2 2) [97, 98] := by
  refine .inr ⟨w.heap.size, 0, 2, rfl, by simp, fun i hi => ?_⟩
  match i, hi with
  | 0, _ => rw [World.cell?_alloc_mark]; simp
  | 1, _ => rw [World.cell?_alloc_mark]; simp

theorem bytes_nil (w : World) : Bytes w (.slice none 0 0) [] := .inl ⟨none, 0, rfl, rfl, fun _ => rfl⟩

set_option maxHeartbeats 1000000 in
theorem alive_any (w : World) : Calls Try.prog 14 #[] w fun e w' => e = .returned (.bool true) ∧ Grow w w' := by
  have kc := fun (w : World) (C : Array Value) (n c : Nat) => Lib.run_convert_bytes_const (P := Try.prog) w 22 5 C n c Try.underlying22 Try.underlying5
  go_enter Try.func14, Try.ntmps14
  go_wp2_with fail
  refine (seal_any [97, 98] _ _ (by simp) (bytes_ab w)).mono ?_
  rintro e w1 ⟨v', rfl, ho, hg1⟩
  have g1 : Grow w w1 := (grow_alloc w _).trans hg1
  have hb1 : Bytes w1 v' (sealed [97, 98]) := bytes_own ho
  obtain ⟨g, cap, hv, _⟩ := own_form ho (by simp)
  rw [hv] at hb1 ⊢
  clear kc ho hg1 hv
  go_wp2_with fail
  refine (of_any [] _ _ (by simp) (bytes_nil _)).mono ?_
  rw [sumOf_nil]
  rintro e w' ⟨rfl, rfl⟩
  go_wp2_with fail
  refine (issealed_any (sealed [97, 98]) _ _ (by simp [sealed]) hb1).mono ?_
  rw [sealedB_sealed]
  rintro e w2 ⟨rfl, hg2⟩
  have g2 : Grow w w2 := g1.trans hg2
  clear g1 hg2 hb1
  go_wp2_with fail
  refine (issealed_any [] _ _ (by simp) (bytes_nil _)).mono ?_
  rw [show sealedB [] = false from rfl]
  rintro e w3 ⟨rfl, hg3⟩
  have g3 : Grow w w3 := g2.trans hg3
  clear g2 hg3
  go_wp2_with fail
  refine (number_any 1 2 _).mono ?_
  rintro e w' ⟨rfl, rfl⟩
  go_wp2_with fail
  refine (two_any _ _).mono ?_
  rintro e w' ⟨rfl, rfl⟩
  go_wp2
  go_ret
  exact ⟨rfl, g3.trans (grow_alloc _ _)⟩

set_option maxHeartbeats 1000000 in
theorem sumbyte_out (l : List UInt8) (v : Value) (n : Int) (c : UInt8) (w : World) (hm : l.length ≤ 140737488355326) (hb : Bytes w v l) (hn : n < 0 ∨ (l.length : Int) + 2 ≤ n) :
    Calls Try.prog 4 #[v, .int .i64 n, .int .u8 (c.toNat : Int)] w fun e w' => e = .returned (.bool true) ∧ Grow w w' := by
  obtain ⟨ao, cp0, rfl, hnone, hcells⟩ := bytes_src hb
  clear hnone hcells
  go_enter Try.func4, Try.ntmps4
  go_wp2_with fail
  refine (alive_any _).mono ?_
  rintro e w1 ⟨rfl, g1⟩
  go_wp2_with fail
  refine (seal_any l _ _ hm (bytes_grow hb g1)).mono ?_
  rintro e w2 ⟨v', rfl, ho, hg2⟩
  have g2 : Grow w w2 := g1.trans hg2
  have hB : w.heap.size ≤ w1.heap.size := g1.size
  obtain ⟨g, cap, hv, hge⟩ := own_form ho (by simp)
  have hgw : w.heap.size ≤ g := Nat.le_trans hB hge
  rw [hv] at ho ⊢
  have hb2 := bytes_own ho
  clear hg2 g1 hb hB
  go_wp2_with fail
  refine (issealed_any (sealed l) _ _ (by simp [sealed]; omega) hb2).mono ?_
  rw [sealedB_sealed]
  rintro e w3 ⟨rfl, hg3⟩
  have g3 : Grow w w3 := g2.trans hg3
  clear hg3 g2 ho hb2
  rcases hn with hn | hn
  · go_wp2
    go_ret
    exact ⟨rfl, g3⟩
  · have hn' : ¬ n < 0 := by omega
    go_wp2
    go_ret
    exact ⟨rfl, g3⟩

set_option maxHeartbeats 1000000 in
theorem sumbyte_same (l : List UInt8) (v : Value) (k : Nat) (w : World) (hm : l.length ≤ 140737488355326) (hb : Bytes w v l) (hk : k < (sealed l).length) :
    Calls Try.prog 4 #[v, .int .i64 (k : Int), .int .u8 ((sealed l)[k].toNat : Int)] w fun e w' => e = .returned (.bool true) ∧ Grow w w' := by
  have hk' : k < l.length + 2 := by rw [← sealed_length]; exact hk
  obtain ⟨ao, cp0, rfl, hnone, hcells⟩ := bytes_src hb
  clear hnone hcells
  go_enter Try.func4, Try.ntmps4
  go_wp2_with fail
  refine (alive_any _).mono ?_
  rintro e w1 ⟨rfl, g1⟩
  go_wp2_with fail
  refine (seal_any l _ _ hm (bytes_grow hb g1)).mono ?_
  rintro e w2 ⟨v', rfl, ho, hg2⟩
  have g2 : Grow w w2 := g1.trans hg2
  have hB : w.heap.size ≤ w1.heap.size := g1.size
  obtain ⟨g, cap, hv, hge⟩ := own_form ho (by simp)
  have hgw : w.heap.size ≤ g := Nat.le_trans hB hge
  rw [hv] at ho ⊢
  have hb2 := bytes_own ho
  clear hg2 g1 hb hB
  go_wp2_with fail
  refine (issealed_any (sealed l) _ _ (by simp [sealed]; omega) hb2).mono ?_
  rw [sealedB_sealed]
  rintro e w3 ⟨rfl, hg3⟩
  have g3 : Grow w w3 := g2.trans hg3
  have hc : w3.cell? ⟨g, k, none⟩ = some (.int .u8 ((sealed l)[k].toNat : Int)) := by
    have h1 := ho.cellAt k (by omega)
    rw [List.getElem?_map, List.getElem?_eq_getElem hk] at h1
    exact (Below.cell hg3 (cell_lt h1)).trans h1
  generalize (sealed l)[k].toNat = x at *
  clear hg3 g2 ho hb2
  go_wp2
  go_ret
  exact ⟨rfl, g3⟩

set_option maxHeartbeats 1000000 in
theorem sumbyte_turned (l : List UInt8) (v : Value) (k : Nat) (c : UInt8) (w : World) (hm : l.length ≤ 140737488355326) (hb : Bytes w v l) (hk : k < (sealed l).length) (hne : (sealed l)[k] ≠ c) :
    Calls Try.prog 4 #[v, .int .i64 (k : Int), .int .u8 (c.toNat : Int)] w fun e w' => e = .returned (.bool true) ∧ Grow w w' := by
  have hk' : k < l.length + 2 := by rw [← sealed_length]; exact hk
  have hne' : (((sealed l)[k].toNat : Int) == (c.toNat : Int)) = false := by
    rw [beq_eq_false_iff_ne]
    intro h
    exact hne (UInt8.toNat_inj.1 (by omega))
  obtain ⟨ao, cp0, rfl, hnone, hcells⟩ := bytes_src hb
  clear hnone hcells
  go_enter Try.func4, Try.ntmps4
  go_wp2_with fail
  refine (alive_any _).mono ?_
  rintro e w1 ⟨rfl, g1⟩
  go_wp2_with fail
  refine (seal_any l _ _ hm (bytes_grow hb g1)).mono ?_
  rintro e w2 ⟨v', rfl, ho, hg2⟩
  have g2 : Grow w w2 := g1.trans hg2
  have hB : w.heap.size ≤ w1.heap.size := g1.size
  obtain ⟨g, cap, hv, hge⟩ := own_form ho (by simp)
  have hgw : w.heap.size ≤ g := Nat.le_trans hB hge
  rw [hv] at ho ⊢
  have hb2 := bytes_own ho
  clear hg2 g1 hb hB
  go_wp2_with fail
  refine (issealed_any (sealed l) _ _ (by simp [sealed]; omega) hb2).mono ?_
  rw [sealedB_sealed]
  rintro e w3 ⟨rfl, hg3⟩
  have g3 : Grow w w3 := g2.trans hg3
  have ho3 : w3.ownsRow w1.heap.size 5 1 (.slice (some ⟨g, 0, none⟩) (l.length + 2) cap) (l.length + 2) ((sealed l).map bv) := by
    obtain ⟨h1, h2⟩ := ho
    refine ⟨h1, ?_⟩
    rcases h2 with ⟨h3, _⟩ | ⟨g', cap', cur, h3, h4, h5, h6⟩
    · cases h3
    · cases h3
      refine .inr ⟨_, _, cur, rfl, h4, ?_, h6⟩
      rw [Below.block hg3 _ ?_]
      · exact h5
      · rcases Nat.lt_or_ge g w2.heap.size with h | h
        · exact h
        · simp [Array.getElem?_eq_none h] at h5
  have hc : w3.cell? ⟨g, k, none⟩ = some (.int .u8 ((sealed l)[k].toNat : Int)) := by
    have h1 := ho3.cellAt k (by omega)
    rw [List.getElem?_map, List.getElem?_eq_getElem hk] at h1
    exact h1
  have hf : w3.frozen? ⟨g, k, none⟩ = false := ho3.frozenAt k
  have hfin : Bytes (w3.setCell ⟨g, k, none⟩ (.int .u8 (c.toNat : Int))) (.slice (some ⟨g, 0, none⟩) (l.length + 2) cap) ((sealed l).set k c) := by
    have h1 := ho3.stored k (.int .u8 (c.toNat : Int))
    have h2 : ((sealed l).map bv).set k (.int .u8 (c.toNat : Int)) = ((sealed l).set k c).map bv := by rw [List.map_set]; rfl
    rw [h2] at h1
    exact bytes_own h1.1
  have hset := sealedB_set l k c hk hne
  have g4 : Grow w (w3.setCell ⟨g, k, none⟩ (.int .u8 (c.toNat : Int))) := Below.setCell g3 hgw _
  have hlen : ((sealed l).set k c).length ≤ 140737488355328 := by simp [sealed]; omega
  generalize (sealed l).set k c = l2 at *
  generalize (sealed l)[k].toNat = x at *
  clear hg3 g2 ho hb2 ho3 hne hk
  go_wp2_with fail
  refine (issealed_any l2 _ _ hlen hfin).mono ?_
  rw [hset]
  rintro e w5 ⟨rfl, hg5⟩
  go_wp2
  go_ret
  exact ⟨rfl, g4.trans hg5⟩

theorem sumbyte_any (l : List UInt8) (v : Value) (n : Int) (c : UInt8) (w : World) (hm : l.length ≤ 140737488355326) (hb : Bytes w v l) :
    Calls Try.prog 4 #[v, .int .i64 n, .int .u8 (c.toNat : Int)] w fun e w' => e = .returned (.bool true) ∧ Grow w w' := by
  by_cases h : n < 0 ∨ (l.length : Int) + 2 ≤ n
  · exact sumbyte_out l v n c w hm hb h
  · obtain ⟨k, rfl⟩ := Int.eq_ofNat_of_zero_le (by omega : 0 ≤ n)
    have hk : k < (sealed l).length := by rw [sealed_length]; omega
    by_cases h2 : (sealed l)[k] = c
    · subst h2
      exact sumbyte_same l v k w hm hb hk
    · exact sumbyte_turned l v k c w hm hb hk h2
end Go.Proofs.Ytahclfghlddekaa
