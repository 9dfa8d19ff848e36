/-
  sclaw2.BlockByte answers true for every record, place, number and byte.
  Condition: the record's data lie in memory.
-/
import Derived.Test.YtnngkckiehhdfaaBAlive
namespace Go.Proofs.Ytnngkckiehhdfaa
open Go.RowKit
open Go.Proofs.Ytnngkckiehhdfaa.Plain Go.Proofs.Ytnngkckiehhdfaa.Reg

set_option maxHeartbeats 1000000 in
theorem blockbyte_out (k y n at_ m c : Int) (l : List UInt8) (ao : Option Addr) (cp : Nat) (w : World) (hv : Bytes w (.slice ao l.length cp) l) (h : at_ < 0 ∨ 255 < at_) :
    Calls Try.prog 7 #[.agg #[.int .i64 k, .int .i64 y, .int .i64 n, .slice ao l.length cp], .int .i64 at_, .int .i64 m, .int .u8 c] w fun e w' => e = .returned (.bool true) ∧ Grow w w' := by
  go_enter Try.func7, Try.ntmps7
  go_wp2_with fail
  refine (balive_any _).mono ?_
  rintro e w1 ⟨rfl, g1⟩
  have gw1 : Grow w w1 := (grow_alloc _ _).trans g1
  have hb1 : w1.heap[w.heap.size]? = some (.cells #[.int .i64 k, .int .i64 y, .int .i64 n, .slice ao l.length cp] 32 (0, 0)) := (g1.block _ (by simp)).trans (heap_new _ _ _)
  have hv1 := bytes_grow hv gw1
  clear g1 hv
  have y0 := box_cell hb1 0 _ rfl
  have y1 := box_cell hb1 1 _ rfl
  have y2 := box_cell hb1 2 _ rfl
  have y3 := box_cell hb1 3 _ rfl
  rcases h with h | h
  · go_wp2_with fail
    go_ret
    exact ⟨rfl, gw1⟩
  · have h' : ¬ at_ < 0 := by omega
    go_wp2_with fail
    go_ret
    exact ⟨rfl, gw1⟩

set_option maxHeartbeats 1000000 in
theorem blockbyte_wrong (k y n at_ m c : Int) (l : List UInt8) (ao : Option Addr) (cp : Nat) (w : World) (hv : Bytes w (.slice ao l.length cp) l) (h0 : 0 ≤ at_) (h1 : at_ ≤ 255) (hw : wrong ⟨k, y, n, l⟩ ≠ 0) :
    Calls Try.prog 7 #[.agg #[.int .i64 k, .int .i64 y, .int .i64 n, .slice ao l.length cp], .int .i64 at_, .int .i64 m, .int .u8 c] w fun e w' => e = .returned (.bool true) ∧ Grow w w' := by
  have d0 : (wrong ⟨k, y, n, l⟩ != 0) = true := by simpa using hw
  clear hw
  go_enter Try.func7, Try.ntmps7
  go_wp2_with fail
  refine (balive_any _).mono ?_
  rintro e w1 ⟨rfl, g1⟩
  have gw1 : Grow w w1 := (grow_alloc _ _).trans g1
  have hb1 : w1.heap[w.heap.size]? = some (.cells #[.int .i64 k, .int .i64 y, .int .i64 n, .slice ao l.length cp] 32 (0, 0)) := (g1.block _ (by simp)).trans (heap_new _ _ _)
  have hv1 := bytes_grow hv gw1
  clear g1 hv
  have y0 := box_cell hb1 0 _ rfl
  have y1 := box_cell hb1 1 _ rfl
  have y2 := box_cell hb1 2 _ rfl
  have y3 := box_cell hb1 3 _ rfl
  go_wp2_with fail
  refine (wrong_any k y n l _ _ hv1).mono ?_
  rintro e w2 ⟨rfl, g2⟩
  clear y0 y1 y2 y3 hb1 hv1
  go_wp2_with fail
  go_ret
  exact ⟨rfl, gw1.trans g2⟩

theorem own_form {w : World} {base n : Nat} {e : TypeId} {v : Value} {xs : List Value} (h : w.ownsRow base e 1 v n xs) (hn : 0 < n) : ∃ g cap, v = .slice (some ⟨g, 0, none⟩) n cap ∧ base ≤ g := by
  rcases h.2 with ⟨_, h0⟩ | ⟨g, cap, cur, rfl, hb, _⟩
  · omega
  · exact ⟨g, cap, rfl, hb⟩

set_option maxHeartbeats 1000000 in
theorem blockbyte_none (k y n at_ m c : Int) (l : List UInt8) (ao : Option Addr) (cp : Nat) (w : World) (hv : Bytes w (.slice ao l.length cp) l) (h0 : 0 ≤ at_) (h1 : at_ ≤ 255) (hw : wrong ⟨k, y, n, l⟩ = 0) (hm : m < 0 ∨ 16 ≤ m) :
    Calls Try.prog 7 #[.agg #[.int .i64 k, .int .i64 y, .int .i64 n, .slice ao l.length cp], .int .i64 at_, .int .i64 m, .int .u8 c] w fun e w' => e = .returned (.bool true) ∧ Grow w w' := by
  have HR : Hid (wrong ⟨k, y, n, l⟩ = 0) := hw
  clear hw
  go_enter Try.func7, Try.ntmps7
  go_wp2_with fail
  refine (balive_any _).mono ?_
  rintro e w1 ⟨rfl, g1⟩
  have gw1 : Grow w w1 := (grow_alloc _ _).trans g1
  have hb1 : w1.heap[w.heap.size]? = some (.cells #[.int .i64 k, .int .i64 y, .int .i64 n, .slice ao l.length cp] 32 (0, 0)) := (g1.block _ (by simp)).trans (heap_new _ _ _)
  have hv1 := bytes_grow hv gw1
  clear g1 hv
  have y0 := box_cell hb1 0 _ rfl
  have y1 := box_cell hb1 1 _ rfl
  have y2 := box_cell hb1 2 _ rfl
  have y3 := box_cell hb1 3 _ rfl
  go_wp2_with fail
  refine (wrong_any k y n l _ _ hv1).mono ?_
  rw [HR.out]
  rintro e w2 ⟨rfl, g2⟩
  have hv2 := bytes_grow hv1 g2
  have hb2 := (g2.block _ (heap_lt hb1)).trans hb1
  have gw2 := gw1.trans g2
  clear y0 y1 y2 y3 hb1 hv1 g2 gw1
  have y0 := box_cell hb2 0 _ rfl
  have y1 := box_cell hb2 1 _ rfl
  have y2 := box_cell hb2 2 _ rfl
  have y3 := box_cell hb2 3 _ rfl
  go_wp2_with fail
  refine (bbytes_ok k y n at_ l _ _ hv2 HR.out h0 h1).mono ?_
  rintro e w3 ⟨v', rfl, ho, g3⟩
  have gw3 := gw2.trans g3
  have hge := gw2.size
  obtain ⟨g, cap, hv', hgb⟩ := own_form ho (by omega)
  subst hv'
  clear y0 y1 y2 y3 hb2 hv2 g3 gw2
  clear ho
  rcases hm with hm | hm
  · go_wp2_with fail
    go_ret
    exact ⟨rfl, gw3⟩
  · have hm' : ¬ m < 0 := by omega
    go_wp2_with fail
    go_ret
    exact ⟨rfl, gw3⟩

set_option maxHeartbeats 1000000 in
theorem blockbyte_in (k y n at_ : Int) (j : Nat) (c : UInt8) (l : List UInt8) (ao : Option Addr) (cp : Nat) (w : World) (hv : Bytes w (.slice ao l.length cp) l) (h0 : 0 ≤ at_) (h1 : at_ ≤ 255) (hw : wrong ⟨k, y, n, l⟩ = 0) (hj : j < 16) :
    Calls Try.prog 7 #[.agg #[.int .i64 k, .int .i64 y, .int .i64 n, .slice ao l.length cp], .int .i64 at_, .int .i64 j, .int .u8 (c.toNat : Int)] w fun e w' => e = .returned (.bool true) ∧ Grow w w' := by
  have HL : Hid ((blk ⟨k, y, n, l⟩ at_).length = 16) := blk_length _ _ (right_bd hw).2.2.2.2.2.2
  have hjl : j < (blk ⟨k, y, n, l⟩ at_).length := by rw [HL.out]; exact hj
  have HR : Hid (wrong ⟨k, y, n, l⟩ = 0) := hw
  clear hw
  go_enter Try.func7, Try.ntmps7
  go_wp2_with fail
  refine (balive_any _).mono ?_
  rintro e w1 ⟨rfl, g1⟩
  have gw1 : Grow w w1 := (grow_alloc _ _).trans g1
  have hb1 : w1.heap[w.heap.size]? = some (.cells #[.int .i64 k, .int .i64 y, .int .i64 n, .slice ao l.length cp] 32 (0, 0)) := (g1.block _ (by simp)).trans (heap_new _ _ _)
  have hv1 := bytes_grow hv gw1
  clear g1 hv
  have y0 := box_cell hb1 0 _ rfl
  have y1 := box_cell hb1 1 _ rfl
  have y2 := box_cell hb1 2 _ rfl
  have y3 := box_cell hb1 3 _ rfl
  go_wp2_with fail
  refine (wrong_any k y n l _ _ hv1).mono ?_
  rw [HR.out]
  rintro e w2 ⟨rfl, g2⟩
  have hv2 := bytes_grow hv1 g2
  have hb2 := (g2.block _ (heap_lt hb1)).trans hb1
  have gw2 := gw1.trans g2
  clear y0 y1 y2 y3 hb1 hv1 g2 gw1
  have y0 := box_cell hb2 0 _ rfl
  have y1 := box_cell hb2 1 _ rfl
  have y2 := box_cell hb2 2 _ rfl
  have y3 := box_cell hb2 3 _ rfl
  go_wp2_with fail
  refine (bbytes_ok k y n at_ l _ _ hv2 HR.out h0 h1).mono ?_
  rintro e w3 ⟨v', rfl, ho, g3⟩
  have gw3 := gw2.trans g3
  have hge := gw2.size
  obtain ⟨g, cap, hv', hgb⟩ := own_form ho (by omega)
  subst hv'
  clear y0 y1 y2 y3 hb2 hv2 g3 gw2
  have hcell := ho.cellAt j (by omega)
  rw [List.getElem?_map, List.getElem?_eq_getElem hjl, Option.map_some] at hcell
  unfold bv at hcell
  have hfz := ho.frozenAt j
  by_cases he : (blk ⟨k, y, n, l⟩ at_)[j] = c
  · rw [he] at hcell
    clear ho hfz
    go_wp2_with fail
    go_ret
    exact ⟨rfl, gw3⟩
  · have hne : (blk ⟨k, y, n, l⟩ at_)[j].toNat ≠ c.toNat := fun e => he (UInt8.toNat_inj.1 e)
    have d0 : (((blk ⟨k, y, n, l⟩ at_)[j].toNat : Int) == (c.toNat : Int)) = false := beq_eq_false_iff_ne.2 (by omega)
    have HT : Hid (readE ((blk ⟨k, y, n, l⟩ at_).set j c) at_ = 7) := read_turned _ _ _ _ HR.out hjl he
    have hst := (ho.stored j (.int .u8 (c.toNat : Int))).1
    have e2 : ((blk ⟨k, y, n, l⟩ at_).map bv).set j (.int .u8 (c.toNat : Int)) = ((blk ⟨k, y, n, l⟩ at_).set j c).map bv := by rw [List.map_set]; rfl
    rw [e2] at hst
    have hB := bytes_own hst
    have g4 : Grow w (w3.setCell ⟨g, j, none⟩ (.int .u8 (c.toNat : Int))) := grow_set gw3 (by show w.heap.size ≤ g; omega) _
    generalize (blk ⟨k, y, n, l⟩ at_).set j c = l2 at *
    generalize (blk ⟨k, y, n, l⟩ at_)[j].toNat = x at *
    clear ho hst e2 he hne hjl
    go_wp2_with fail
    refine (read_any l2 at_ _ _ hB).mono ?_
    rw [HT.out]
    rintro e w5 ⟨d, rfl, ho5, g5⟩
    obtain ⟨ao5, cp5, rfl⟩ := own_slice ho5
    clear ho5
    go_wp2
    go_ret
    exact ⟨rfl, (g4.trans g5).trans (grow_alloc _ _)⟩

theorem blockbyte_any (k y n at_ m : Int) (c : UInt8) (l : List UInt8) (v : Value) (w : World) (hv : Bytes w v l) :
    Calls Try.prog 7 #[.agg #[.int .i64 k, .int .i64 y, .int .i64 n, v], .int .i64 at_, .int .i64 m, .int .u8 (c.toNat : Int)] w fun e w' => e = .returned (.bool true) ∧ Grow w w' := by
  obtain ⟨ao, cp, rfl, -, -⟩ := bytes_src hv
  by_cases h : at_ < 0 ∨ 255 < at_
  · exact blockbyte_out k y n at_ m _ l ao cp w hv h
  · by_cases hw : wrong ⟨k, y, n, l⟩ = 0
    · by_cases hm : m < 0 ∨ 16 ≤ m
      · exact blockbyte_none k y n at_ m _ l ao cp w hv (by omega) (by omega) hw hm
      · obtain ⟨j, rfl⟩ := Int.eq_ofNat_of_zero_le (by omega : 0 ≤ m)
        exact blockbyte_in k y n at_ j c l ao cp w hv (by omega) (by omega) hw (by omega)
    · exact blockbyte_wrong k y n at_ m _ l ao cp w hv (by omega) (by omega) hw
end Go.Proofs.Ytnngkckiehhdfaa
