/-
  sclaw2.alive answers true.
  No condition.
-/
import Derived.Test.YtnngkckiehhdfaaBlk
import Derived.Lib.SlBytesConst
namespace Go.Proofs.Ytnngkckiehhdfaa
open Go.RowKit
open Go.Proofs.Ytnngkckiehhdfaa.Plain Go.Proofs.Ytnngkckiehhdfaa.Reg

theorem bytes_abc (w : World) : Bytes (w.alloc (.cells #[.int .u8 97, .int .u8 98, .int .u8 99] 5 (3, 4))) (.slice (some ⟨w.heap.size, 0, none⟩) 3 3) [97, 98, 99] := by
  refine .inr ⟨w.heap.size, 0, 3, rfl, by simp, fun i hi => ?_⟩
  match i, hi with
  | 0, _ => rw [World.cell?_alloc_mark]; simp
  | 1, _ => rw [World.cell?_alloc_mark]; simp
  | 2, _ => rw [World.cell?_alloc_mark]; simp

theorem field_data (w : World) (k y n : Int) (ao : Option Addr) (len cap : Nat) : (Instr.field 32 (.agg #[.int .i64 k, .int .i64 y, .int .i64 n, .slice ao len cap]) 3).run Try.prog w = .ok (.slice ao len cap) w := by
  unfold Instr.field
  simp only [Sem.run_bind, run_underlying Try.underlying32, Result.andThen_ok]
  simp [part, asAgg]

theorem readR_no {b : List UInt8} {a : Int} (h : readE b a ≠ 0) : readR b a = Rec.none := by unfold readR; rw [if_neg h]

def recA : Rec := ⟨2, 7, 300, [97, 98, 99]⟩
theorem recA_ok : wrong ⟨2, 7, 300, [97, 98, 99]⟩ = 0 := by decide

set_option maxHeartbeats 2000000 in
theorem balive_any (w : World) : Calls Try.prog 27 #[] w fun e w' => e = .returned (.bool true) ∧ Grow w w' := by
  have kc := fun (w : World) (C : Array Value) (n c : Nat) => Lib.run_convert_bytes_const (P := Try.prog) w 22 5 C n c Try.underlying22 Try.underlying5
  go_enter Try.func27, Try.ntmps27
  go_wp2_with fail
  refine (bbytes_ok 2 7 300 5 [97, 98, 99] _ _ (by exact bytes_grow (bytes_abc w) (grow_alloc _ _)) recA_ok (by omega) (by omega)).mono ?_
  rintro e w1 ⟨v', rfl, ho, g1⟩
  have gw1 : Grow w w1 := (grow_alloc2 _ _ _).trans g1
  have hA1 : Bytes w1 (.slice (some ⟨w.heap.size, 0, none⟩) 3 3) [97, 98, 99] := bytes_grow (bytes_abc w) ((grow_alloc _ _).trans g1)
  have hb1 : w1.heap[w.heap.size + 1]? = some (.cells #[.int .i64 2, .int .i64 7, .int .i64 300, .slice (some ⟨w.heap.size, 0, none⟩) 3 3] 32 (0, 0)) := (g1.block _ (by simp)).trans (by rw [show w.heap.size + 1 = (w.alloc (.cells #[.int .u8 97, .int .u8 98, .int .u8 99] 5 (3, 4))).heap.size from by simp]; exact heap_new _ _ _)
  have hB1 := bytes_own ho
  obtain ⟨ao, cp, rfl⟩ := own_slice ho
  clear kc ho g1
  go_wp2_with fail
  refine (read_any _ 5 _ _ hB1).mono ?_
  rw [(read_blk _ 5 recA_ok (by omega) (by omega)).1, (read_blk _ 5 recA_ok (by omega) (by omega)).2]
  rintro e w2 ⟨d, rfl, ho, g2⟩
  have hB2 := bytes_grow hB1 g2
  have hA2 := bytes_grow hA1 g2
  have hb2 := (g2.block _ (heap_lt hb1)).trans hb1
  have gw2 := gw1.trans g2
  have hD2 := bytes_own ho
  obtain ⟨ao', cp', rfl⟩ := own_slice ho
  clear ho g2 hB1 hA1 hb1 gw1
  go_wp2_with fail
  refine (read_any _ 6 _ _ (by exact bytes_grow hB2 (grow_alloc _ _))).mono ?_
  rw [read_other _ 5 6 recA_ok (by omega) (by omega) (by omega), readR_no (by rw [read_other _ 5 6 recA_ok (by omega) (by omega) (by omega)]; omega)]
  rintro e w3 ⟨d, rfl, ho, g3⟩
  have g23 : Grow w2 w3 := (grow_alloc _ _).trans g3
  have hA3 := bytes_grow hA2 g23
  have hD3 := bytes_grow hD2 g23
  have hb3 := (g23.block _ (heap_lt hb2)).trans hb2
  have hx3 : w3.heap[w2.heap.size]? = some (.cells #[.int .i64 2, .int .i64 7, .int .i64 300, .slice ao' 3 cp'] 32 (0, 0)) := (g3.block _ (by simp)).trans (heap_new _ _ _)
  have gw3 := gw2.trans g23
  obtain ⟨ao2, cp2, rfl⟩ := own_slice ho
  clear ho g3 hB2 hA2 hb2 gw2 hD2 g23
  have y0 := box_cell hb3 0 _ rfl
  have y1 := box_cell hb3 1 _ rfl
  have y2 := box_cell hb3 2 _ rfl
  have y3 := box_cell hb3 3 _ rfl
  have x0 := box_cell hx3 0 _ rfl
  have x1 := box_cell hx3 1 _ rfl
  have x2 := box_cell hx3 2 _ rfl
  have x3 := box_cell hx3 3 _ rfl
  have hz1 := heap_lt hb3
  have hz2 := heap_lt hx3
  go_wp2_with fail
  refine (same_any _ _ _ _ _ _ [97, 98, 99] [97, 98, 99] _ _ _ (by exact bytes_grow hA3 (grow_alloc _ _)) (by exact bytes_grow hD3 (grow_alloc _ _))).mono ?_
  rw [sameB_refl]
  rintro e w4 ⟨rfl, g4⟩
  have g34 : Grow w3 w4 := (grow_alloc _ _).trans g4
  have hA4 := bytes_grow hA3 g34
  have hb4 := (g34.block _ (heap_lt hb3)).trans hb3
  have gw4 := gw3.trans g34
  clear g4 g34 hA3 hb3 hx3 hD3 gw3 y0 y1 y2 y3 x0 x1 x2 x3 hz1 hz2
  have y0 := box_cell hb4 0 _ rfl
  have y1 := box_cell hb4 1 _ rfl
  have y2 := box_cell hb4 2 _ rfl
  have y3 := box_cell hb4 3 _ rfl
  go_wp2_with fail
  refine (wrong_any _ _ _ [97, 98, 99] _ _ hA4).mono ?_
  rw [recA_ok]
  rintro e w5 ⟨rfl, g5⟩
  have hA5 := bytes_grow hA4 g5
  have hb5 := (g5.block _ (heap_lt hb4)).trans hb4
  have gw5 := gw4.trans g5
  clear g5 hA4 hb4 gw4 y0 y1 y2 y3
  have y0 := box_cell hb5 0 _ rfl
  have y1 := box_cell hb5 1 _ rfl
  have y2 := box_cell hb5 2 _ rfl
  have y3 := box_cell hb5 3 _ rfl
  go_wp2_with fail
  refine (own_any _ _ _ [97, 98, 99] _ _ (by simp) hA5).mono ?_
  rintro e w6 ⟨v6, rfl, ho, g6⟩
  obtain ⟨ao3, cp3, rfl⟩ := own_slice ho
  clear ho
  have fd := field_data
  go_wp2
  go_ret
  exact ⟨rfl, gw5.trans g6⟩
end Go.Proofs.Ytnngkckiehhdfaa
