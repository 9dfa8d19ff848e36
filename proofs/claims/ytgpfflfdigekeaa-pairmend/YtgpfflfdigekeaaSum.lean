/-
  What sum.Of and the document's Sum tell of any bytes that lie in memory: their sum.
  Condition: the slice holds those bytes, and fewer than 2^47 of them.
-/
import Derived.Test.YtgpfflfdigekeaaProg
import Derived.Test.YtgpfflfdigekeaaPlain
import Derived.Test.YtgpfflfdigekeaaReg
import Derived.WalkKit
import Derived.WalkSpells
import Derived.WalkLawsBesides
import Derived.Laws.BitsAllLaws
namespace Go.Proofs.Ytgpfflfdigekeaa
set_option maxRecDepth 100000
open Go.RowKit
open Go.Proofs.Ytgpfflfdigekeaa.Plain Go.Proofs.Ytgpfflfdigekeaa.Reg

/-- The slice value v holds the bytes l. -/
def Bytes (w : World) (v : Value) (l : List UInt8) : Prop :=
  (∃ ao cap, v = .slice ao 0 cap ∧ l = [] ∧ (ao = none → cap = 0)) ∨
  (∃ b off cap, v = .slice (some ⟨b, off, none⟩) l.length cap ∧ l.length ≤ cap ∧ ∀ (i : Nat) (h : i < l.length), w.cell? ⟨b, off + i, none⟩ = some (.int .u8 (l[i].toNat : Int)))

theorem ret_int {k : IntKind} {a b : Int} (h : a = b) : Ending.returned (.int k a) = .returned (.int k b) := by rw [h]
theorem val_int {k : IntKind} {a b : Int} (h : a = b) : Value.int k a = .int k b := by rw [h]

set_option maxHeartbeats 400000 in
theorem of_row (l : List UInt8) (b off cap : Nat) (w : World) (hm : l.length ≤ 140737488355328)
    (hc : ∀ (i : Nat) (h : i < l.length), w.cell? ⟨b, off + i, none⟩ = some (.int .u8 (l[i].toNat : Int))) :
    Calls Try.prog 15 #[.slice (some ⟨b, off, none⟩) l.length cap] w fun e w' => e = .returned (.int .i64 (sumOf l)) ∧ w = w' := by
  go_enter Try.func15, Try.ntmps15
  go_wp2
  go_loop [3, 8] (fun n i => ∃ k : Nat, k ≤ l.length ∧ i = .int .i64 k ∧ n = .int .i64 (sumOf (l.take k))) (fun _ i => l.length - (intOf i).toNat)
  case atStart => exact ⟨0, Nat.zero_le _, rfl, rfl⟩
  case round =>
    obtain ⟨k, hk, rfl, rfl⟩ := hrel
    have hs := sumOf_bd (l.take k)
    by_cases hlt : k < l.length
    · have hcell := hc k hlt
      have hb : l[k].toNat < 256 := UInt8.toNat_lt _
      have HS : Hid (sumOf (l.take (k + 1)) = (sumOf (l.take k) * 131 + (l[k].toNat : Int) + 1) % 65521) := by rw [take_snoc l k hlt]; exact sumOf_snoc _ _
      clear hc
      go_wp2
      go_round
      case rel => exact ⟨k + 1, by omega, by go_num, val_int (by rw [HS.out])⟩
      case measure => simp [intOf]; omega
    · go_wp2
      go_ret
      exact ⟨ret_int (by rw [List.take_of_length_le (by omega)]), rfl⟩

set_option maxHeartbeats 400000 in
theorem of_nil (ao : Option Addr) (cap : Nat) (w : World) : Calls Try.prog 15 #[.slice ao 0 cap] w fun e w' => e = .returned (.int .i64 (sumOf [])) ∧ w = w' := by
  go_enter Try.func15, Try.ntmps15
  go_wp2
  go_loop [3, 8] (fun n i => n = .int .i64 3 ∧ i = .int .i64 0) (fun _ i => 0)
  case atStart => exact ⟨rfl, rfl⟩
  case round =>
    obtain ⟨rfl, rfl⟩ := hrel
    go_wp2
    go_ret
    exact ⟨rfl, rfl⟩

theorem of_any (l : List UInt8) (v : Value) (w : World) (hm : l.length ≤ 140737488355328) (h : Bytes w v l) :
    Calls Try.prog 15 #[v] w fun e w' => e = .returned (.int .i64 (sumOf l)) ∧ w = w' := by
  rcases h with ⟨ao, cap, rfl, rfl, _⟩ | ⟨b, off, cap, rfl, _, hc⟩
  · exact of_nil ao cap w
  · exact of_row l b off cap w hm hc

set_option maxHeartbeats 400000 in
theorem rsum_row (l : List UInt8) (b off cap : Nat) (w : World) (hm : l.length ≤ 140737488355328)
    (hc : ∀ (i : Nat) (h : i < l.length), w.cell? ⟨b, off + i, none⟩ = some (.int .u8 (l[i].toNat : Int))) :
    Calls Try.prog 16 #[.slice (some ⟨b, off, none⟩) l.length cap] w fun e w' => e = .returned (.int .i64 (sumOf l)) ∧ w = w' := by
  go_enter Try.func16, Try.ntmps16
  go_wp2
  go_loop [3, 7] (fun n i => ∃ k : Nat, k ≤ l.length ∧ i = .int .i64 k ∧ n = .int .i64 (sumOf (l.take k))) (fun _ i => l.length - (intOf i).toNat)
  case atStart => exact ⟨0, Nat.zero_le _, rfl, rfl⟩
  case round =>
    obtain ⟨k, hk, rfl, rfl⟩ := hrel
    have hs := sumOf_bd (l.take k)
    by_cases hlt : k < l.length
    · have hcell := hc k hlt
      have hb : l[k].toNat < 256 := UInt8.toNat_lt _
      have HS : Hid (sumOf (l.take (k + 1)) = (sumOf (l.take k) * 131 + (l[k].toNat : Int) + 1) % 65521) := by rw [take_snoc l k hlt]; exact sumOf_snoc _ _
      clear hc
      go_wp2
      go_round
      case rel => exact ⟨k + 1, by omega, by go_num, val_int (by rw [HS.out, Int.mul_comm])⟩
      case measure => simp [intOf]; omega
    · go_wp2
      go_ret
      exact ⟨ret_int (by rw [List.take_of_length_le (by omega)]), rfl⟩

set_option maxHeartbeats 400000 in
theorem rsum_nil (ao : Option Addr) (cap : Nat) (w : World) : Calls Try.prog 16 #[.slice ao 0 cap] w fun e w' => e = .returned (.int .i64 (sumOf [])) ∧ w = w' := by
  go_enter Try.func16, Try.ntmps16
  go_wp2
  go_loop [3, 7] (fun n i => n = .int .i64 3 ∧ i = .int .i64 0) (fun _ i => 0)
  case atStart => exact ⟨rfl, rfl⟩
  case round =>
    obtain ⟨rfl, rfl⟩ := hrel
    go_wp2
    go_ret
    exact ⟨rfl, rfl⟩

theorem rsum_any (l : List UInt8) (v : Value) (w : World) (hm : l.length ≤ 140737488355328) (h : Bytes w v l) :
    Calls Try.prog 16 #[v] w fun e w' => e = .returned (.int .i64 (sumOf l)) ∧ w = w' := by
  rcases h with ⟨ao, cap, rfl, rfl, _⟩ | ⟨b, off, cap, rfl, _, hc⟩
  · exact rsum_nil ao cap w
  · exact rsum_row l b off cap w hm hc

set_option maxHeartbeats 400000 in
theorem two_any (n : Int) (w : World) :
    Calls Try.prog 14 #[.int .i64 n] w fun e w' => e = .returned (.slice (some ⟨w.heap.size, 0, none⟩) 2 2) ∧ w' = w.alloc (.cells #[.int .u8 ((hi n).toNat : Int), .int .u8 ((lo n).toNat : Int)] 5) := by
  rw [hi_val, lo_val]
  go_enter Try.func14, Try.ntmps14
  go_wp2
  go_ret
  exact ⟨rfl, rfl⟩

theorem or_i64 (a b : Nat) (ha : a < 256) (hb : b < 256) : bits .or .i64 ((a : Int) * 256) (b : Int) = (a : Int) * 256 + (b : Int) := by
  have hx : a * 256 ||| b = a * 256 + b := nat_join 8 (a * 256) b (by omega) (by omega)
  have e1 : (BitVec.ofInt 64 ((a * 256 : Nat) : Int)).toNat = a * 256 := by
    rw [BitVec.ofInt_natCast, BitVec.toNat_ofNat]; exact Nat.mod_eq_of_lt (by omega)
  have e2 : (BitVec.ofInt 64 (b : Int)).toNat = b := by
    rw [BitVec.ofInt_natCast, BitVec.toNat_ofNat]; exact Nat.mod_eq_of_lt (by omega)
  rw [show ((a : Int) * 256) = ((a * 256 : Nat) : Int) from by omega]
  show IntKind.i64.wrap ((BitVec.ofInt 64 ((a * 256 : Nat) : Int) ||| BitVec.ofInt 64 (b : Int)).toNat : Int) = _
  rw [BitVec.toNat_or, e1, e2, hx, IntKind.wrap_i64]
  omega

set_option maxHeartbeats 400000 in
theorem number_any (a b : UInt8) (w : World) :
    Calls Try.prog 17 #[.int .u8 (a.toNat : Int), .int .u8 (b.toNat : Int)] w fun e w' => e = .returned (.int .i64 ((a.toNat : Int) * 256 + (b.toNat : Int))) ∧ w = w' := by
  have ha : a.toNat < 256 := UInt8.toNat_lt _
  have hb : b.toNat < 256 := UInt8.toNat_lt _
  go_enter Try.func17, Try.ntmps17
  go_wp2
  go_ret
  exact ⟨ret_int (or_i64 _ _ ha hb), rfl⟩
end Go.Proofs.Ytgpfflfdigekeaa
