/-
  What block.Same and the document's Same tell of any two records: whether they are alike.
  Condition: the records' data lie in memory.
-/
import Derived.Test.YtobhchebggaipaaSealed
import Derived.Test.YtobhchebggaipaaRec
namespace Go.Proofs.Ytobhchebggaipaa
open Go.RowKit
open Go.Proofs.Ytobhchebggaipaa.Plain Go.Proofs.Ytobhchebggaipaa.Reg

set_option maxHeartbeats 400000 in
theorem equal_any (l m : List UInt8) (v u : Value) (w : World) (hv : Bytes w v l) (hu : Bytes w u m) :
    Calls Try.prog 54 #[v, u] w fun e w' => e = .returned (.bool (l == m)) ∧ w = w' := by
  have h1 := run_str w _ _ hv
  have h2 := run_str w _ _ hu
  unfold str at h1 h2
  clear hv hu
  go_enter Try.func54, Try.ntmps54
  go_wp2
  go_ret
  exact ⟨rfl, rfl⟩

theorem grow_alloc2 (w : World) (o p : Obj) : Grow w ((w.alloc o).alloc p) := (grow_alloc w o).trans (grow_alloc _ p)

set_option maxHeartbeats 400000 in
theorem same_any (k y n k' y' n' : Int) (l m : List UInt8) (v u : Value) (w : World) (hv : Bytes w v l) (hu : Bytes w u m) :
    Calls Try.prog 21 #[.agg #[.int .i64 k, .int .i64 y, .int .i64 n, v], .agg #[.int .i64 k', .int .i64 y', .int .i64 n', u]] w fun e w' => e = .returned (.bool (sameB ⟨k, y, n, l⟩ ⟨k', y', n', m⟩)) ∧ Grow w w' := by
  go_enter Try.func21, Try.ntmps21
  go_wp2_with (go_at_call 54; refine (equal_any l m v u _ (by exact bytes_grow hv (grow_alloc2 _ _ _)) (by exact bytes_grow hu (grow_alloc2 _ _ _))).mono ?_; rintro e w' ⟨rfl, rfl⟩)
  all_goals go_ret
  all_goals refine ⟨?_, grow_alloc2 _ _ _⟩
  all_goals simp_all [sameB]

set_option maxHeartbeats 400000 in
theorem rsame_any (k y n k' y' n' : Int) (l m : List UInt8) (v u : Value) (w : World) (hv : Bytes w v l) (hu : Bytes w u m) :
    Calls Try.prog 22 #[.agg #[.int .i64 k, .int .i64 y, .int .i64 n, v], .agg #[.int .i64 k', .int .i64 y', .int .i64 n', u]] w fun e w' => e = .returned (.bool (sameB ⟨k, y, n, l⟩ ⟨k', y', n', m⟩)) ∧ Grow w w' := by
  by_cases h : k = k' ∧ y = y' ∧ n = n'
  · obtain ⟨rfl, rfl, rfl⟩ := h
    have h1 := run_str _ _ _ (bytes_grow hv (grow_alloc2 w (.cells #[.int .i64 k, .int .i64 y, .int .i64 n, v] 32) (.cells #[.int .i64 k, .int .i64 y, .int .i64 n, u] 32)))
    have h2 := run_str _ _ _ (bytes_grow hu (grow_alloc2 w (.cells #[.int .i64 k, .int .i64 y, .int .i64 n, v] 32) (.cells #[.int .i64 k, .int .i64 y, .int .i64 n, u] 32)))
    unfold str at h1 h2
    clear hv hu
    go_enter Try.func22, Try.ntmps22
    go_wp2
    go_ret
    refine ⟨?_, grow_alloc2 _ _ _⟩
    simp [sameB]
  · have HH : Hid (¬ (k = k' ∧ y = y' ∧ n = n')) := h
    clear h hv hu
    go_enter Try.func22, Try.ntmps22
    go_wp2_with fail
    all_goals first
      | (exfalso; exact HH.out ⟨by assumption, by assumption, by assumption⟩)
      | (go_ret; refine ⟨?_, grow_alloc2 _ _ _⟩; simp_all [sameB]; done)
end Go.Proofs.Ytobhchebggaipaa
