/-
  What block.Same and the document's Same tell of any two records: whether they are alike.
  Condition: the records' data lie in memory.
-/
import Derived.Test.YtgpfflfdigekeaaSealed
import Derived.Test.YtgpfflfdigekeaaRec
namespace Go.Proofs.Ytgpfflfdigekeaa
set_option maxRecDepth 100000
open Go.RowKit
open Go.Proofs.Ytgpfflfdigekeaa.Plain Go.Proofs.Ytgpfflfdigekeaa.Reg

set_option maxHeartbeats 400000 in
theorem equal_any (l m : List UInt8) (v u : Value) (w : World) (hv : Bytes w v l) (hu : Bytes w u m) :
    Calls Try.prog 57 #[v, u] w fun e w' => e = .returned (.bool (l == m)) ∧ w = w' := by
  have h1 := run_str w _ _ hv
  have h2 := run_str w _ _ hu
  unfold str at h1 h2
  clear hv hu
  go_enter Try.func57, Try.ntmps57
  go_wp2
  go_ret
  exact ⟨rfl, rfl⟩

theorem grow_alloc2 (w : World) (o p : Obj) : Grow w ((w.alloc o).alloc p) := (grow_alloc w o).trans (grow_alloc _ p)

set_option maxHeartbeats 400000 in
theorem same_any (k y n k' y' n' : Int) (l m : List UInt8) (v u : Value) (w : World) (hv : Bytes w v l) (hu : Bytes w u m) :
    Calls Try.prog 23 #[.agg #[.int .i64 k, .int .i64 y, .int .i64 n, v], .agg #[.int .i64 k', .int .i64 y', .int .i64 n', u]] w fun e w' => e = .returned (.bool (sameB ⟨k, y, n, l⟩ ⟨k', y', n', m⟩)) ∧ Grow w w' := by
  go_enter Try.func23, Try.ntmps23
  go_wp2_with (go_at_call 57; refine (equal_any l m v u _ (by exact bytes_grow hv (grow_alloc2 _ _ _)) (by exact bytes_grow hu (grow_alloc2 _ _ _))).mono ?_; rintro e w' ⟨rfl, rfl⟩)
  all_goals go_ret
  all_goals refine ⟨?_, grow_alloc2 _ _ _⟩
  all_goals simp_all [sameB]

set_option maxHeartbeats 400000 in
theorem rsame_any (k y n k' y' n' : Int) (l m : List UInt8) (v u : Value) (w : World) (hv : Bytes w v l) (hu : Bytes w u m) :
    Calls Try.prog 24 #[.agg #[.int .i64 k, .int .i64 y, .int .i64 n, v], .agg #[.int .i64 k', .int .i64 y', .int .i64 n', u]] w fun e w' => e = .returned (.bool (sameB ⟨k, y, n, l⟩ ⟨k', y', n', m⟩)) ∧ Grow w w' := by
  by_cases h : k = k' ∧ y = y' ∧ n = n'
  · obtain ⟨rfl, rfl, rfl⟩ := h
    have h1 := run_str _ _ _ (bytes_grow hv (grow_alloc2 w (.cells #[.int .i64 k, .int .i64 y, .int .i64 n, v] 32) (.cells #[.int .i64 k, .int .i64 y, .int .i64 n, u] 32)))
    have h2 := run_str _ _ _ (bytes_grow hu (grow_alloc2 w (.cells #[.int .i64 k, .int .i64 y, .int .i64 n, v] 32) (.cells #[.int .i64 k, .int .i64 y, .int .i64 n, u] 32)))
    unfold str at h1 h2
    clear hv hu
    go_enter Try.func24, Try.ntmps24
    go_wp2
    go_ret
    refine ⟨?_, grow_alloc2 _ _ _⟩
    simp [sameB]
  · clear hv hu
    by_cases h1 : k = k'
    · subst h1
      by_cases h2 : y = y'
      · subst h2
        have d3 : (n == n') = false := by simp at h; simpa using h
        have HN : Hid (sameB ⟨k, y, n, l⟩ ⟨k, y, n', m⟩ = false) := by show _ = _; simp [sameB, d3]
        rw [HN.out]
        clear h
        go_enter Try.func24, Try.ntmps24
        go_wp2_with fail
        go_ret
        exact ⟨rfl, grow_alloc2 _ _ _⟩
      · have d2 : (y == y') = false := by simpa using h2
        have HN : Hid (sameB ⟨k, y, n, l⟩ ⟨k, y', n', m⟩ = false) := by show _ = _; simp [sameB, d2]
        rw [HN.out]
        clear h h2
        go_enter Try.func24, Try.ntmps24
        go_wp2_with fail
        go_ret
        exact ⟨rfl, grow_alloc2 _ _ _⟩
    · have d1 : (k == k') = false := by simpa using h1
      have HN : Hid (sameB ⟨k, y, n, l⟩ ⟨k', y', n', m⟩ = false) := by show _ = _; simp [sameB, d1]
      rw [HN.out]
      clear h h1
      go_enter Try.func24, Try.ntmps24
      go_wp2_with fail
      go_ret
      exact ⟨rfl, grow_alloc2 _ _ _⟩
end Go.Proofs.Ytgpfflfdigekeaa
