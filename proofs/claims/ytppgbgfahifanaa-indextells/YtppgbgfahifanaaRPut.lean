/-
  What the document's free and PutPair tell: a disk with both blocks of a pair written.
  Condition: the disk lies in memory, of at most 256 blocks, and the record's data do.
-/
import Derived.Test.YtppgbgfahifanaaRGet
import Derived.Test.YtppgbgfahifanaaJReg
namespace Go.Proofs.Ytppgbgfahifanaa
set_option maxRecDepth 100000
open Go.RowKit
open Go.Proofs.Ytppgbgfahifanaa.Plain Go.Proofs.Ytppgbgfahifanaa.Reg

set_option maxHeartbeats 400000 in
theorem free_any (w : World) : Calls Try.prog 76 #[] w fun e w' => e = .returned (.agg #[.int .i64 1, .int .i64 0, .int .i64 0, .slice none 0 0]) ∧ Grow w w' := by
  go_enter Try.func76, Try.ntmps76
  go_wp2
  exact bodyPost_ret (v := .agg #[.int .i64 1, .int .i64 0, .int .i64 0, .slice none 0 0]) (by simp [results, Try.results76, go_sem]) rfl ⟨rfl, grow_alloc _ _⟩

end Go.Proofs.Ytppgbgfahifanaa
