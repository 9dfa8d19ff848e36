/-
  What a pair tells, told of lists: mended, it tells the same, twice; one block is enough. No program.
-/
import Derived.Test.YtppgbgfahifanaaRMend
import Derived.Test.YtppgbgfahifanaaDkLaw
import Derived.Test.YtppgbgfahifanaaBlk
namespace Go.Proofs.Ytppgbgfahifanaa
set_option maxRecDepth 100000
open Go.Proofs.Ytppgbgfahifanaa.Plain

theorem wrong_free : wrong Rec.free = 0 := by decide
theorem side_wrong (d : Dk) (a : Int) : wrong (sideR d a) = 0 := by
  unfold sideR
  split
  · next h => exact (blk_read _ _ h).1
  · exact wrong_free
theorem tell_wrong (d : Dk) (p : Int) : wrong (d.tell p) = 0 := by
  unfold Dk.tell
  split
  · exact wrong_free
  · split
    · exact wrong_free
    · unfold firstR; split
      · exact side_wrong _ _
      · exact side_wrong _ _
end Go.Proofs.Ytppgbgfahifanaa
