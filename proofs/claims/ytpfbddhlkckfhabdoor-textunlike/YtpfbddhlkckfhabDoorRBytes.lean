/-
  What the document's Bytes makes of a right record at a place: the block that tells it.
  Condition: the record's data lie in memory.
-/
import Derived.Test.YtpfbddhlkckfhabDoorBBytes
namespace Go.Proofs.YtpfbddhlkckfhabDoor
set_option maxRecDepth 100000
open Go.RowKit
open Go.Proofs.YtpfbddhlkckfhabDoor.Plain Go.Proofs.YtpfbddhlkckfhabDoor.Reg

/-- A block's head. -/
def head (k y n at_ : Int) (l : List UInt8) : List UInt8 := [lo k, lo at_, lo y, hi n, lo n, lo (l.length : Int)] ++ List.replicate 8 0

end Go.Proofs.YtpfbddhlkckfhabDoor
