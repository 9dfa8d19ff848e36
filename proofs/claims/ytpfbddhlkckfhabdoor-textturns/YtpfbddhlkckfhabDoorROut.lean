/-
  A disk's variable whose blocks grow one by one, and what the document's Flush makes of a disk.
  Condition: the disk lies in memory, of at most 256 blocks.
-/
import Derived.Test.YtpfbddhlkckfhabDoorRPut
import Derived.Test.YtpfbddhlkckfhabDoorDkLaw
namespace Go.Proofs.YtpfbddhlkckfhabDoor
set_option maxRecDepth 100000
open Go.RowKit
open Go.Proofs.YtpfbddhlkckfhabDoor.Plain Go.Proofs.YtpfbddhlkckfhabDoor.Reg

end Go.Proofs.YtpfbddhlkckfhabDoor
