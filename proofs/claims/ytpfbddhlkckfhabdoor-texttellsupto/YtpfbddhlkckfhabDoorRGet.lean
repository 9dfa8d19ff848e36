/-
  What the document's GetBlock and PutBlock tell of any disk.
  Condition: the disk lies in memory.
-/
import Derived.Test.YtpfbddhlkckfhabDoorRDisk
namespace Go.Proofs.YtpfbddhlkckfhabDoor
set_option maxRecDepth 100000
open Go.RowKit
open Go.Proofs.YtpfbddhlkckfhabDoor.Plain Go.Proofs.YtpfbddhlkckfhabDoor.Reg

end Go.Proofs.YtpfbddhlkckfhabDoor
