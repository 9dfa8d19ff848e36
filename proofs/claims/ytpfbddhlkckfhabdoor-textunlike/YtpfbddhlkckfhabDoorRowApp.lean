/-
  A row that grows by a whole slice at once: 'append(row, slice...)'. No program but the types' numbers.
-/
import Derived.Test.YtpfbddhlkckfhabDoorRow
import Derived.Deep.Slices
namespace Go.Proofs.YtpfbddhlkckfhabDoor
set_option maxRecDepth 100000
open Go.RowKit Go.Deep
open Go.Proofs.YtpfbddhlkckfhabDoor.Plain Go.Proofs.YtpfbddhlkckfhabDoor.Reg

end Go.Proofs.YtpfbddhlkckfhabDoor
