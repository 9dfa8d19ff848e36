/-
  The program's Print and Parse keep what is asked of them, where the package variables are as they are laid.
-/
import Derived.Test.YtpfbddhlkckfhabDoorTParse2
import Derived.Test.YtpfbddhlkckfhabDoorTxtSh
namespace Go.Proofs.YtpfbddhlkckfhabDoor
set_option maxRecDepth 100000
open Go.RowKit
open Go.Proofs.YtpfbddhlkckfhabDoor.Plain Go.Proofs.YtpfbddhlkckfhabDoor.Reg

theorem tPT : TPrintC VarsT := tprintC VarsT varsT_grow itoaC
theorem tRT : TParseC VarsT := tparseC VarsT varsT_grow itoaC atoiC indexC splitC
end Go.Proofs.YtpfbddhlkckfhabDoor
