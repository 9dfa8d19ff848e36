/-
  What the document's NewDisk makes: a disk all blocks of which are free.
  No condition.
-/
import Derived.Test.YtppgbgfahifanaaJPd
namespace Go.Proofs.Ytppgbgfahifanaa
set_option maxRecDepth 100000
open Go.RowKit
open Go.Proofs.Ytppgbgfahifanaa.Plain Go.Proofs.Ytppgbgfahifanaa.Reg

end Go.Proofs.Ytppgbgfahifanaa
