/-
  What the program's pair.Put and pair.Mend make of a disk.
  Condition: the disk lies in memory, as the document has disks; the record does.
-/
import Derived.Test.YtppgbgfahifanaaPTell
namespace Go.Proofs.Ytppgbgfahifanaa
set_option maxRecDepth 100000
open Go.RowKit
open Go.Proofs.Ytppgbgfahifanaa.Plain Go.Proofs.Ytppgbgfahifanaa.Reg

end Go.Proofs.Ytppgbgfahifanaa
