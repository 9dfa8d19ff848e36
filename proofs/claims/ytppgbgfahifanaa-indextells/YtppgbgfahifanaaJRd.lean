/-
  RFlush, RKeep, RSpoil: several texts in one.
-/
import Derived.Test.YtppgbgfahifanaaROut
import Derived.Laws.OwnMore
/-
  What the document's Flush makes of a disk.
  Condition: the disk lies in memory, of at most 256 blocks, writes of no place below nought.
-/
namespace Go.Proofs.Ytppgbgfahifanaa
set_option maxRecDepth 100000
open Go.RowKit
open Go.Proofs.Ytppgbgfahifanaa.Plain Go.Proofs.Ytppgbgfahifanaa.Reg

end Go.Proofs.Ytppgbgfahifanaa

/-
  What the document's Keep makes of a disk, by bits.
  Condition: the disk lies in memory, of some blocks, at most 256, writes of places that there are.
-/
namespace Go.Proofs.Ytppgbgfahifanaa
set_option maxRecDepth 100000
open Go.RowKit
open Go.Proofs.Ytppgbgfahifanaa.Plain Go.Proofs.Ytppgbgfahifanaa.Reg

end Go.Proofs.Ytppgbgfahifanaa

/-
  What the document's Spoil makes of a disk.
  Condition: the disk lies in memory, of at most 256 blocks of at most 1000 bytes.
-/
namespace Go.Proofs.Ytppgbgfahifanaa
set_option maxRecDepth 100000
open Go.RowKit
open Go.Proofs.Ytppgbgfahifanaa.Plain Go.Proofs.Ytppgbgfahifanaa.Reg

end Go.Proofs.Ytppgbgfahifanaa
