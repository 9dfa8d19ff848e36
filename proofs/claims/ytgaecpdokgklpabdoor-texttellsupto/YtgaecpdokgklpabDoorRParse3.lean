/-
  The document's Parse, as the laws of chapter 7 ask it.
  Condition: strconv's Itoa and Atoi answer as they should (premises).
-/
import Derived.Test.YtgaecpdokgklpabDoorRParse2
import Derived.Test.YtgaecpdokgklpabDoorTextLaw
namespace Go.Proofs.YtgaecpdokgklpabDoor
set_option maxRecDepth 100000
open Go.RowKit
open Go.Proofs.YtgaecpdokgklpabDoor.Plain Go.Proofs.YtgaecpdokgklpabDoor.Reg

theorem rparseC (V : World → Prop) (hV : ∀ w w', V w → Grow w w' → V w') (IT : ItoaC V) (AT : AtoiC V) : RParseC V := fun s w hw hs =>
 (rparse_any V hV IT AT s w hw hs).mono fun _ _ ⟨⟨v, h1, h2⟩, h3⟩ => ⟨v, h1, h2, h3⟩
end Go.Proofs.YtgaecpdokgklpabDoor
