/-
  Rows of records and of entries that came in, as the walks want them.
  Condition: as the row reads them.
-/
import Derived.Test.YtpfbddhlkckfhabDoorJArg
import Derived.Test.YtpfbddhlkckfhabDoorRow
namespace Go.Proofs.YtpfbddhlkckfhabDoor
set_option maxRecDepth 100000
open Go.RowKit Go.ChangeShapes Go.WideShapes Go.ChangeAt Go.Deep
open Go.Proofs.YtpfbddhlkckfhabDoor.Plain Go.Proofs.YtpfbddhlkckfhabDoor.Reg

section
variable {H : Type} {enc : TypeId × Value → H} {W : World}

instance : Inhabited Rec := ⟨⟨0, 0, 0, []⟩⟩
instance : Inhabited Ent := ⟨⟨⟨0, 0, 0, []⟩, 0⟩⟩
end
end Go.Proofs.YtpfbddhlkckfhabDoor
