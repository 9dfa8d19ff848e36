/-
  DERIVED. GIVEN WITH THE SEED: THE CARDS: each row of YtgaecpdokgklpadGreatDoorRows.lean that lists a variable, with what it lists TIED to the program's text (the seventh form; the later family's looks); each row that meets fmt, with fmt's text TOLD by the authors' own Lean function (tested against real Go, not proved from fmt's source: count such statements apart). THE CARD IS WHAT COUNTS. Prove the row's statement (the work); the ties are given (YtgaecpdokgklpadGreatDoorTie.lean); close each card by the builder's one call (the guide's Derived/Test/ToyasCard.lean, 'card_holds'). Laid BY PROGRAM, IN A SANDBOX (cutbox-door.mjs). By AI agents, Wed Nov 11 2026. No macro, syntax, notation, axiom, sorry.
-/
import Derived.Test.YtgaecpdokgklpadGreatDoorRows
import GoSem.ClaimSeven
namespace Go.Proofs.YtgaecpdokgklpadGreatDoor
namespace Rows

/-- THE TIED CARD OF 'sctop.TopRot'. -/
def topRotCard : Claim7 := { stood := { row := topRotRow, standIns := [], harness := (true, "a541d0d3986a90637e22dc6c3447d9aa252cd34d59df65483307c337d35abe73"), looks := true }, kinds := [], alts := [], laidByText := true, laidKinds := [.data, .data, .data, .data, .sentinel, .sentinel, .pinned], laidTests := true, laidLooks := .later }
def TopRotCardSaid : Prop := Claim7.holds Tryz.pinned (.plain (OpenSpec.ofChange topRotSpec)) topRotCard

/-- THE TIED CARD OF 'sctop.TopFall'. -/
def topFallCard : Claim7 := { stood := { row := topFallRow, standIns := [], harness := (true, "a541d0d3986a90637e22dc6c3447d9aa252cd34d59df65483307c337d35abe73"), looks := true }, kinds := [], alts := [], laidByText := true, laidKinds := [.data, .data, .data, .data, .sentinel, .sentinel, .pinned], laidTests := true, laidLooks := .later }
def TopFallCardSaid : Prop := Claim7.holds Tryz.pinned (.plain (OpenSpec.ofChange topFallSpec)) topFallCard

/-- THE TIED CARD OF 'sctop.TopBack'. -/
def topBackCard : Claim7 := { stood := { row := topBackRow, standIns := [], harness := (true, "a541d0d3986a90637e22dc6c3447d9aa252cd34d59df65483307c337d35abe73"), looks := true }, kinds := [], alts := [], laidByText := true, laidKinds := [.data, .data, .data, .data, .sentinel, .sentinel, .pinned], laidTests := true, laidLooks := .later }
def TopBackCardSaid : Prop := Claim7.holds Tryz.pinned (.plain (OpenSpec.ofChange topBackSpec)) topBackCard

/-- THE SECOND FORM's CARD OF 'sctop.TopRot'. -/
def topRotUptoCard : Claim7 := { stood := { row := topRotUptoRow, standIns := [], harness := (true, "a541d0d3986a90637e22dc6c3447d9aa252cd34d59df65483307c337d35abe73"), looks := true }, kinds := [], alts := [], laidByText := true, laidKinds := [.data, .data, .data, .data, .sentinel, .sentinel, .pinned], laidTests := true, laidLooks := .later }
def TopRotUptoCardSaid : Prop := Claim7.holds Tryz.pinned (.plain (OpenSpec.upto topRotSpec)) topRotUptoCard

/-- THE SECOND FORM's CARD OF 'sctop.TopFall'. -/
def topFallUptoCard : Claim7 := { stood := { row := topFallUptoRow, standIns := [], harness := (true, "a541d0d3986a90637e22dc6c3447d9aa252cd34d59df65483307c337d35abe73"), looks := true }, kinds := [], alts := [], laidByText := true, laidKinds := [.data, .data, .data, .data, .sentinel, .sentinel, .pinned], laidTests := true, laidLooks := .later }
def TopFallUptoCardSaid : Prop := Claim7.holds Tryz.pinned (.plain (OpenSpec.upto topFallSpec)) topFallUptoCard

/-- THE SECOND FORM's CARD OF 'sctop.TopBack'. -/
def topBackUptoCard : Claim7 := { stood := { row := topBackUptoRow, standIns := [], harness := (true, "a541d0d3986a90637e22dc6c3447d9aa252cd34d59df65483307c337d35abe73"), looks := true }, kinds := [], alts := [], laidByText := true, laidKinds := [.data, .data, .data, .data, .sentinel, .sentinel, .pinned], laidTests := true, laidLooks := .later }
def TopBackUptoCardSaid : Prop := Claim7.holds Tryz.pinned (.plain (OpenSpec.upto topBackSpec)) topBackUptoCard
end Rows
end Go.Proofs.YtgaecpdokgklpadGreatDoor
