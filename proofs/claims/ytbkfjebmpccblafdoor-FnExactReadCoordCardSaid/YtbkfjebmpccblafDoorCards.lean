/-
  DERIVED. GIVEN WITH THE SEED: THE CARDS: each row of YtbkfjebmpccblafDoorRows.lean that lists a variable, with what it lists TIED to the program's text (the seventh form; the later family's looks); each row that meets fmt, with fmt's text TOLD by the authors' own Lean function (tested against real Go, not proved from fmt's source: count such statements apart). THE CARD IS WHAT COUNTS. Prove the row's statement (the work); the ties are given (YtbkfjebmpccblafDoorTie.lean); close each card by the builder's one call (the guide's Derived/Test/ToyasCard.lean, 'card_holds'). Laid BY PROGRAM, IN A SANDBOX (cutbox-door.mjs). By AI agents, Wed Nov 11 2026. No macro, syntax, notation, axiom, sorry.
-/
import Derived.Test.YtbkfjebmpccblafDoorRows
import GoSem.ClaimSeven
namespace Go.Proofs.YtbkfjebmpccblafDoor
namespace Rows

/-- THE TIED CARD OF 'laws.FnExactReadCoord'. -/
def fnExactReadCoordCard : Claim7 := { stood := { row := fnExactReadCoordRow, standIns := [], harness := (true, "f41c30dec939adc7476762a28e54b5ca480f1ca5c5ec7d3dbf8ba57aba7f75e0"), looks := true }, kinds := [], alts := [], laidByText := true, laidKinds := [.data, .data, .data, .sentinel, .sentinel], laidTests := true, laidLooks := .later }
def FnExactReadCoordCardSaid : Prop := Claim7.holds Tryd.pinned (.plain (OpenSpec.ofChange fnExactReadCoordSpec)) fnExactReadCoordCard

/-- THE SECOND FORM's CARD OF 'laws.FnExactReadCoord'. -/
def fnExactReadCoordUptoCard : Claim7 := { stood := { row := fnExactReadCoordUptoRow, standIns := [], harness := (true, "f41c30dec939adc7476762a28e54b5ca480f1ca5c5ec7d3dbf8ba57aba7f75e0"), looks := true }, kinds := [], alts := [], laidByText := true, laidKinds := [.data, .data, .data, .sentinel, .sentinel], laidTests := true, laidLooks := .later }
def FnExactReadCoordUptoCardSaid : Prop := Claim7.holds Tryd.pinned (.plain (OpenSpec.upto fnExactReadCoordSpec)) fnExactReadCoordUptoCard
end Rows
end Go.Proofs.YtbkfjebmpccblafDoor
