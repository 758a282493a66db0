/-
  DERIVED. GIVEN WITH THE SEED: THE CARDS: each row of YtbkfjebmpccblagDoorRows.lean that lists a variable, with what it lists TIED to the program's text (the seventh form; the later family's looks); each row that meets fmt, with fmt's text TOLD by the authors' own Lean function (tested against real Go, not proved from fmt's source: count such statements apart). THE CARD IS WHAT COUNTS. Prove the row's statement (the work); the ties are given (YtbkfjebmpccblagDoorTie.lean); close each card by the builder's one call (the guide's Derived/Test/ToyasCard.lean, 'card_holds'). Laid BY PROGRAM, IN A SANDBOX (cutbox-door.mjs). By AI agents, Wed Nov 11 2026. No macro, syntax, notation, axiom, sorry.
-/
import Derived.Test.YtbkfjebmpccblagDoorRows
import GoSem.ClaimSeven
namespace Go.Proofs.YtbkfjebmpccblagDoor
namespace Rows

/-- THE TIED CARD OF 'laws.FnCoords'. -/
def fnCoordsCard : Claim7 := { stood := { row := fnCoordsRow, standIns := [], harness := (true, "2b6a42256193ee5d2bd678a88cbf2f94480f4a1ab9087f1e1059e8d4b9d20301"), looks := true }, kinds := [], alts := [], laidByText := true, laidKinds := [.data, .data, .data, .data, .sentinel, .sentinel, .pinned], laidTests := true, laidLooks := .later }
def FnCoordsCardSaid : Prop := Claim7.holds Tryd.pinned (.plain (OpenSpec.ofChange fnCoordsSpec)) fnCoordsCard

/-- THE SECOND FORM's CARD OF 'laws.FnCoords'. -/
def fnCoordsUptoCard : Claim7 := { stood := { row := fnCoordsUptoRow, standIns := [], harness := (true, "2b6a42256193ee5d2bd678a88cbf2f94480f4a1ab9087f1e1059e8d4b9d20301"), looks := true }, kinds := [], alts := [], laidByText := true, laidKinds := [.data, .data, .data, .data, .sentinel, .sentinel, .pinned], laidTests := true, laidLooks := .later }
def FnCoordsUptoCardSaid : Prop := Claim7.holds Tryd.pinned (.plain (OpenSpec.upto fnCoordsSpec)) fnCoordsUptoCard
end Rows
end Go.Proofs.YtbkfjebmpccblagDoor
