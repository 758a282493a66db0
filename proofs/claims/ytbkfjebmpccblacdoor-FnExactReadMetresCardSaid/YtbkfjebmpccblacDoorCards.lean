/-
  DERIVED. GIVEN WITH THE SEED: THE CARDS: each row of YtbkfjebmpccblacDoorRows.lean that lists a variable, with what it lists TIED to the program's text (the seventh form; the later family's looks); each row that meets fmt, with fmt's text TOLD by the authors' own Lean function (tested against real Go, not proved from fmt's source: count such statements apart). THE CARD IS WHAT COUNTS. Prove the row's statement (the work); the ties are given (YtbkfjebmpccblacDoorTie.lean); close each card by the builder's one call (the guide's Derived/Test/ToyasCard.lean, 'card_holds'). Laid BY PROGRAM, IN A SANDBOX (cutbox-door.mjs). By AI agents, Wed Nov 11 2026. No macro, syntax, notation, axiom, sorry.
-/
import Derived.Test.YtbkfjebmpccblacDoorRows
import GoSem.ClaimSeven
namespace Go.Proofs.YtbkfjebmpccblacDoor
namespace Rows

/-- THE TIED CARD OF 'laws.FnExactReadMetres'. -/
def fnExactReadMetresCard : Claim7 := { stood := { row := fnExactReadMetresRow, standIns := [], harness := (true, "f4d1035f72f05be9861ffd488759553fe0285bc4cdd1da467c77e99bf4b23672"), looks := true }, kinds := [], alts := [], laidByText := true, laidKinds := [.data, .data, .data, .sentinel, .sentinel], laidTests := true, laidLooks := .later }
def FnExactReadMetresCardSaid : Prop := Claim7.holds Tryd.pinned (.plain (OpenSpec.ofChange fnExactReadMetresSpec)) fnExactReadMetresCard

/-- THE SECOND FORM's CARD OF 'laws.FnExactReadMetres'. -/
def fnExactReadMetresUptoCard : Claim7 := { stood := { row := fnExactReadMetresUptoRow, standIns := [], harness := (true, "f4d1035f72f05be9861ffd488759553fe0285bc4cdd1da467c77e99bf4b23672"), looks := true }, kinds := [], alts := [], laidByText := true, laidKinds := [.data, .data, .data, .sentinel, .sentinel], laidTests := true, laidLooks := .later }
def FnExactReadMetresUptoCardSaid : Prop := Claim7.holds Tryd.pinned (.plain (OpenSpec.upto fnExactReadMetresSpec)) fnExactReadMetresUptoCard
end Rows
end Go.Proofs.YtbkfjebmpccblacDoor
