/-
  DERIVED. GIVEN WITH THE SEED: THE CARDS: each row of YtbkfjebmpccblaeDoorRows.lean that lists a variable, with what it lists TIED to the program's text (the seventh form; the later family's looks); each row that meets fmt, with fmt's text TOLD by the authors' own Lean function (tested against real Go, not proved from fmt's source: count such statements apart). THE CARD IS WHAT COUNTS. Prove the row's statement (the work); the ties are given (YtbkfjebmpccblaeDoorTie.lean); close each card by the builder's one call (the guide's Derived/Test/ToyasCard.lean, 'card_holds'). Laid BY PROGRAM, IN A SANDBOX (cutbox-door.mjs). By AI agents, Wed Nov 11 2026. No macro, syntax, notation, axiom, sorry.
-/
import Derived.Test.YtbkfjebmpccblaeDoorRows
import GoSem.ClaimSeven
namespace Go.Proofs.YtbkfjebmpccblaeDoor
namespace Rows

/-- THE TIED CARD OF 'laws.FnExactCoordText'. -/
def fnExactCoordTextCard : Claim7 := { stood := { row := fnExactCoordTextRow, standIns := [], harness := (true, "2ba0e1a3f3569aca6560020eae588b9e18114a5f47ca492733797e5d65d0e27a"), looks := false }, kinds := [], alts := [], laidByText := true, laidKinds := [.data, .data, .data, .data, .pinned], laidTests := true, laidLooks := .later }
def FnExactCoordTextCardSaid : Prop := Claim7.holds Tryd.pinned (.plain (OpenSpec.ofChange fnExactCoordTextSpec)) fnExactCoordTextCard

/-- THE SECOND FORM's CARD OF 'laws.FnExactCoordText'. -/
def fnExactCoordTextUptoCard : Claim7 := { stood := { row := fnExactCoordTextUptoRow, standIns := [], harness := (true, "2ba0e1a3f3569aca6560020eae588b9e18114a5f47ca492733797e5d65d0e27a"), looks := false }, kinds := [], alts := [], laidByText := true, laidKinds := [.data, .data, .data, .data, .pinned], laidTests := true, laidLooks := .later }
def FnExactCoordTextUptoCardSaid : Prop := Claim7.holds Tryd.pinned (.plain (OpenSpec.upto fnExactCoordTextSpec)) fnExactCoordTextUptoCard
end Rows
end Go.Proofs.YtbkfjebmpccblaeDoor
