/-
  DERIVED. GIVEN WITH THE SEED: THE CARDS: each row of YtlhiahhpmjiioabDoorRows.lean that lists a variable, with what it lists TIED to the program's text (the seventh form; the later family's looks); each row that meets fmt, with fmt's text TOLD by the authors' own Lean function (tested against real Go, not proved from fmt's source: count such statements apart). THE CARD IS WHAT COUNTS. Prove the row's statement (the work); the ties are given (YtlhiahhpmjiioabDoorTie.lean); close each card by the builder's one call (the guide's Derived/Test/ToyasCard.lean, 'card_holds'). Laid BY PROGRAM, IN A SANDBOX (cutbox-door.mjs). By AI agents, Wed Nov 11 2026. No macro, syntax, notation, axiom, sorry.
-/
import Derived.Test.YtlhiahhpmjiioabDoorRows
import GoSem.ClaimSeven
namespace Go.Proofs.YtlhiahhpmjiioabDoor
namespace Rows

/-- THE TIED CARD OF 'laws.FnExactPrintShape'. -/
def fnExactPrintShapeCard : Claim7 := { stood := { row := fnExactPrintShapeRow, standIns := [], harness := (true, "1b35d7d13e786a0249fc81abd155d709e696f6fddf2547f8162e67caaa059916"), looks := false }, kinds := [], alts := [], laidByText := true, laidKinds := [.data, .data, .data, .data, .pinned], laidTests := true, laidLooks := .later }
def FnExactPrintShapeCardSaid : Prop := Claim7.holds Tryd.pinned (.plain (OpenSpec.ofChange fnExactPrintShapeSpec)) fnExactPrintShapeCard

/-- THE SECOND FORM's CARD OF 'laws.FnExactPrintShape'. -/
def fnExactPrintShapeUptoCard : Claim7 := { stood := { row := fnExactPrintShapeUptoRow, standIns := [], harness := (true, "1b35d7d13e786a0249fc81abd155d709e696f6fddf2547f8162e67caaa059916"), looks := false }, kinds := [], alts := [], laidByText := true, laidKinds := [.data, .data, .data, .data, .pinned], laidTests := true, laidLooks := .later }
def FnExactPrintShapeUptoCardSaid : Prop := Claim7.holds Tryd.pinned (.plain (OpenSpec.upto fnExactPrintShapeSpec)) fnExactPrintShapeUptoCard
end Rows
end Go.Proofs.YtlhiahhpmjiioabDoor
