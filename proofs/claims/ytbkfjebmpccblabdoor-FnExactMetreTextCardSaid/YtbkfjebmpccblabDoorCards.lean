/-
  DERIVED. GIVEN WITH THE SEED: THE CARDS: each row of YtbkfjebmpccblabDoorRows.lean that lists a variable, with what it lists TIED to the program's text (the seventh form; the later family's looks); each row that meets fmt, with fmt's text TOLD by the authors' own Lean function (tested against real Go, not proved from fmt's source: count such statements apart). THE CARD IS WHAT COUNTS. Prove the row's statement (the work); the ties are given (YtbkfjebmpccblabDoorTie.lean); close each card by the builder's one call (the guide's Derived/Test/ToyasCard.lean, 'card_holds'). Laid BY PROGRAM, IN A SANDBOX (cutbox-door.mjs). By AI agents, Wed Nov 11 2026. No macro, syntax, notation, axiom, sorry.
-/
import Derived.Test.YtbkfjebmpccblabDoorRows
import GoSem.ClaimSeven
namespace Go.Proofs.YtbkfjebmpccblabDoor
namespace Rows

/-- THE TIED CARD OF 'laws.FnExactMetreText'. -/
def fnExactMetreTextCard : Claim7 := { stood := { row := fnExactMetreTextRow, standIns := [], harness := (true, "0a7c6c6d667aac0602051086f3e55d62b425714fd9f1bbf0f4ba2eb27b14eaf7"), looks := false }, kinds := [], alts := [], laidByText := true, laidKinds := [.data, .data, .data], laidTests := true, laidLooks := .later }
def FnExactMetreTextCardSaid : Prop := Claim7.holds Tryd.pinned (.plain (OpenSpec.ofChange fnExactMetreTextSpec)) fnExactMetreTextCard

/-- THE SECOND FORM's CARD OF 'laws.FnExactMetreText'. -/
def fnExactMetreTextUptoCard : Claim7 := { stood := { row := fnExactMetreTextUptoRow, standIns := [], harness := (true, "0a7c6c6d667aac0602051086f3e55d62b425714fd9f1bbf0f4ba2eb27b14eaf7"), looks := false }, kinds := [], alts := [], laidByText := true, laidKinds := [.data, .data, .data], laidTests := true, laidLooks := .later }
def FnExactMetreTextUptoCardSaid : Prop := Claim7.holds Tryd.pinned (.plain (OpenSpec.upto fnExactMetreTextSpec)) fnExactMetreTextUptoCard
end Rows
end Go.Proofs.YtbkfjebmpccblabDoor
