/-
  The laws' helper toPoint. No condition.
-/
import Derived.Test.YtlhiahhpmjiioadGreatDoorPtA
namespace Go.Proofs.YtlhiahhpmjiioadGreatDoor
open Go.RowKit

theorem drew_pt {w : World} {p : Addr} {v : Value} (h : w.cell? p = some v) : w.drew.cell? p = some v := h
end Go.Proofs.YtlhiahhpmjiioadGreatDoor
