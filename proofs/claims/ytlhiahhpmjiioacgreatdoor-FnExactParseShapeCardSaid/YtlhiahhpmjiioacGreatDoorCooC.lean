/-
  Contract of the program's CoordText. Condition: the library's table of powers of ten lies as its text lays it.
-/
import Derived.Test.YtlhiahhpmjiioacGreatDoorCooB
import Derived.Test.YtlhiahhpmjiioacGreatDoorDecT
namespace Go.Proofs.YtlhiahhpmjiioacGreatDoor
open Go.RowKit

end Go.Proofs.YtlhiahhpmjiioacGreatDoor
