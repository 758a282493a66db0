/-
  Contracts of spanResult. Conditions: the limbs read as lists of numbers.
-/
import Derived.Deep.RegionHeld3
import Derived.Deep.DrawnRows
import Derived.Deep.DeepCutAuto
import Derived.Test.YthahkicpkohfkaaJ3
namespace Go.Proofs.Ythahkicpkohfkaa
open Go.RowKit

end Go.Proofs.Ythahkicpkohfkaa
