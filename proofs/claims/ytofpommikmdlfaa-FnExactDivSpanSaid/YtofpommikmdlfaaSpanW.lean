/-
  Contracts of the model's l3Down and l3Up. Conditions: the precision is one; the number has 40 limbs at most.
-/
import Derived.Deep.RegionHeld3
import Derived.Deep.DrawnRows
import Derived.Deep.DeepCutAuto
import Derived.Test.YtofpommikmdlfaaSpanV
import Derived.Test.YtofpommikmdlfaaSpanR
import Derived.Test.YtofpommikmdlfaaJ1
namespace Go.Proofs.Ytofpommikmdlfaa
open Go.RowKit

end Go.Proofs.Ytofpommikmdlfaa
