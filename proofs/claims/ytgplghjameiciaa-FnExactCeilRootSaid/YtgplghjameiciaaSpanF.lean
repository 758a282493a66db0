/-
  Contracts of spanResult. Conditions: the limbs read as lists of numbers.
-/
import Derived.Deep.RegionHeld3
import Derived.Deep.DrawnRows
import Derived.Deep.DeepCutAuto
import Derived.Test.YtgplghjameiciaaJ3
namespace Go.Proofs.Ytgplghjameiciaa
open Go.RowKit

end Go.Proofs.Ytgplghjameiciaa
