/-
  Contracts of IsWithin and its model. No condition but that the limbs read as lists of numbers.
-/
import Derived.Test.YtgplghjameiciaaSpanC
namespace Go.Proofs.Ytgplghjameiciaa
open Go.RowKit

end Go.Proofs.Ytgplghjameiciaa
