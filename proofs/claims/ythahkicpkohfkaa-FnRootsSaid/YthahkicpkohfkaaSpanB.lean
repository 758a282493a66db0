/-
  Contracts of isTooLong, isBelow, isAbove, SpanFault and of the model's SpanFault. No condition but that the limbs read as lists of numbers.
-/
import Derived.Test.YthahkicpkohfkaaSpanA
import Derived.Test.YthahkicpkohfkaaBigH
namespace Go.Proofs.Ythahkicpkohfkaa
open Go.RowKit

end Go.Proofs.Ythahkicpkohfkaa
