/-
  Contracts of IsWithin and its model. No condition but that the limbs read as lists of numbers.
-/
import Derived.Test.YthahkicpkohfkaaSpanC
namespace Go.Proofs.Ythahkicpkohfkaa
open Go.RowKit

end Go.Proofs.Ythahkicpkohfkaa
