/-
  Contracts of IsWithin and its model. No condition but that the limbs read as lists of numbers.
-/
import Derived.Test.YtklgaclhpifdiaaSpanC
namespace Go.Proofs.Ytklgaclhpifdiaa
open Go.RowKit

end Go.Proofs.Ytklgaclhpifdiaa
