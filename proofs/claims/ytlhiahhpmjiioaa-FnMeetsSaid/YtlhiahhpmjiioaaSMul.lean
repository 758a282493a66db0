/-
  Contracts of the model's l1Mul, MulNats. Condition: the slices read as lists of limbs.
-/
import Derived.Test.YtlhiahhpmjiioaaMul
namespace Go.Proofs.Ytlhiahhpmjiioaa
open Go.RowKit

end Go.Proofs.Ytlhiahhpmjiioaa
