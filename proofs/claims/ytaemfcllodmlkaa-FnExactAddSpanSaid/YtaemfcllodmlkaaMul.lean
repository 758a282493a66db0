/-
  Contract of MulNats, the program's. Condition: the slices read as lists of numbers.
-/
import Derived.Test.YtaemfcllodmlkaaSSub
import Derived.Test.YtaemfcllodmlkaaJ1
namespace Go.Proofs.Ytaemfcllodmlkaa
open Go.RowKit

end Go.Proofs.Ytaemfcllodmlkaa
