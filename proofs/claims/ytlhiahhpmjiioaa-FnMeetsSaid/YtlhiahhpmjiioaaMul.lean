/-
  Contract of MulNats, the program's. Condition: the slices read as lists of numbers.
-/
import Derived.Test.YtlhiahhpmjiioaaSSub
import Derived.Test.YtlhiahhpmjiioaaJ1
namespace Go.Proofs.Ytlhiahhpmjiioaa
open Go.RowKit

end Go.Proofs.Ytlhiahhpmjiioaa
