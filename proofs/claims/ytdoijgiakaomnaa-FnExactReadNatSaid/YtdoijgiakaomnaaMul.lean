/-
  Contract of MulNats, the program's. Condition: the slices read as lists of numbers.
-/
import Derived.Test.YtdoijgiakaomnaaSSub
import Derived.Test.YtdoijgiakaomnaaJ1
namespace Go.Proofs.Ytdoijgiakaomnaa
open Go.RowKit

end Go.Proofs.Ytdoijgiakaomnaa
