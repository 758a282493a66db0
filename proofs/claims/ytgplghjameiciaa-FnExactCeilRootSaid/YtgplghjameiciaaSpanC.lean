/-
  Contracts over two spans: the first fault, OrderSpan and IsWithin, and their models. No condition but that the limbs read as lists of numbers.
-/
import Derived.Test.YtgplghjameiciaaSpanB
namespace Go.Proofs.Ytgplghjameiciaa
open Go.RowKit

end Go.Proofs.Ytgplghjameiciaa
