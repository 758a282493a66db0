/-
  Contracts of the laws' helpers over a shape's result: marking, holding, comparing. Conditions: the slices read as lists of numbers and are short.
-/
import Derived.Test.YtklecaojkngjmaeMkP
namespace Go.Proofs.Ytklecaojkngjmae
open Go.RowKit

end Go.Proofs.Ytklecaojkngjmae
