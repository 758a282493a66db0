/-
  Contracts of the laws' helpers over a shape's result: marking, holding, comparing. Conditions: the slices read as lists of numbers and are short.
-/
import Derived.Test.YtbljpeefekhoeabMkP
namespace Go.Proofs.Ytbljpeefekhoeab
open Go.RowKit

end Go.Proofs.Ytbljpeefekhoeab
