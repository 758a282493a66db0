/-
  The laws' helpers over shapes: szShape, toShape, eqShape. Condition: the slices read as lists of numbers, two a point.
-/
import Derived.Test.YtbljpeefekhoeabPtM
namespace Go.Proofs.Ytbljpeefekhoeab
open Go.RowKit

/-- A call that answers a shape in a new block. -/
def NewShp (w : World) (k : Int) (n : Nat) (xs : List Int) (e : Ending) (w' : World) : Prop :=
  ∃ g, e = .returned (.agg #[.int .i64 k, .slice (some ⟨g, 0, none⟩) n n]) ∧ w.heap.size ≤ g ∧ Blk w' g xs ∧ Kept [] w w'

end Go.Proofs.Ytbljpeefekhoeab
