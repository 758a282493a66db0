/-
  Contracts of the model's l1Short, l1Min, l1Guess, and of l1Compare at lists of any length. Conditions: the slices read as lists of limbs.
-/
import Derived.Test.YtlhiahhpmjiioaaSMul
import Derived.Test.YtlhiahhpmjiioaaJ1
namespace Go.Proofs.Ytlhiahhpmjiioaa
open Go.RowKit

theorem sl_blk {w : World} {g : Nat} {xs : List Int} {n : Nat} (h : Blk w g xs) (hn : xs.length = n) (hm : n ≤ 2000000) : Sl w (some ⟨g, 0, none⟩) n n xs := by
  subst hn; exact Sl.ofBlk h (by omega)

/-- What a division by one limb answers. -/
def ShortR (w : World) (X d : Int) (e : Ending) (w' : World) : Prop :=
  ∃ v, e = .returned (.tuple #[v, .int .i64 (X % d)]) ∧ Ow w.heap.size w' v (digits (X / d)) ∧ Kept [] w w'

end Go.Proofs.Ytlhiahhpmjiioaa
