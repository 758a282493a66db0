/-
  Contracts of HullSpan and its model. Conditions: the limbs read as lists of numbers.
-/
import Derived.Deep.RegionHeld3
import Derived.Deep.DrawnRows
import Derived.Deep.DeepCutAuto
import Derived.Test.YtofpommikmdlfaaSpanM
namespace Go.Proofs.Ytofpommikmdlfaa
open Go.RowKit

theorem minZ_len {p q : Bool} {xs ys : List Int} (hx : BigOk p xs) (hy : BigOk q ys) (lx : xs.length ≤ 20) (ly : ys.length ≤ 20) : (mag (minZ (sv p xs) (sv q ys))).length ≤ 20 := by
  rcases minZ_cases (sv p xs) (sv q ys) with ⟨e, _⟩ | ⟨e, _⟩
  · rw [e, hx.mag]; exact lx
  · rw [e, hy.mag]; exact ly
theorem maxZ_len {p q : Bool} {xs ys : List Int} (hx : BigOk p xs) (hy : BigOk q ys) (lx : xs.length ≤ 20) (ly : ys.length ≤ 20) : (mag (maxZ (sv p xs) (sv q ys))).length ≤ 20 := by
  rcases maxZ_cases (sv p xs) (sv q ys) with ⟨e, _⟩ | ⟨e, _⟩
  · rw [e, hx.mag]; exact lx
  · rw [e, hy.mag]; exact ly

end Go.Proofs.Ytofpommikmdlfaa
