/-
  Contract of the model's l3Mul. Conditions: the precision is one; the ends have no fault and 20 limbs at most.
-/
import Derived.Deep.RegionHeld3
import Derived.Deep.DrawnRows
import Derived.Deep.DeepCutAuto
import Derived.Test.YtofpommikmdlfaaSpanY
namespace Go.Proofs.Ytofpommikmdlfaa
open Go.RowKit

theorem min4_len {a b c d : Int} {k : Nat} (h1 : (mag a).length ≤ k) (h2 : (mag b).length ≤ k) (h3 : (mag c).length ≤ k) (h4 : (mag d).length ≤ k) : (mag (min4 a b c d)).length ≤ k := by
  have s : ∀ x y : Int, (mag x).length ≤ k → (mag y).length ≤ k → (mag (minZ x y)).length ≤ k := fun x y hx hy => by
    rcases minZ_cases x y with ⟨e, _⟩ | ⟨e, _⟩ <;> rw [e] <;> assumption
  exact s _ _ (s _ _ (s _ _ h1 h2) h3) h4
theorem max4_len {a b c d : Int} {k : Nat} (h1 : (mag a).length ≤ k) (h2 : (mag b).length ≤ k) (h3 : (mag c).length ≤ k) (h4 : (mag d).length ≤ k) : (mag (max4 a b c d)).length ≤ k := by
  have s : ∀ x y : Int, (mag x).length ≤ k → (mag y).length ≤ k → (mag (maxZ x y)).length ≤ k := fun x y hx hy => by
    rcases maxZ_cases x y with ⟨e, _⟩ | ⟨e, _⟩ <;> rw [e] <;> assumption
  exact s _ _ (s _ _ (s _ _ h1 h2) h3) h4
end Go.Proofs.Ytofpommikmdlfaa
