/-
  Contract of the model's l3Square. Conditions: the precision is one; the ends have no fault and 20 limbs at most.
-/
import Derived.Deep.RegionHeld3
import Derived.Deep.DrawnRows
import Derived.Deep.DeepCutAuto
import Derived.Test.YtofpommikmdlfaaSpanZ
import Derived.Test.YtofpommikmdlfaaSpanU
namespace Go.Proofs.Ytofpommikmdlfaa
open Go.RowKit

theorem RowB.kept0 {w w' : World} {g : Nat} {l : List BE} (h : RowB w g l) (k : Kept [] w w') : RowB w' g l := h.kept k (by simp)
theorem OkB.kept0 {w w' : World} {l : List BE} (h : OkB w l) (k : Kept [] w w') : OkB w' l := h.kept k
theorem minZ_len2 {x y : Int} {k : Nat} (h1 : (mag x).length ≤ k) (h2 : (mag y).length ≤ k) : (mag (minZ x y)).length ≤ k := by
  rcases minZ_cases x y with ⟨e, _⟩ | ⟨e, _⟩ <;> rw [e] <;> assumption
theorem maxZ_len2 {x y : Int} {k : Nat} (h1 : (mag x).length ≤ k) (h2 : (mag y).length ≤ k) : (mag (maxZ x y)).length ≤ k := by
  rcases maxZ_cases x y with ⟨e, _⟩ | ⟨e, _⟩ <;> rw [e] <;> assumption
/-- The low end of a square, not yet out of units. -/
def sqLow (p : Bool) (xs : List Int) (q : Bool) (ys : List Int) : Int := if hasZ p xs q = true then 0 else minZ (sv p xs * sv p xs) (sv q ys * sv q ys)
def sqHigh (p : Bool) (xs : List Int) (q : Bool) (ys : List Int) : Int := maxZ (sv p xs * sv p xs) (sv q ys * sv q ys)
theorem isNeg_zero : isNeg 0 = false := isNeg_no (Int.le_refl 0)
end Go.Proofs.Ytofpommikmdlfaa
