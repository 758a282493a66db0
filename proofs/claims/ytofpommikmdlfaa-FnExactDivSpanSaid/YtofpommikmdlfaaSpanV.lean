/-
  Contract of the model's l3Drop. Conditions: the precision is one; the slice reads as a natural of 40 limbs at most.
-/
import Derived.Deep.RegionHeld3
import Derived.Deep.DrawnRows
import Derived.Deep.DeepCutAuto
import Derived.Test.YtofpommikmdlfaaJ5
import Derived.Test.YtofpommikmdlfaaShort
import Derived.Test.YtofpommikmdlfaaJ1
namespace Go.Proofs.Ytofpommikmdlfaa
open Go.RowKit

/-- A slice without its first k elements. -/
theorem Sl.back {w : World} {g off n c : Nat} {xs : List Int} (h : Sl w (some ⟨g, off, none⟩) n c xs) (k : Nat) (hk : k ≤ n) : Sl w (some ⟨g, off + k, none⟩) (n - k) (c - k) (xs.drop k) := by
  have h1 := h.1
  have h2 := h.2.1
  have h3 := h.2.2.1
  refine ⟨by rw [List.length_drop]; omega, by omega, by omega, by simp, ?_⟩
  rcases h.2.2.2.2 with h4 | ⟨g', off', cs, ha, hb, hl, he⟩
  · exact Or.inl (by omega)
  · cases ha
    refine Or.inr ⟨g, off + k, cs, rfl, hb, by omega, fun j hj => ?_⟩
    have h9 := he (k + j) (by omega)
    rw [Nat.add_assoc, h9]
    simp [List.getD_eq_getElem?_getD, List.getElem?_drop]
/-- A call that answers a number divided by the units of 1, rounded down, and whether something is left. -/
def DropR (w : World) (X : Int) (k : Nat) (e : Ending) (w' : World) : Prop :=
  ∃ v, e = .returned (.tuple #[v, .bool (decide (X % p2 k ≠ 0))]) ∧ Ow w.heap.size w' v (digits (X / p2 k)) ∧ Kept [] w w'

end Go.Proofs.Ytofpommikmdlfaa
