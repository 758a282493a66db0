/-
  Contracts of IsInRange, the program's and the model's, and of toRange. No condition.
-/
import Derived.Test.YtlhiahhpmjiioadGreatDoorJ1
namespace Go.Proofs.YtlhiahhpmjiioadGreatDoor
open Go.RowKit

theorem rd_pair {w : World} {g : Nat} (hg : w.heap.size = g) (x y : Int) : Rd (w.alloc (.cells #[.int .i64 x, .int .i64 y] 2)) (some ⟨g, 0, none⟩) 2 [x, y] := by
  subst hg
  have := Sl.ofBlk (Blk.new w [x, y]) (by simp)
  exact this.rd
theorem ord_pair (x y : Int) : (decide (x ≤ y)) = true ↔ OrdTo [x, y] 2 := by
  rw [decide_eq_true_eq]
  constructor
  · intro h i hi
    obtain rfl : i = 0 := by omega
    simpa using h
  · intro h
    have h0 := h 0 (by omega)
    simpa using h0

/-- That the one range lies in the other one. -/
def inRng (x y x' y' : Int) : Bool := decide (x' ≤ x) && decide (y ≤ y')

theorem drew_cellR {w : World} {p : Addr} {v : Value} (h : w.cell? p = some v) : w.drew.cell? p = some v := h
end Go.Proofs.YtlhiahhpmjiioadGreatDoor
