/-
  inOrder of three numbers. No condition.
-/
import Derived.Test.YtlhiahhpmjiioadGreatDoorJ1
namespace Go.Proofs.YtlhiahhpmjiioadGreatDoor
open Go.RowKit

theorem rd_threeK (w : World) (x y z : Int) {g : Nat} (hg : w.heap.size = g) : Rd (w.alloc (.cells #[.int .i64 x, .int .i64 y, .int .i64 z] 2)) (some ⟨g, 0, none⟩) 3 [x, y, z] := by
  subst hg
  have := Sl.ofBlk (Blk.new w [x, y, z]) (by simp)
  exact this.rd
def OrdX (b : Bool) (x y z : Int) : Prop := b = true ↔ OrdTo [x, y, z] 3
theorem ord_xyz {x y z : Int} (b : Bool) (hb : b = decide (x ≤ y ∧ y ≤ z)) : OrdX b x y z := by
  subst hb
  unfold OrdX
  rw [decide_eq_true_eq]
  constructor
  · intro h i hi
    rcases (by omega : i = 0 ∨ i = 1) with rfl | rfl
    · simpa using h.1
    · simpa using h.2
  · intro h
    have h0 := h 0 (by omega)
    have h1 := h 1 (by omega)
    simp at h0 h1
    exact ⟨h0, h1⟩

end Go.Proofs.YtlhiahhpmjiioadGreatDoor
