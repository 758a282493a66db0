/-
  Contracts of PointsFault, the program's and the model's, of firstFault over points, of eqPointS. Condition: the slices read as lists of numbers, two a point.
-/
import Derived.Deep.RegionHeld3
import Derived.Deep.DrawnRows
import Derived.Deep.DeepCutAuto
import Derived.Test.YtklecaojkngjmaaPtL
import Derived.Test.YtklecaojkngjmaaRngA
namespace Go.Proofs.Ytklecaojkngjmaa
open Go.RowKit

theorem rd_three12 (w : World) (x : Int) : Rd (w.alloc (.cells #[.int .i64 1, .int .i64 x, .int .i64 12] 2)) (some ⟨w.heap.size, 0, none⟩) 3 [1, x, 12] := by
  have := Sl.ofBlk (Blk.new w [1, x, 12]) (by simp)
  exact this.rd
def OrdB (b : Bool) (n : Nat) : Prop := b = true ↔ OrdTo [1, (n : Int), 12] 3
theorem ord_three12 (n : Nat) (b : Bool) (hb : b = decide (¬ (n < 1 ∨ 12 < n))) : OrdB b n := by
  subst hb
  unfold OrdB
  rw [decide_eq_true_eq]
  constructor
  · intro h i hi
    rcases (by omega : i = 0 ∨ i = 1) with rfl | rfl
    · simp; omega
    · simp; omega
  · intro h
    have h0 := h 0 (by omega)
    have h1 := h 1 (by omega)
    simp at h0 h1
    omega

end Go.Proofs.Ytklecaojkngjmaa
