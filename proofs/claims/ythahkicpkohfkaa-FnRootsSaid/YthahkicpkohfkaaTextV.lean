/-
  What NatText answers, and the law's comparison of texts. No condition.
-/
import Derived.Test.YthahkicpkohfkaaText
import Derived.Test.YthahkicpkohfkaaJ1
import Derived.Test.YthahkicpkohfkaaNatOf
namespace Go.Proofs.Ythahkicpkohfkaa
open Go.RowKit

/-- What NatText answers: the code, and the text. -/
def textVal (xs : List Int) : ByteArray := if natFault xs = 0 then strOfNums (decText (val xs)) else ⟨#[]⟩

theorem resCellsT {w w1 : World} {L : List Nat} (hK : Kept L (w.alloc (.cells #[.int .i64 0, .string ⟨#[]⟩] 40)) w1) (hL : w.heap.size ∉ L) :
    w1.cell? ⟨w.heap.size, 0, none⟩ = some (.int .i64 0) ∧ w1.cell? ⟨w.heap.size, 1, none⟩ = some (.string ⟨#[]⟩) ∧ w1.frozen? ⟨w.heap.size, 0, none⟩ = false ∧ w1.frozen? ⟨w.heap.size, 1, none⟩ = false ∧ w.heap.size + 1 ≤ w1.heap.size :=
  ⟨hK.cell (p := ⟨w.heap.size, 0, none⟩) (by simp) hL, hK.cell (p := ⟨w.heap.size, 1, none⟩) (by simp) hL, hK.free (p := ⟨w.heap.size, 0, none⟩) (by simp) (by simp) hL, hK.free (p := ⟨w.heap.size, 1, none⟩) (by simp) (by simp) hL,
    by have := hK.size; simpa using this⟩
theorem textR_fin {w w1 : World} (u : Int) (v : ByteArray) (hK : Kept [] (w.alloc (.cells #[.int .i64 0, .string ⟨#[]⟩] 40)) w1) :
    Ans w (.agg #[.int .i64 u, .string v]) (.returned (.agg #[.int .i64 u, .string v])) ((w1.setCell ⟨w.heap.size, 0, none⟩ (.int .i64 u)).setCell ⟨w.heap.size, 1, none⟩ (.string v)) :=
  ⟨rfl, ((((Kept.refl [] w).alloc _).trans0 hK).setCell _ _ (by simp)).setCell _ _ (by simp)⟩

end Go.Proofs.Ythahkicpkohfkaa
