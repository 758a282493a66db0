/-
  Several slices that read as several lists, and boxes of cells: what the laws over draws carry from world to world. No condition.
-/
import Derived.Test.YthahkicpkohfkaaJ1
namespace Go.Proofs.Ythahkicpkohfkaa
open Go.RowKit

/-- Several slices read as several lists. -/
def SlL (w : World) (L : List (Option Addr × Nat × List Int)) : Prop := ∀ z, z ∈ L → Sl w z.1 z.2.2.length z.2.1 z.2.2
theorem SlL.nil (w : World) : SlL w [] := fun z hz => by cases hz
theorem SlL.cons {w : World} {L : List (Option Addr × Nat × List Int)} {a : Option Addr} {c : Nat} {xs : List Int} (h : SlL w L) (h' : Sl w a xs.length c xs) : SlL w ((a, c, xs) :: L) := fun z hz => by
  rcases List.mem_cons.1 hz with rfl | hz
  · exact h'
  · exact h z hz
theorem SlL.kept0 {w w' : World} {L : List (Option Addr × Nat × List Int)} (h : SlL w L) (k : Kept [] w w') : SlL w' L := fun z hz => (h z hz).kept0 k
theorem SlL.at {w : World} {L : List (Option Addr × Nat × List Int)} {a : Option Addr} {c : Nat} {xs : List Int} (h : SlL w L) (hz : (a, c, xs) ∈ L) : Sl w a xs.length c xs := h _ hz

/-- The cells of a box. -/
def Bx (w : World) (g : Nat) (vs : List Value) : Prop := ∀ i, i < vs.length → w.cell? ⟨g, i, none⟩ = vs[i]?
theorem Bx.kept0 {w w' : World} {g : Nat} {vs : List Value} (h : Bx w g vs) (k : Kept [] w w') : Bx w' g vs := fun i hi => by
  have := h i hi
  rw [List.getElem?_eq_getElem hi] at this ⊢
  exact k.cell this (by simp)
theorem Bx.at {w : World} {g : Nat} {vs : List Value} (h : Bx w g vs) (i : Nat) (hi : i < vs.length) {v : Value} (hv : vs[i]? = some v) : w.cell? ⟨g, i, none⟩ = some v := by rw [h i hi, hv]
theorem Bx.new (w : World) (vs : List Value) (t : TypeId) : Bx (w.alloc (.cells vs.toArray t)) w.heap.size vs := fun i hi => by
  rw [World.cell?_alloc_new]; simp

end Go.Proofs.Ythahkicpkohfkaa
