/-
  A block whose cells are told by a function. No condition.
-/
import Derived.Test.YtbkfjebmpccbladDoorJ1
namespace Go.Proofs.YtbkfjebmpccbladDoor
open Go.RowKit

/-- Block g holds f, up to place n, and is not frozen. -/
def RowF (w : World) (g n : Nat) (f : Nat → Value) : Prop :=
  ∃ cur : Array Value × TypeId, w.heap[g]? = some (.cells cur.1 cur.2 (0, 0)) ∧ n ≤ cur.1.size ∧ ∀ k, k < n → cur.1[k]? = some (f k)
theorem RowF.lt {w : World} {g n : Nat} {f : Nat → Value} (h : RowF w g n f) : g < w.heap.size := by obtain ⟨_, h, _⟩ := h; exact (Array.getElem?_eq_some_iff.1 h).1
theorem RowF.cell {w : World} {g n : Nat} {f : Nat → Value} (h : RowF w g n f) {j : Nat} (hj : j < n) : w.cell? ⟨g, j, none⟩ = some (f j) := by
  obtain ⟨cur, h1, _, h3⟩ := h
  rw [cell_of_row w g j cur.1 _ _ h1, h3 j hj]
theorem RowF.frozen {w : World} {g n : Nat} {f : Nat → Value} (h : RowF w g n f) (j : Nat) : w.frozen? ⟨g, j, none⟩ = false := by
  obtain ⟨cur, h1, _, h3⟩ := h; exact frozen_of_row w g j _ _ h1
theorem RowF.congr {w : World} {g n : Nat} {f f' : Nat → Value} (h : RowF w g n f) (e : ∀ k, k < n → f k = f' k) : RowF w g n f' := by
  obtain ⟨cur, h1, h2, h3⟩ := h
  exact ⟨cur, h1, h2, fun k hk => by rw [h3 k hk, e k hk]⟩
theorem RowF.set {w : World} {g n : Nat} {f : Nat → Value} (h : RowF w g n f) (j : Nat) (y : Value) : RowF (w.setCell ⟨g, j, none⟩ y) g n (fun k => if k = j then y else f k) := by
  obtain ⟨cur, h1, h2, h3⟩ := h
  refine ⟨(cur.1.setIfInBounds j y, cur.2), heap_setCell_same w g j _ _ _ h1, by simpa using h2, fun k hk => ?_⟩
  show (cur.1.setIfInBounds j y)[k]? = _
  rw [Array.getElem?_setIfInBounds]
  by_cases e : j = k
  · subst e
    rw [if_pos rfl, if_pos (by omega)]
    show some y = some (if j = j then y else f j)
    rw [if_pos rfl]
  · rw [if_neg e, h3 k hk]
    show some (f k) = some (if k = j then y else f k)
    rw [if_neg (by omega)]
theorem RowF.ofHeap {w w' : World} {g n : Nat} {f : Nat → Value} (h : RowF w g n f) (e : w'.heap[g]? = w.heap[g]?) : RowF w' g n f := by
  obtain ⟨cur, h1, h2⟩ := h; exact ⟨cur, by rw [e]; exact h1, h2⟩
theorem RowF.kept {L : List Nat} {w w' : World} {g n : Nat} {f : Nat → Value} (h : RowF w g n f) (k : Kept L w w') (hg : g ∉ L) : RowF w' g n f := h.ofHeap (k.block g h.lt hg)
theorem RowF.other {w : World} {g n : Nat} {f : Nat → Value} (h : RowF w g n f) (a : Addr) (v : Value) (hne : g ≠ a.block) : RowF (w.setCell a v) g n f := h.ofHeap (heap_setCell_other w a g v hne)
theorem RowF.made (w : World) (cells : Array Value) (T : TypeId) : RowF (w.alloc (.cells cells T)) w.heap.size cells.size (fun j => cells.getD j undef) :=
  ⟨(cells, T), heap_alloc_new w _, Nat.le_refl _, fun k hk => by simp [Array.getD, hk]⟩

end Go.Proofs.YtbkfjebmpccbladDoor
