/-
  Contracts of the laws' helpers over points: marking and holding. Conditions: the slices read as lists of numbers and are short.
-/
import Derived.Test.YtbljpeefekhoeabShpL
import Derived.Test.YtbljpeefekhoeabJ1
namespace Go.Proofs.Ytbljpeefekhoeab
open Go.RowKit

/-- A slice of points in a block of its own, or an empty one. -/
def SlP (w : World) (a : Option Addr) (n : Nat) (xs : List Int) : Prop := n ≤ 2000000 ∧ xs.length = n * 2 ∧ (n = 0 ∨ ∃ g, a = some ⟨g, 0, none⟩ ∧ Blk w g xs)
def blkP (a : Option Addr) (n : Nat) : List Nat := if n = 0 then [] else match a with | some x => [x.block] | none => []
theorem SlP.rd {w : World} {a : Option Addr} {n : Nat} {xs : List Int} (h : SlP w a n xs) : Rd w a (n * 2) xs := by
  obtain ⟨h1, h2, h3⟩ := h
  rcases h3 with rfl | ⟨g, rfl, hb⟩
  · exact ⟨h2, by simp, fun k hk => by simp at hk⟩
  · exact rd_newP hb h2 (by omega)
theorem SlP.kept {L : List Nat} {w w' : World} {a : Option Addr} {n : Nat} {xs : List Int} (h : SlP w a n xs) (k : Kept L w w') (hL : ∀ g ∈ blkP a n, g ∉ L) : SlP w' a n xs := by
  obtain ⟨h1, h2, h3⟩ := h
  refine ⟨h1, h2, ?_⟩
  rcases h3 with h3 | ⟨g, rfl, hb⟩
  · exact .inl h3
  · by_cases h0 : n = 0
    · exact .inl h0
    · exact .inr ⟨g, rfl, k.blk hb (hL g (by unfold blkP; rw [if_neg h0]; simp))⟩

end Go.Proofs.Ytbljpeefekhoeab
