/-
  The laws' helper toPointS: a row of points made anew. Condition: the slice reads as a list of numbers, two a point.
-/
import Derived.Test.YtlhiahhpmjiioadGreatDoorPtC
import Derived.Test.YtlhiahhpmjiioadGreatDoorJ1
namespace Go.Proofs.YtlhiahhpmjiioadGreatDoor
open Go.RowKit

theorem Tryz.infoPt : (Tryz.prog.info? 44).map (fun i => (i.zero, i.size, i.bytes)) = some (some (.agg #[.int .i64 0, .int .i64 0]), 2, 16) := by kernel_rfl

theorem made_zeros2 (n : Nat) : madeCells #[Value.int .i64 0, Value.int .i64 0] (n * 2) = ints (List.replicate (n * 2) 0) := by
  apply Array.ext
  · simp [size_madeCells, ints_size]
  · intro i h1 h2
    have h3 : i % 2 = 0 ∨ i % 2 = 1 := by omega
    have h4 : (ints (List.replicate (n * 2) 0))[i] = .int .i64 0 := by simp [ints]
    rw [h4]
    rcases h3 with h3 | h3 <;> simp [madeCells, h3]

theorem set_part2 (xs : List Int) (n k : Nat) (hk : k < n) (hx : xs.length = n * 2) :
    ((xs.take (k * 2) ++ List.replicate (n * 2 - k * 2) 0).set (k * 2) (xs.getD (k * 2) 0)).set (k * 2 + 1) (xs.getD (k * 2 + 1) 0) = xs.take ((k + 1) * 2) ++ List.replicate (n * 2 - (k + 1) * 2) 0 := by
  rw [set_part xs (n * 2) (k * 2) (by omega) hx, set_part xs (n * 2) (k * 2 + 1) (by omega) hx, show k * 2 + 1 + 1 = (k + 1) * 2 by omega]

/-- The two cells of the k-th point. -/
theorem rd_pt {w : World} {a : Option Addr} {n : Nat} {xs : List Int} (h : Rd w a (n * 2) xs) (k : Nat) (hk : k < n) :
    ∃ g off, a = some ⟨g, off, none⟩ ∧ w.cell? ⟨g, off + k * 2, none⟩ = some (.int .i64 (xs.getD (k * 2) 0)) ∧ w.cell? ⟨g, off + k * 2 + 1, none⟩ = some (.int .i64 (xs.getD (k * 2 + 1) 0)) := by
  obtain ⟨g, off, rfl, hc0⟩ := h.2.2 (k * 2) (by omega)
  obtain ⟨g', off', he, hc1⟩ := h.2.2 (k * 2 + 1) (by omega)
  simp at he
  obtain ⟨rfl, rfl⟩ := he
  exact ⟨g, off, rfl, hc0, hc1⟩

/-- The first k points have no fault. -/
def PtsTo (xs : List Int) (k : Nat) : Prop := ∀ i, i < k → ptFault (xs.getD (i * 2) 0) (xs.getD (i * 2 + 1) 0) = 0
instance (xs : List Int) (k : Nat) : Decidable (PtsTo xs k) := by unfold PtsTo; exact inferInstance
theorem PtsTo.more {xs : List Int} {k : Nat} {x0 x1 : Int} (h : PtsTo xs k) (h0 : xs.getD (k * 2) 0 = x0) (h1 : xs.getD (k * 2 + 1) 0 = x1) (hz : ptFault x0 x1 = 0) : PtsTo xs (k + 1) := by
  intro i hi
  by_cases he : i < k
  · exact h i he
  · obtain rfl : i = k := by omega
    rw [h0, h1]; exact hz
/-- The first fault of the points. -/
def ptsFirst (xs : List Int) (n : Nat) : Int := if PtsTo xs n then 0 else 3
theorem ptsFirst_yes {xs : List Int} {n : Nat} (h : PtsTo xs n) : ptsFirst xs n = 0 := if_pos h
theorem ptsFirst_no {xs : List Int} {n k : Nat} {x0 x1 : Int} (hk : k < n) (h0 : xs.getD (k * 2) 0 = x0) (h1 : xs.getD (k * 2 + 1) 0 = x1) (hz : ptFault x0 x1 ≠ 0) : ptsFirst xs n = ptFault x0 x1 := by
  have e3 : ptFault x0 x1 = 3 := by
    by_cases hi : InPt x0 x1
    · exact absurd (ptFault_yes hi) hz
    · exact ptFault_no hi
  rw [e3]
  exact if_neg (fun h => hz (by have := h k hk; rwa [h0, h1] at this))
def ptsFault (xs : List Int) (n : Nat) : Int := if n < 1 ∨ 12 < n then 2 else ptsFirst xs n
theorem ptsFault_many {xs : List Int} {n : Nat} (h : n < 1 ∨ 12 < n) : ptsFault xs n = 2 := if_pos h
theorem ptsFault_in {xs : List Int} {n : Nat} (h : ¬ (n < 1 ∨ 12 < n)) : ptsFault xs n = ptsFirst xs n := if_neg h

theorem rd_newP {w : World} {g : Nat} {xs : List Int} {n : Nat} (h : Blk w g xs) (hn : xs.length = n) (hm : n ≤ 4000000) : Rd w (some ⟨g, 0, none⟩) n xs := by
  subst hn; exact (Sl.ofBlk h (by omega)).rd

end Go.Proofs.YtlhiahhpmjiioadGreatDoor
