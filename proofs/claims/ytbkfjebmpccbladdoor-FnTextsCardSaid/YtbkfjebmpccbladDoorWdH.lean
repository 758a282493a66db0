/-
  Contracts of the laws' helpers over slices of strings: comparing, marking, holding. Conditions: the slices read as lists of strings; the marks are no great numbers.
-/
import Derived.Deep.RegionHeld3
import Derived.Deep.DrawnRows
import Derived.Deep.DeepCutAuto
import Derived.Test.YtbkfjebmpccbladDoorStrS
import Derived.Test.YtbkfjebmpccbladDoorRowF
import Derived.Test.YtbkfjebmpccbladDoorMkT
namespace Go.Proofs.YtbkfjebmpccbladDoor
open Go.RowKit

/-- The cells of a row of strings. -/
def wdF (xs : List (List UInt8)) (j : Nat) : Value := .string (strB (xs.getD j []))
/-- A slice of strings in a block of its own, or an empty one. -/
def SlS (w : World) (a : Option Addr) (n : Nat) (xs : List (List UInt8)) : Prop := xs.length = n ∧ (n = 0 ∨ ∃ g, a = some ⟨g, 0, none⟩ ∧ RowF w g n (wdF xs))
def blkS (a : Option Addr) (n : Nat) : List Nat := if n = 0 then [] else match a with | some x => [x.block] | none => []
theorem SlS.kept {L : List Nat} {w w' : World} {a : Option Addr} {n : Nat} {xs : List (List UInt8)} (h : SlS w a n xs) (k : Kept L w w') (hL : ∀ g ∈ blkS a n, g ∉ L) : SlS w' a n xs := by
  obtain ⟨h2, h3⟩ := h
  refine ⟨h2, ?_⟩
  by_cases h0 : n = 0
  · exact .inl h0
  · rcases h3 with h3 | ⟨g, rfl, hb⟩
    · exact absurd h3 h0
    · exact .inr ⟨g, rfl, hb.kept k (hL g (by unfold blkS; rw [if_neg h0]; simp))⟩
theorem SlS.lt {w : World} {a : Option Addr} {n : Nat} {xs : List (List UInt8)} (h : SlS w a n xs) : ∀ g ∈ blkS a n, g < w.heap.size := by
  intro g hg
  rcases h.2 with h0 | ⟨g', rfl, hb⟩
  · subst h0; simp [blkS] at hg
  · unfold blkS at hg; split at hg
    · cases hg
    · simp at hg; subst hg; exact hb.lt
/-- The marks. -/
def mkL (k n : Nat) : List (List UInt8) := (List.range n).map fun i => mkT (k + i)
theorem mkL_len (k n : Nat) : (mkL k n).length = n := by simp [mkL]
theorem mkL_at {k n i : Nat} (h : i < n) : (mkL k n).getD i [] = mkT (k + i) := by simp [mkL, List.getD_eq_getElem?_getD, h]
/-- The cells when the first j are marked. -/
def mkdF (xs : List (List UInt8)) (k j i : Nat) : Value := if i < j then .string (strB (mkT (k + i))) else wdF xs i

theorem mkH1 {w5 w' : World} {b j : Nat} {v : Value} (c : w5.cell? ⟨b, j, none⟩ = some v) (k : Hid (Kept [] w5 w')) : Hid (Kept [] w5 w') ∧ w'.cell? ⟨b, j, none⟩ = some v := ⟨k, k.out.cell c (by simp)⟩

theorem OwS.sl {B : Nat} {w : World} {v : Value} {xs : List (List UInt8)} (h : OwS B w v xs) : ∃ a c, v = .slice a xs.length c ∧ SlS w a xs.length xs ∧ ∀ g ∈ blkS a xs.length, B ≤ g := by
  obtain ⟨h1, h2⟩ := h
  rcases h2 with ⟨rfl, h0⟩ | ⟨g, cap, cur, rfl, hg, hh, hc, hm, hs, ht⟩
  · refine ⟨none, 0, by rw [h0], ⟨rfl, .inl h0⟩, by intro g hg; unfold blkS at hg; rw [if_pos h0] at hg; cases hg⟩
  · refine ⟨some ⟨g, 0, none⟩, cap, rfl, ⟨rfl, ?_⟩, ?_⟩
    · by_cases h0 : xs.length = 0
      · exact .inl h0
      · refine .inr ⟨g, rfl, (cur, 9), hh, ?_, fun k hk => ?_⟩
        · show xs.length ≤ cur.size
          omega
        · show cur[k]? = _
          have : (cur.toList.take (xs.length * 1))[k]? = (xs.map strV)[k]? := by rw [ht]
          rw [List.getElem?_take, if_pos (by omega)] at this
          rw [← Array.getElem?_toList, this]
          unfold wdF
          simp [List.getD_eq_getElem?_getD, hk, strV]
    · intro x hx
      unfold blkS at hx
      split at hx
      · cases hx
      · simp at hx; omega

end Go.Proofs.YtbkfjebmpccbladDoor
