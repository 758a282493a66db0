/-
  A slice of points that a call owns, as one in a block of its own. No condition.
-/
import Derived.Test.YtlhiahhpmjiioacGreatDoorPsF
import Derived.Test.YtlhiahhpmjiioacGreatDoorMkS
namespace Go.Proofs.YtlhiahhpmjiioacGreatDoor
open Go.RowKit

theorem OwP.slp {B : Nat} {w : World} {a : Option Addr} {n c : Nat} {ps : List (Int × Int)} (h : OwP B w (.slice a n c) ps) (hm : ps.length ≤ 2000000) : n = ps.length ∧ SlP w a ps.length (flatP ps) ∧ ∀ g ∈ blkP a ps.length, B ≤ g := by
  by_cases h0 : 0 < ps.length
  · obtain ⟨g, c', hv, hg, _, _, hb⟩ := h.blk h0
    simp only [Value.slice.injEq] at hv
    obtain ⟨rfl, rfl, rfl⟩ := hv
    refine ⟨rfl, ⟨hm, flatP_len ps, .inr ⟨g, rfl, hb⟩⟩, ?_⟩
    intro x hx
    unfold blkP at hx
    rw [if_neg (by omega)] at hx
    simp at hx; omega
  · have hps : ps = [] := List.length_eq_zero_iff.1 (by omega)
    subst hps
    obtain ⟨a', c', e⟩ := h.sl
    simp only [Value.slice.injEq] at e
    exact ⟨e.2.1, ⟨by simp, rfl, .inl rfl⟩, by intro g hg; simp [blkP] at hg⟩

end Go.Proofs.YtlhiahhpmjiioacGreatDoor
