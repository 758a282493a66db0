/-
  Digits are read back. No program is walked here. No condition.
-/
import Derived.Test.YtlhiahhpmjiioacGreatDoorRdP
namespace Go.Proofs.YtlhiahhpmjiioacGreatDoor
open Go.RowKit

theorem dg_isD (x : Nat) : isD (dg x) = true := isD_iff.2 (by rw [dg_nat]; omega)
theorem dec_isD : ∀ (f u : Nat), u ≤ f → ∀ b ∈ Lib.decDigits u, isD b = true
  | 0, u, h => by
    obtain rfl : u = 0 := by omega
    rw [dec_one (by omega)]; intro b hb; simp at hb; subst hb; exact dg_isD 0
  | f + 1, u, h => by
    by_cases h10 : u < 10
    · rw [dec_one h10]; intro b hb; simp at hb; subst hb; exact dg_isD u
    · rw [dec_step (by omega)]
      intro b hb
      rcases List.mem_append.1 hb with hb | hb
      · exact dec_isD f (u / 10) (by omega) b hb
      · simp at hb; subst hb; exact dg_isD u
theorem dec_ne (u : Nat) : 1 ≤ (Lib.decDigits u).length := by rw [Lib.decDigits_length]; exact Lib.nDigits_pos u
theorem numL_dec : ∀ (f u : Nat), u ≤ f → numL (Lib.decDigits u) = u
  | 0, u, h => by
    obtain rfl : u = 0 := by omega
    rw [dec_one (by omega)]
    show 0 * 10 + ((dg 0).toNat - 48) = 0
    rw [dg_nat]
  | f + 1, u, h => by
    by_cases h10 : u < 10
    · rw [dec_one h10]
      show 0 * 10 + ((dg u).toNat - 48) = u
      rw [dg_nat]; omega
    · rw [dec_step (by omega)]
      show numA 0 _ = _
      rw [numA_app]
      have := numL_dec f (u / 10) (by omega)
      unfold numL at this
      rw [this]
      show u / 10 * 10 + ((dg u).toNat - 48) = u
      rw [dg_nat]; omega

end Go.Proofs.YtlhiahhpmjiioacGreatDoor
