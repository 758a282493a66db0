/-
  Plain facts on lists of numbers: what the functions of chapter 1 compute, said of lists. No program is imported here. No condition.
-/
import Derived.Below
namespace Go.Proofs.Ytkakmcpakgfbpaa

/-- Each of the first k numbers is a limb. -/
def LimbsTo (xs : List Int) (k : Nat) : Prop := ∀ i, i < k → 0 ≤ xs.getD i 0 ∧ xs.getD i 0 ≤ 65535
instance (xs : List Int) (k : Nat) : Decidable (LimbsTo xs k) := inferInstanceAs (Decidable (∀ i, i < k → _))

/-- The code that NatFault tells. -/
def natFault (xs : List Int) : Int :=
  if 40 < xs.length then 2 else if ¬ LimbsTo xs xs.length then 3 else if 0 < xs.length ∧ xs.getD (xs.length - 1) 0 = 0 then 1 else 0

theorem natFault_many {xs : List Int} (h : 40 < xs.length) : natFault xs = 2 := by unfold natFault; rw [if_pos h]
theorem natFault_range {xs : List Int} (h : ¬ 40 < xs.length) (k : Nat) (hk : k < xs.length) (hb : ¬ (0 ≤ xs.getD k 0 ∧ xs.getD k 0 ≤ 65535)) : natFault xs = 3 := by
  unfold natFault; rw [if_neg h, if_pos (fun hl => hb (hl k hk))]
theorem natFault_form {xs : List Int} (h : ¬ 40 < xs.length) (hl : LimbsTo xs xs.length) (hp : 0 < xs.length) (hz : xs.getD (xs.length - 1) 0 = 0) : natFault xs = 1 := by
  unfold natFault; rw [if_neg h, if_neg (fun hn => hn hl), if_pos ⟨hp, hz⟩]
theorem natFault_ok {xs : List Int} (h : ¬ 40 < xs.length) (hl : LimbsTo xs xs.length) (hz : 0 < xs.length → xs.getD (xs.length - 1) 0 ≠ 0) : natFault xs = 0 := by
  unfold natFault; rw [if_neg h, if_neg (fun hn => hn hl), if_neg (fun hn => hz hn.1 hn.2)]

/-- A list of numbers that is a natural: at most 40 limbs, none but 0 to 65535, no 0 at the top. -/
structure Nat40 (xs : List Int) : Prop where
  len : xs.length ≤ 40
  limb : LimbsTo xs xs.length
  top : 0 < xs.length → xs.getD (xs.length - 1) 0 ≠ 0

theorem natFault_zero {xs : List Int} (h : natFault xs = 0) : Nat40 xs := by
  unfold natFault at h
  by_cases h1 : 40 < xs.length
  · rw [if_pos h1] at h; omega
  rw [if_neg h1] at h
  by_cases h2 : LimbsTo xs xs.length
  · rw [if_neg (fun hn => hn h2)] at h
    by_cases h3 : 0 < xs.length ∧ xs.getD (xs.length - 1) 0 = 0
    · rw [if_pos h3] at h; omega
    · exact ⟨by omega, h2, fun hp hz => h3 ⟨hp, hz⟩⟩
  · rw [if_pos h2] at h; omega
theorem natFault_cases (xs : List Int) : natFault xs = 0 ∨ natFault xs = 1 ∨ natFault xs = 2 ∨ natFault xs = 3 := by
  unfold natFault
  by_cases h1 : 40 < xs.length
  · rw [if_pos h1]; omega
  rw [if_neg h1]
  by_cases h2 : LimbsTo xs xs.length
  · rw [if_neg (fun hn => hn h2)]
    by_cases h3 : 0 < xs.length ∧ xs.getD (xs.length - 1) 0 = 0
    · rw [if_pos h3]; omega
    · rw [if_neg h3]; omega
  · rw [if_pos h2]; omega

end Go.Proofs.Ytkakmcpakgfbpaa
