/-
 Plain facts on chapter 4: spans as pairs of numbers, what comes of them, and how great that is at most. No condition.
-/
import Derived.Test.YtfafjijoeanbhaaJ1
import Derived.Test.YtfafjijoeanbhaaSpanM
import Derived.Test.YtfafjijoeanbhaaSpanW
import Derived.Deep.RegionHeld3
import Derived.Deep.DrawnRows
import Derived.Deep.DeepCutAuto
namespace Go.Proofs.Ytfafjijoeanbhaa

/-- A quotient rounded up. -/
def cdiv (x d : Int) : Int := -((-x) / d)
theorem cdiv_le {x d M : Int} (hd : 0 < d) (h : x ≤ M * d) : cdiv x d ≤ M := by
 unfold cdiv
 have := (Int.le_ediv_iff_mul_le hd (a := -M) (b := -x)).2 (by rw [Int.neg_mul]; omega)
 omega
theorem le_fdiv {x d M : Int} (hd : 0 < d) (h : M * d ≤ x) : M ≤ x / d := (Int.le_ediv_iff_mul_le hd).2 h
theorem divZ_f {z d : Int} (hd : 0 < d) : divZ false (isNeg z) false (val (mag z)) d = z / d := by
 rw [val_mag]
 by_cases h : z < 0
 ·rw [if_pos h, isNeg_yes h]
  show sg true (if -z % d ≠ 0 ∧ true ≠ false then -z / d + 1 else -z / d) = z / d
  have e := Int.emod_add_mul_ediv (-z) d
  have m1 := Int.emod_nonneg (-z) (show d ≠ 0 by omega)
  have m2 := Int.emod_lt_of_pos (-z) hd
  split
  ·rename_i hh
   show -(-z / d + 1) = z / d
   have h1 : z = d * (-(-z / d + 1)) + (d - -z % d) := by rw [Int.mul_neg, Int.mul_add]; omega
   have h2 := hh.1
   rw [show z / d = (d * (-(-z / d + 1)) + (d - -z % d)) / d by rw [← h1]]
   rw [Int.mul_add_ediv_left _ _ (by omega), Int.ediv_eq_zero_of_lt (a := d - -z % d) (by omega) (by omega)]; omega
  ·rename_i hh
   show -(-z / d) = z / d
   have h0 : -z % d = 0 := by
    by_cases h0 : -z % d = 0
    ·exact h0
    ·exact absurd ⟨h0, by simp⟩ hh
   have h1 : z = d * (-(-z / d)) := by rw [Int.mul_neg]; omega
   rw [show z / d = (d * (-(-z / d))) / d by rw [← h1]]
   rw [Int.mul_ediv_cancel_left _ (by omega)]
 ·rw [if_neg h, isNeg_no (by omega)]
  show sg false (if z % d ≠ 0 ∧ false ≠ false then z / d + 1 else z / d) = z / d
  rw [if_neg (by simp)]; rfl
theorem divZ_c {z d : Int} (hd : 0 < d) : divZ true (isNeg z) false (val (mag z)) d = cdiv z d := by
 rw [val_mag]
 unfold cdiv
 by_cases h : z < 0
 ·rw [if_pos h, isNeg_yes h]
  show sg true (if -z % d ≠ 0 ∧ true ≠ true then -z / d + 1 else -z / d) = -(-z / d)
  rw [if_neg (by simp)]; rfl
 ·rw [if_neg h, isNeg_no (by omega)]
  show sg false (if z % d ≠ 0 ∧ false ≠ true then z / d + 1 else z / d) = -(-z / d)
  have e := Int.emod_add_mul_ediv z d
  have m1 := Int.emod_nonneg z (show d ≠ 0 by omega)
  have m2 := Int.emod_lt_of_pos z hd
  split
  ·rename_i hh
   show z / d + 1 = -(-z / d)
   have h1 : -z = d * (-(z / d + 1)) + (d - z % d) := by rw [Int.mul_neg, Int.mul_add]; omega
   have h2 := hh.1
   rw [show -z / d = (d * (-(z / d + 1)) + (d - z % d)) / d by rw [← h1]]
   rw [Int.mul_add_ediv_left _ _ (by omega), Int.ediv_eq_zero_of_lt (a := d - z % d) (by omega) (by omega)]; omega
  ·rename_i hh
   show z / d = -(-z / d)
   have h0 : z % d = 0 := by
    by_cases h0 : z % d = 0
    ·exact h0
    ·exact absurd ⟨h0, by simp⟩ hh
   have h1 : -z = d * (-(z / d)) := by rw [Int.mul_neg]; omega
   rw [show -z / d = (d * (-(z / d))) / d by rw [← h1]]
   rw [Int.mul_ediv_cancel_left _ (by omega)]; omega
theorem val_p2 (k : Nat) : val (digits (p2 k)) = p2 k := val_digits' (by have := p2_pos k; omega)
theorem outZ_f (z : Int) (k : Nat) : outZ false z k = z / p2 k := by unfold outZ; rw [val_p2]; exact divZ_f (p2_pos k)
theorem outZ_c (z : Int) (k : Nat) : outZ true z k = cdiv z (p2 k) := by unfold outZ; rw [val_p2]; exact divZ_c (p2_pos k)

/-- A span as two numbers. -/
structure Z2 where
 lo : Int
 hi : Int
/-- In order, and no number of it is farther than M from 0. -/
def In2 (M : Int) (a : Z2) : Prop := -M ≤ a.lo ∧ a.lo ≤ a.hi ∧ a.hi ≤ M
theorem In2.mono {M N : Int} {a : Z2} (h : In2 M a) (hmn : M ≤ N) : In2 N a := by obtain ⟨h1, h2, h3⟩ := h; exact ⟨by omega, h2, by omega⟩
/-- In order, and no end has more than 20 limbs. -/
def Fit2 (a : Z2) : Prop := a.lo ≤ a.hi ∧ (mag a.lo).length ≤ 20 ∧ (mag a.hi).length ≤ 20

theorem p2_96 : p2 96 = 79228162514264337593543950336 := by decide +kernel
theorem p2_le {k : Nat} (h : k ≤ 96) : p2 k ≤ 79228162514264337593543950336 := by have := p2_mono k 96 h; rw [p2_96] at this; exact this
theorem pw_20 : pw 20 = 2135987035920910082395021706169552114602704522356652769947041607822219725780640550022962086936576 := by decide +kernel
theorem len20 {z M : Int} (h1 : -M ≤ z) (h2 : z ≤ M) (hM : M < 2135987035920910082395021706169552114602704522356652769947041607822219725780640550022962086936576) : (mag z).length ≤ 20 := mag_len_lt (by rw [pw_20]; omega)
/-! What comes of spans. -/
def abZ (z : Int) : Int := if z < 0 then -z else z
def away2 (a : Z2) : Int := maxZ (abZ a.lo) (abZ a.hi)
def swing2 (a : Z2) : Z2 := ⟨-away2 a, away2 a⟩
theorem abZ_nonneg (z : Int) : 0 ≤ abZ z := by unfold abZ; split <;> omega
/-! The series of an arc. -/
end Go.Proofs.Ytfafjijoeanbhaa
