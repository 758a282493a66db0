/-
  Contract of the laws' helper that writes a mark. Condition: the mark is no great number.
-/
import Derived.Test.YtbkfjebmpccbladDoorCooA
namespace Go.Proofs.YtbkfjebmpccbladDoor
open Go.RowKit

/-- The text that marks. -/
def mkT (u : Nat) : List UInt8 := 109 :: Lib.decDigits u
/-- What is left of the digits. -/
def DigLeft (u j : Nat) (D : List UInt8) : Prop := Lib.decDigits u = if j = 0 then D else Lib.decDigits j ++ D
theorem digLeft_step {u j : Nat} {D : List UInt8} (h : DigLeft u j D) (hj : 0 < j) : DigLeft u (j / 10) (dg j :: D) := by
  unfold DigLeft at h ⊢
  rw [if_neg (by omega)] at h
  by_cases h10 : j < 10
  · rw [if_pos (by omega), h, dec_one h10]; rfl
  · rw [if_neg (by omega), h, dec_step (by omega)]; simp
theorem decLen (u : Nat) (h : u ≤ 9223372036854775807) : (Lib.decDigits u).length ≤ 19 := decD_len (k := 19) (by omega) (by omega)
theorem digLeft_len {u j : Nat} {D : List UInt8} (h : DigLeft u j D) (hu : u ≤ 9223372036854775807) : D.length ≤ 19 := by
  have h1 := decLen u hu
  unfold DigLeft at h
  rw [h] at h1
  split at h1
  · exact h1
  · rw [List.length_append] at h1; omega

end Go.Proofs.YtbkfjebmpccbladDoor
