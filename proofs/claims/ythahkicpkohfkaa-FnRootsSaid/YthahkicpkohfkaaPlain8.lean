/-
  Plain facts on BigValue: when a number outgrows a word, digit by digit below 0. No condition.
-/
import Derived.Test.YthahkicpkohfkaaJ1
namespace Go.Proofs.Ythahkicpkohfkaa

def minI : Int := -9223372036854775808
/-- What BigValue answers: the code and the number. -/
def outI (z : Int) : Prop := z < -9223372036854775808 ∨ 9223372036854775807 < z
instance (z : Int) : Decidable (outI z) := inferInstanceAs (Decidable (_ ∨ _))
def bvCode (p : Bool) (xs : List Int) : Int := if bigFault p xs = 0 then (if outI (sv p xs) then 7 else 0) else bigFault p xs
def bvVal (p : Bool) (xs : List Int) : Int := if bigFault p xs = 0 then (if outI (sv p xs) then 0 else sv p xs) else 0
/-- The program's test before a digit is taken: true when the number would fall under the least of a word. -/
theorem less_iff {v d : Int} (hd : 0 ≤ d ∧ d ≤ 9) : v < (-9223372036854775808 + d).tdiv 10 ↔ v * 10 - d < -9223372036854775808 := by
  have e : (-9223372036854775808 + d).tdiv 10 = -((9223372036854775808 - d) / 10) := by
    rw [show (-9223372036854775808 + d : Int) = -(9223372036854775808 - d) by omega, Int.neg_tdiv, Int.tdiv_eq_ediv_of_nonneg (by omega)]
  rw [e]; omega
/-- Once it has fallen under, more digits leave it under. -/
theorem under_more {v d : Int} (hd : 0 ≤ d) (h : v < -9223372036854775808) : v * 10 - d < -9223372036854775808 := by omega

end Go.Proofs.Ythahkicpkohfkaa
