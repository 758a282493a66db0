/-
  Contracts of the models of MulSpan and SquareSpan. Conditions: the limbs read as lists of numbers.
-/
import Derived.Deep.RegionHeld3
import Derived.Deep.DrawnRows
import Derived.Deep.DeepCutAuto
import Derived.Test.YtofpommikmdlfaaSqA
import Derived.Test.YtofpommikmdlfaaPrec
namespace Go.Proofs.Ytofpommikmdlfaa
open Go.RowKit

/-- The answer where the precision is one and the spans have no fault. -/
def askS (P f : Int) (r : SV) : SV := if isP P = true then twoS f r else noSpan 3
theorem askS_short {P f : Int} {r : SV} (h : Short r) : Short (askS P f r) := by
  unfold askS; split
  · exact twoS_short h
  · exact noSpan_short 3
theorem askS_ok {P f : Int} {r : SV} (hP : isP P = true) (hf : f = 0) : askS P f r = r := by unfold askS; rw [if_pos hP, twoS_zero hf]
theorem askS_bad {P f : Int} {r : SV} (hP : isP P = true) (hf : f ≠ 0) : askS P f r = noSpan f := by unfold askS; rw [if_pos hP, twoS_not hf]
theorem askS_no {P f : Int} {r : SV} (hP : ¬ isP P = true) : askS P f r = noSpan 3 := by unfold askS; rw [if_neg hP]
theorem spanFault2_same (p q : Bool) (xs ys : List Int) : spanFault2 p xs q ys p xs q ys = spanFault p xs q ys := by unfold spanFault2; split <;> simp_all
def mulLow (p : Bool) (xs : List Int) (q : Bool) (ys : List Int) (p' : Bool) (xs' : List Int) (q' : Bool) (ys' : List Int) : Int := min4 (sv p xs * sv p' xs') (sv p xs * sv q' ys') (sv q ys * sv p' xs') (sv q ys * sv q' ys')
def mulHigh (p : Bool) (xs : List Int) (q : Bool) (ys : List Int) (p' : Bool) (xs' : List Int) (q' : Bool) (ys' : List Int) : Int := max4 (sv p xs * sv p' xs') (sv p xs * sv q' ys') (sv q ys * sv p' xs') (sv q ys * sv q' ys')
def mulS (P : Int) (p : Bool) (xs : List Int) (q : Bool) (ys : List Int) (p' : Bool) (xs' : List Int) (q' : Bool) (ys' : List Int) : SV :=
  askS P (spanFault2 p xs q ys p' xs' q' ys') (fitS (outZ false (mulLow p xs q ys p' xs' q' ys') P.toNat) (outZ true (mulHigh p xs q ys p' xs' q' ys') P.toNat))
def sqS (P : Int) (p : Bool) (xs : List Int) (q : Bool) (ys : List Int) : SV :=
  askS P (spanFault p xs q ys) (fitS (outZ false (sqLow p xs q ys) P.toNat) (outZ true (sqHigh p xs q ys) P.toNat))
theorem mulS_short (P : Int) (p : Bool) (xs : List Int) (q : Bool) (ys : List Int) (p' : Bool) (xs' : List Int) (q' : Bool) (ys' : List Int) : Short (mulS P p xs q ys p' xs' q' ys') := askS_short (fitS_short _ _)
theorem sqS_short (P : Int) (p : Bool) (xs : List Int) (q : Bool) (ys : List Int) : Short (sqS P p xs q ys) := askS_short (fitS_short _ _)

end Go.Proofs.Ytofpommikmdlfaa
