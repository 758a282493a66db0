/-
 What SinSpan and CosSpan answer. No condition.
-/
import Derived.Test.YtfafjijoeanbhaaGreatPlainF
import Derived.Test.YtfafjijoeanbhaaGreatArcSpec
namespace Go.Proofs.YtfafjijoeanbhaaGreat
open Go.RowKit

/-- What a sine, or a cosine, is told as. -/
def wavF (cos : Bool) (k : Nat) (x1 x2 : Int) : Z2 := if cos = true then wave2 k ⟨x1, x2⟩ ⟨p2 k, p2 k⟩ (-1) else wave2 k ⟨x1, x2⟩ ⟨x1, x1⟩ 1
theorem in_low {k : Nat} {x1 x2 : Int} (h : In2 (7 * p2 k) ⟨x1, x2⟩) : In2 (7 * p2 k) ⟨x1, x1⟩ := ⟨h.1, Int.le_refl _, by have h2 := h.2.1; have h3 := h.2.2; dsimp only at *; omega⟩
theorem in_one7 (k : Nat) : In2 (7 * p2 k) ⟨p2 k, p2 k⟩ := by have hp := p2_pos k; exact ⟨by show -(7 * p2 k) ≤ p2 k; omega, Int.le_refl _, by show p2 k ≤ 7 * p2 k; omega⟩
theorem wavF_fit {cos : Bool} {k : Nat} {x1 x2 : Int} (h : In2 (7 * p2 k) ⟨x1, x2⟩) (hk : k ≤ 96) : Fit2 (wavF cos k x1 x2) := by
 cases cos
 ·exact wave2_fit h (Or.inl rfl) (in_low h) hk
 ·exact wave2_fit h (Or.inr rfl) (in_one7 k) hk
def waveSS (cos : Bool) (P : Int) (p : Bool) (xs : List Int) (q : Bool) (ys : List Int) : SV :=
 if farC P 7 p xs q ys = 0 then ⟨0, (wavF cos P.toNat (sv p xs) (sv q ys)).lo, (wavF cos P.toNat (sv p xs) (sv q ys)).hi⟩ else noSpan (farC P 7 p xs q ys)
theorem waveSS_bad {cos : Bool} {P : Int} {p q : Bool} {xs ys : List Int} (h : farC P 7 p xs q ys ≠ 0) : waveSS cos P p xs q ys = noSpan (farC P 7 p xs q ys) := if_neg h
theorem waveSS_ok {cos : Bool} {k : Nat} {x1 x2 : Int} (h : farC (k : Int) 7 (isNeg x1) (mag x1) (isNeg x2) (mag x2) = 0) :
  waveSS cos (k : Int) (isNeg x1) (mag x1) (isNeg x2) (mag x2) = ⟨0, (wavF cos k x1 x2).lo, (wavF cos k x1 x2).hi⟩ := by
 unfold waveSS; rw [if_pos h, sv_mag, sv_mag]; rfl
theorem waveSS_short (cos : Bool) (P : Int) (p : Bool) (xs : List Int) (q : Bool) (ys : List Int) : Short (waveSS cos P p xs q ys) := by
 by_cases hz : farC P 7 p xs q ys = 0
 ·obtain ⟨hP, hf0⟩ := precS_zero (farC_pre hz)
  obtain ⟨k, rfl, hk96, _⟩ := isP_nat hP
  obtain ⟨x1, x2, rfl, rfl, rfl, rfl, fx⟩ := ok_letters (spanFault_zero hf0)
  rw [waveSS_ok hz]
  have h2 := wavF_fit (cos := cos) (far_in fx.1 (farC_pre hz) hz) hk96
  exact ⟨h2.2.1, h2.2.2⟩
 ·rw [waveSS_bad hz]; exact noSpan_short _

end Go.Proofs.YtfafjijoeanbhaaGreat
