/-
  The draw of what is divided: contract of DrawDivNats. Condition: the bytes are at most 1048576.
-/
import Derived.Test.YtlhiahhpmjiioaaDrwA
import Derived.Test.YtlhiahhpmjiioaaSMul
import Derived.Test.YtlhiahhpmjiioaaNatOf
namespace Go.Proofs.Ytlhiahhpmjiioaa
open Go.RowKit

theorem draw_lt {x most : Int} (k : Nat) (hx : 0 ≤ x) (hl : ((digits x).length : Int) ≤ most) (hm : most ≤ k) : x < pw k := by
  have := (val_pw_le (canon_limbs (canon_digits' x)) (show (digits x).length ≤ k by omega)).2
  rwa [val_digits' hx] at this
theorem mul_lt8 {x y : Int} (hx : 0 ≤ x ∧ x < pw 4) (hy : 0 ≤ y ∧ y < pw 4) : 0 ≤ x * y ∧ x * y + 2 < pw 9 := by
  have h0 := Int.mul_nonneg hx.1 hy.1
  simp only [pw] at hx hy ⊢
  have h1 : x * y ≤ 18446744073709551615 * 18446744073709551615 := Int.mul_le_mul (by omega) (by omega) (by omega) (by omega)
  omega

end Go.Proofs.Ytlhiahhpmjiioaa
