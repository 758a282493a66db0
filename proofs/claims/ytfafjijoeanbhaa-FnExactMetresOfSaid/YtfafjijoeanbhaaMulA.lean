/-
  Joined texts.
-/
import Derived.Deep.RegionHeld3
import Derived.Deep.DrawnRows
import Derived.Deep.DeepCutAuto
import Derived.Test.YtfafjijoeanbhaaSpanM
import Derived.Test.YtfafjijoeanbhaaSpanW
import Derived.Test.YtfafjijoeanbhaaJ5
import Derived.Test.YtfafjijoeanbhaaJ1
import Derived.Test.YtfafjijoeanbhaaPrec
namespace Go.Proofs.Ytfafjijoeanbhaa
open Go.RowKit

theorem l2Mul_z (p q : Bool) (a b : Option Addr) (n c m d : Nat) (xs ys : List Int) (z : Int) (w : World) (hx : Nat40 xs) (hy : Nat40 ys) (h : Sl w a n c xs) (h' : Sl w b m d ys) (hz : z = sv p xs * sv q ys) :
  Calls Try.prog 39 #[.agg #[.bool p, .slice a n c], .agg #[.bool q, .slice b m d]] w (BigV w.heap.size w z) := by
 subst hz; exact l2Mul_any _ _ _ _ _ _ _ _ _ _ _ hx hy h h'

end Go.Proofs.Ytfafjijoeanbhaa
namespace Go.Proofs.Ytfafjijoeanbhaa
open Go.RowKit

theorem RowB.kept0 {w w' : World} {g : Nat} {l : List BE} (h : RowB w g l) (k : Kept [] w w') : RowB w' g l := h.kept k (by simp)
theorem OkB.kept0 {w w' : World} {l : List BE} (h : OkB w l) (k : Kept [] w w') : OkB w' l := h.kept k
theorem isNeg_zero : isNeg 0 = false := isNeg_no (Int.le_refl 0)
end Go.Proofs.Ytfafjijoeanbhaa
namespace Go.Proofs.Ytfafjijoeanbhaa
open Go.RowKit

theorem spanFault2_same (p q : Bool) (xs ys : List Int) : spanFault2 p xs q ys p xs q ys = spanFault p xs q ys := by unfold spanFault2; split <;> simp_all
end Go.Proofs.Ytfafjijoeanbhaa
