/-
 Contracts of the model's l3Rat and RatSpan. Conditions: the limbs read as lists of numbers.
-/
import Derived.Deep.RegionHeld3
import Derived.Deep.DrawnRows
import Derived.Deep.DeepCutAuto
import Derived.Test.YtfafjijoeanbhaaJ5
import Derived.Test.YtfafjijoeanbhaaJ3
import Derived.Test.YtfafjijoeanbhaaBigE
import Derived.Test.YtfafjijoeanbhaaJ4
namespace Go.Proofs.Ytfafjijoeanbhaa
open Go.RowKit

theorem l2Big_u (b : Bool) (a : Option Addr) (n c : Nat) (v u : Int) (w : World) (hv : 0 ≤ v) (hu : u = sg b v) (hn : (digits v).length = n) :
  Calls Try.prog 58 #[.bool b, .slice a n c] w (Val w (.agg #[.bool (isNeg u), .slice a n c])) := by
 subst hu; exact l2Big_any _ _ _ _ _ _ hv hn
end Go.Proofs.Ytfafjijoeanbhaa
