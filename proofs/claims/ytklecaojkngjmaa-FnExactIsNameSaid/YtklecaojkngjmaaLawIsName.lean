/-
  The walk of the law on IsName. No condition.
-/
import Derived.OpenShut
import Derived.Test.YtklecaojkngjmaaNmA
namespace Go.Proofs.Ytklecaojkngjmaa
open Go.RowKit

set_option maxHeartbeats 1000000 in
theorem FnExactIsName_walk (s : ByteArray) (w : World) (_hx : s.size ≤ maxLen) :
    Calls Try.prog 3 #[.string s] w (Ans w (.bool true)) := by
  by_cases hbig : 1048576 < s.size
  · go_enter Try.func3, Try.ntmps3
    go_wp2_with fail
    go_ret
    exact ⟨rfl, Kept.refl _ _⟩
  have hs : s.size ≤ 9223372036854775807 := by omega
  have hs2 : ¬ (1048576 : Int) < s.size := by omega
  clear hbig
  go_enter Try.func3, Try.ntmps3
  go_wp2_with fail
  refine (sIsName_any s _ hs).mono ?_
  rintro e w1 ⟨rfl, h1⟩
  have K1 := Lib.hid h1
  clear h1
  go_wp2_with fail
  refine (IsName_any s _ hs).mono ?_
  rintro e w2 ⟨rfl, h2⟩
  have K2 := Lib.hid (K1.out.trans0 h2)
  clear h2
  generalize isNm s.data.toList = v
  go_wp2_with fail
  go_ret
  exact ⟨rfl, K2.out⟩

end Go.Proofs.Ytklecaojkngjmaa
