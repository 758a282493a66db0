/-
 Contracts of BigText, the program's and the model's. Condition: the limbs lie in a block of numbers.
-/
import Derived.Test.YtfafjijoeanbhaaJ2
import Derived.Test.YtfafjijoeanbhaaNText
namespace Go.Proofs.Ytfafjijoeanbhaa
open Go.RowKit

theorem textVal_ok {xs : List Int} (h : natFault xs = 0) : textVal xs = strOfNums (decText (val xs)) := if_pos h

theorem size_strOfNums (l : List Int) : (strOfNums l).size = l.length := by
 unfold strOfNums; simp [ByteArray.size]
end Go.Proofs.Ytfafjijoeanbhaa
