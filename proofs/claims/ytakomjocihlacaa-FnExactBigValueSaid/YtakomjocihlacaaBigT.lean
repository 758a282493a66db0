/-
 Contracts of BigText, the program's and the model's. Condition: the limbs lie in a block of numbers.
-/
import Derived.Test.YtakomjocihlacaaJ2
import Derived.Test.YtakomjocihlacaaNText
namespace Go.Proofs.Ytakomjocihlacaa
open Go.RowKit

theorem textVal_ok {xs : List Int} (h : natFault xs = 0) : textVal xs = strOfNums (decText (val xs)) := if_pos h

theorem size_strOfNums (l : List Int) : (strOfNums l).size = l.length := by
 unfold strOfNums; simp [ByteArray.size]
end Go.Proofs.Ytakomjocihlacaa
