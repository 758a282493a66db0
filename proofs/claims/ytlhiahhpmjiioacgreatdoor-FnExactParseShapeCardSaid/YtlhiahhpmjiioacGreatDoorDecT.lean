/-
  Contract of the program's decimalText. Condition: the library's table of powers of ten lies as its text lays it.
-/
import Derived.Deep.RegionHeld3
import Derived.Deep.DrawnRows
import Derived.Deep.DeepCutAuto
import Derived.Test.YtlhiahhpmjiioacGreatDoorDecP
import Derived.Test.YtlhiahhpmjiioacGreatDoorOrd
import Derived.Test.YtlhiahhpmjiioacGreatDoorTabK
import Derived.Test.YtlhiahhpmjiioacGreatDoorShf
namespace Go.Proofs.YtlhiahhpmjiioacGreatDoor
open Go.RowKit

/-- The library's table of powers of ten. -/
def Pow10 (w : World) : Prop := Lib.TabIs Tryz.prog w "internal/strconv.uint64pow10" .u64 Lib.pow10Tab
theorem Pow10.kept {w w' : World} (h : Pow10 w) (hk : Kept [] w w') : Pow10 w' := tabKept h hk

theorem gPow : Tryz.prog.globalNamed "internal/strconv.uint64pow10" = some 5 := by kernel_rfl
theorem Pow10.of_laid {W : World} {rest : List (String × DataW Unit)} {d : DataW Unit} (h : laidMet Tryz.prog (("internal/strconv.uint64pow10", d) :: rest) W) (hd : d = Lib.tabData .u64 Lib.pow10Tab := by rfl) : Pow10 W := by
  subst hd
  exact Lib.tabIs_of_head gPow (by kernel_rfl) Tryz.underlying150 Tryz.underlying123 (by kernel_rfl) (by kernel_rfl) h

end Go.Proofs.YtlhiahhpmjiioacGreatDoor
