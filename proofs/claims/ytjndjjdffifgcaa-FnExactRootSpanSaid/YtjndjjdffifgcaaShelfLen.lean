/-
  The library's contract of bits.Len64, laid at this program. No condition.
-/
import Derived.Test.YtjndjjdffifgcaaProg
import Derived.Shelf.Strconv.Itoa0
namespace Go.Proofs
open Go.Shelf

def Try.lenWords_ren : Go.Shelf.Ren := ⟨fun | 129 => 151 | n => n, fun | 53 => 122 | 3 => 3 | 4 => 4 | 46 => 120 | 5 => 5 | 9 => 9 | n => n, fun | n => n⟩
theorem Try.lenWords : Go.Proofs.Lays.n129 Try.prog Try.lenWords_ren := {
  mixed := by kernel_rfl
  f129 := Try.func151.trans (congrArg some (by kernel_rfl))
  t3 := Try.underlying3
  a3 := Try.isAgg3
  z3 := Try.sizeOf3
  v3 := Try.zeroValue3
  t4 := Try.underlying4
  a4 := Try.isAgg4
  z4 := Try.sizeOf4
  v4 := Try.zeroValue4
  t5 := Try.underlying5
  a5 := Try.isAgg5
  z5 := Try.sizeOf5
  v5 := Try.zeroValue5
  t9 := Try.underlying9
  a9 := Try.isAgg9
  z9 := Try.sizeOf9
  v9 := Try.zeroValue9
  t46 := Try.underlying120
  a46 := Try.isAgg120
  z46 := Try.sizeOf120
  v46 := Try.zeroValue120
  t53 := Try.underlying122
  a53 := Try.isAgg122
  z53 := Try.sizeOf122
  v53 := Try.zeroValue122 }
end Go.Proofs
namespace Go.Proofs.Ytjndjjdffifgcaa

theorem Len64_any (x : Int) (w : World) (h0 : 0 ≤ x) (h1 : x ≤ 18446744073709551615) :
    Calls Try.prog 151 #[.int .u64 x] w fun e w' => e = .returned (.int .i64 (Lib.bitLen x.toNat)) ∧ w' = w := Any.bits_Len64 Try.lenWords x w h0 h1

end Go.Proofs.Ytjndjjdffifgcaa
