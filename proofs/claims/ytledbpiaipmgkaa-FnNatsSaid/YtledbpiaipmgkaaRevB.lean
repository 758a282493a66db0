/-
  slices.Reverse at []byte, by the library's contract: the slice's cells are turned round in place. Condition: the cells hold bytes and none is frozen.
-/
import Derived.Test.YtledbpiaipmgkaaTextV
import Derived.Shelf.SlicesE.Reverse
import Derived.Shelf.SlGeneric
import Derived.Ground.SlgnProg
namespace Go.Proofs
open Go.Shelf
def Try.revBytes_ren : Go.Shelf.Ren := ⟨fun | 35 => 69 | n => n, fun | 22 => 22 | 23 => 5 | 3 => 3 | 4 => 4 | 0 => 0 | n => n, fun | n => n⟩
theorem Try.revBytes : Go.Proofs.SlLaysE.n35 Try.prog Try.revBytes_ren := {
  mixed := by kernel_rfl
  f35 := ⟨Try.f69.name, by decide, Try.func69.trans (congrArg some (by kernel_rfl))⟩
  t0 := Try.underlying0
  a0 := Try.isAgg0
  z0 := Try.sizeOf0
  v0 := Try.zeroValue0
  t3 := Try.underlying3
  a3 := Try.isAgg3
  z3 := Try.sizeOf3
  v3 := Try.zeroValue3
  t4 := Try.underlying4
  a4 := Try.isAgg4
  z4 := Try.sizeOf4
  v4 := Try.zeroValue4
  t22 := Try.underlying22
  a22 := Try.isAgg22
  z22 := Try.sizeOf22
  v22 := Try.zeroValue22
  a23 := Try.isAgg5
  z23 := Try.sizeOf5 }
end Go.Proofs
namespace Go.Proofs.Ytledbpiaipmgkaa
open Go.RowKit Go.Sort

theorem reverseB_any (blk off cap : Nat) (zs : List Int) (w : World) (hH : Holds (Value.int .u8) w blk off zs.toArray) (hsz : zs.length ≤ 9223372036854775807) :
    Calls Try.prog 69 #[.slice (some ⟨blk, off, none⟩) zs.length cap] w fun e w' => e = .returned (.tuple #[]) ∧ ∃ n, w' = putRow (Value.int .u8) (Sort.ahead w n) blk off zs.reverse.toArray := by
  have h := AnyE.slices_Reverse Try.revBytes (Value.int .u8) (fun _ => rfl) blk off cap zs w hH hsz
  change Calls Try.prog 69 _ _ _ at h
  exact h

end Go.Proofs.Ytledbpiaipmgkaa
