/-
  slices.Reverse at []byte, by the library's contract: the slice's cells are turned round in place. Condition: the cells hold bytes and none is frozen.
-/
import Derived.Test.YtijahllienkgiaaTextV
import Derived.Shelf.SlicesE.Reverse
import Derived.Shelf.SlGeneric
import Derived.Ground.SlgnProg
namespace Go.Proofs
open Go.Shelf
shelf_lay_g SlLaysE.n35 Slgn 35 at Try 122 as Try.revBytes
end Go.Proofs
namespace Go.Proofs.Ytijahllienkgiaa
open Go.RowKit Go.Sort

theorem reverseB_any (blk off cap : Nat) (zs : List Int) (w : World) (hH : Holds (Value.int .u8) w blk off zs.toArray) (hsz : zs.length ≤ 9223372036854775807) :
    Calls Try.prog 122 #[.slice (some ⟨blk, off, none⟩) zs.length cap] w fun e w' => e = .returned (.tuple #[]) ∧ ∃ n, w' = putRow (Value.int .u8) (Sort.ahead w n) blk off zs.reverse.toArray := by
  have h := AnyE.slices_Reverse Try.revBytes (Value.int .u8) (fun _ => rfl) blk off cap zs w hH hsz
  change Calls Try.prog 122 _ _ _ at h
  exact h

end Go.Proofs.Ytijahllienkgiaa
