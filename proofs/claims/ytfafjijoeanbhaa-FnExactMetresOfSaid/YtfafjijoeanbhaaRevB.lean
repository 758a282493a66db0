/-
  Joined texts.
-/
import Derived.Test.YtfafjijoeanbhaaShort
import Derived.Laws.BytesArg
import Derived.Test.YtfafjijoeanbhaaJ1
import Derived.Test.YtfafjijoeanbhaaNatOf
import Derived.Shelf.SlicesE.Reverse
import Derived.Shelf.SlGeneric
import Derived.Ground.SlgnProg
namespace Go.Proofs.Ytfafjijoeanbhaa
open Go.RowKit

/-- What NatText answers: the code, and the text. -/
def textVal (xs : List Int) : ByteArray := if natFault xs = 0 then strOfNums (decText (val xs)) else ⟨#[]⟩

theorem resCellsT {w w1 : World} {L : List Nat} (hK : Kept L (w.alloc (.cells #[.int .i64 0, .string ⟨#[]⟩] 97)) w1) (hL : w.heap.size ∉ L) :
  w1.cell? ⟨w.heap.size, 0, none⟩ = some (.int .i64 0) ∧ w1.cell? ⟨w.heap.size, 1, none⟩ = some (.string ⟨#[]⟩) ∧ w1.frozen? ⟨w.heap.size, 0, none⟩ = false ∧ w1.frozen? ⟨w.heap.size, 1, none⟩ = false ∧ w.heap.size + 1 ≤ w1.heap.size :=
 ⟨hK.cell (p := ⟨w.heap.size, 0, none⟩) (by simp) hL, hK.cell (p := ⟨w.heap.size, 1, none⟩) (by simp) hL, hK.free (p := ⟨w.heap.size, 0, none⟩) (by simp) (by simp) hL, hK.free (p := ⟨w.heap.size, 1, none⟩) (by simp) (by simp) hL,
  by have := hK.size; simpa using this⟩
theorem textR_fin {w w1 : World} (u : Int) (v : ByteArray) (hK : Kept [] (w.alloc (.cells #[.int .i64 0, .string ⟨#[]⟩] 97)) w1) :
  Ans w (.agg #[.int .i64 u, .string v]) (.returned (.agg #[.int .i64 u, .string v])) ((w1.setCell ⟨w.heap.size, 0, none⟩ (.int .i64 u)).setCell ⟨w.heap.size, 1, none⟩ (.string v)) :=
 ⟨rfl, ((((Kept.refl [] w).alloc _).trans0 hK).setCell _ _ (by simp)).setCell _ _ (by simp)⟩

end Go.Proofs.Ytfafjijoeanbhaa
namespace Go.Proofs
open Go.Shelf
def Try.revBytes_ren : Go.Shelf.Ren := ⟨fun | 35 => 95 | n => n, fun | 22 => 114 | 23 => 5 | 3 => 3 | 4 => 4 | 0 => 0 | n => n, fun | n => n⟩
theorem Try.revBytes : Go.Proofs.SlLaysE.n35 Try.prog Try.revBytes_ren := {
 mixed := by kernel_rfl
 f35 := ⟨Try.f95.name, by decide, Try.func95.trans (congrArg some (by kernel_rfl))⟩
 t0 := Try.underlying0
 a0 := Try.isAgg0
 z0 := Try.sizeOf0
 v0 := Try.zeroValue0
 t3 := Try.underlying3
 a3 := Try.isAgg3
 z3 := Try.sizeOf3
 v3 := Try.zeroValue3
 t4 := Try.underlying4
 a4 := Try.isAgg4
 z4 := Try.sizeOf4
 v4 := Try.zeroValue4
 t22 := Try.underlying114
 a22 := Try.isAgg114
 z22 := Try.sizeOf114
 v22 := Try.zeroValue114
 a23 := Try.isAgg5
 z23 := Try.sizeOf5 }
end Go.Proofs
namespace Go.Proofs.Ytfafjijoeanbhaa
open Go.RowKit Go.Sort

theorem reverseB_any (blk off cap : Nat) (zs : List Int) (w : World) (hH : Holds (Value.int .u8) w blk off zs.toArray) (hsz : zs.length ≤ 9223372036854775807) :
  Calls Try.prog 95 #[.slice (some ⟨blk, off, none⟩) zs.length cap] w fun e w' => e = .returned (.tuple #[]) ∧ ∃ n, w' = putRow (Value.int .u8) (Sort.ahead w n) blk off zs.reverse.toArray := by
 have h := AnyE.slices_Reverse Try.revBytes (Value.int .u8) (fun _ => rfl) blk off cap zs w hH hsz
 change Calls Try.prog 95 _ _ _ at h
 exact h

end Go.Proofs.Ytfafjijoeanbhaa
