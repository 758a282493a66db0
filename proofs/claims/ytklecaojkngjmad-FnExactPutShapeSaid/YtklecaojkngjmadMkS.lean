/-
  Contracts of the laws' helpers over a shape's result: marking, holding, comparing. Conditions: the slices read as lists of numbers and are short.
-/
import Derived.Test.YtklecaojkngjmadMkP
namespace Go.Proofs.Ytklecaojkngjmad
open Go.RowKit

set_option maxHeartbeats 1000000 in
theorem markShape_any (v : Int) (a : Option Addr) (n c : Nat) (xs : List Int) (k : Int) (w : World) (h : SlP w a n xs) (hk : 0 ≤ k ∧ k ≤ 1099511627776) :
    Calls Try.prog 14 #[.agg #[.int .i64 v, .slice a n c], .int .i64 k] w fun e w' => e = .returned (.int .i64 (k + (n * 2 : Nat))) ∧ SlP w' a n (cnt k (n * 2)) ∧ Kept (blkP a n) w w' := by
  have HH := Lib.hid h
  have HK := Lib.hid hk
  clear h hk
  obtain ⟨V, hV⟩ : ∃ V : Int, k + ((n * 2 : Nat) : Int) = V := ⟨_, rfl⟩
  have HV := Lib.hid hV
  rw [hV]
  clear hV
  go_enter Try.func14, Try.ntmps14
  go_wp2_with fail
  refine (markPointS_any _ _ _ _ _ _ (HH.out.kept (L := []) ((Kept.refl [] w).alloc _) (by simp)) HK.out).mono ?_
  rintro e w1 ⟨rfl, hs, h1⟩
  rw [HV.out]
  have HS := Lib.hid hs
  have H1 := Lib.hid h1.peel
  clear hs h1
  go_wp2_with fail
  go_ret
  exact ⟨rfl, HS.out, H1.out⟩
end Go.Proofs.Ytklecaojkngjmad
