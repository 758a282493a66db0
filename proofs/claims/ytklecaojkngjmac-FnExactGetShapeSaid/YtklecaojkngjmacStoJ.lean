/-
  Contracts of the laws' helpers over stores: marking and holding a store. Conditions: the store lies in blocks of its own; the marks are no great numbers.
-/
import Derived.Test.YtklecaojkngjmacStoK
namespace Go.Proofs.Ytklecaojkngjmac
open Go.RowKit

set_option maxHeartbeats 1000000 in
theorem markStore_any (g : Nat) (gs cs : Nat → Nat) (n c : Nat) (L : List Sh) (k : Int) (w : World) (h : StB w g gs cs n L) (hk : 1 ≤ k ∧ k ≤ 1099511627) (hn : n + szAt L n ≤ 2000000) :
    Calls Try.prog 10 #[.agg #[.slice (some ⟨g, 0, none⟩) n c], .int .i64 k] w fun e w' => e = .returned (.int .i64 (kAt L k n)) ∧ StB w' g gs cs n (markL L k n) ∧ Kept (blksS g gs n) w w' := by
  have HH := Lib.hid h
  have HK := Lib.hid hk
  have HN := Lib.hid hn
  clear h hk hn
  obtain ⟨V, hV⟩ : ∃ V : Int, kAt L k n = V := ⟨_, rfl⟩
  have HV := Lib.hid hV
  rw [hV]
  clear hV
  go_enter Try.func10, Try.ntmps10
  go_wp2_with fail
  refine (markNamedS_any _ _ _ _ _ _ _ _ (HH.out.kept0 ((Kept.refl [] w).alloc _)) HK.out HN.out).mono ?_
  rintro e w1 ⟨rfl, hs, h1⟩
  rw [HV.out]
  have HS := Lib.hid hs
  have H1 := Lib.hid h1.peel
  clear hs h1
  go_wp2_with fail
  go_ret
  exact ⟨rfl, HS.out, H1.out⟩

end Go.Proofs.Ytklecaojkngjmac
