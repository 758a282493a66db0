/-
  Contracts of the laws' helpers over a shape's result: marking, holding, comparing. Conditions: the slices read as lists of numbers and are short.
-/
import Derived.Test.YtlhiahhpmjiioacGreatDoorMkP
namespace Go.Proofs.YtlhiahhpmjiioacGreatDoor
open Go.RowKit

set_option maxHeartbeats 1000000 in
theorem markShape_any (v : Int) (a : Option Addr) (n c : Nat) (xs : List Int) (k : Int) (w : World) (h : SlP w a n xs) (hk : 0 ≤ k ∧ k ≤ 1099511627776) :
    Calls Tryz.prog 15 #[.agg #[.int .i64 v, .slice a n c], .int .i64 k] w fun e w' => e = .returned (.int .i64 (k + (n * 2 : Nat))) ∧ SlP w' a n (cnt k (n * 2)) ∧ Kept (blkP a n) w w' := by
  have HH := Lib.hid h
  have HK := Lib.hid hk
  clear h hk
  obtain ⟨V, hV⟩ : ∃ V : Int, k + ((n * 2 : Nat) : Int) = V := ⟨_, rfl⟩
  have HV := Lib.hid hV
  rw [hV]
  clear hV
  go_enter Tryz.func15, Tryz.ntmps15
  go_wp2_with fail
  refine (markPointS_any _ _ _ _ _ _ (HH.out.kept (L := []) ((Kept.refl [] w).alloc _) (by simp)) HK.out).mono ?_
  rintro e w1 ⟨rfl, hs, h1⟩
  rw [HV.out]
  have HS := Lib.hid hs
  have H1 := Lib.hid h1.peel
  clear hs h1
  go_wp2_with fail
  go_ret
  exact ⟨rfl, HS.out, H1.out⟩
set_option maxHeartbeats 1000000 in
theorem markShapeResult_any (u v : Int) (a : Option Addr) (n c : Nat) (xs : List Int) (k : Int) (w : World) (h : SlP w a n xs) (hk : 0 ≤ k ∧ k ≤ 1099511627776) :
    Calls Tryz.prog 7 #[.agg #[.int .i64 u, .int .i64 v, .slice a n c], .int .i64 k] w fun e w' => e = .returned (.int .i64 (k + (n * 2 : Nat))) ∧ SlP w' a n (cnt k (n * 2)) ∧ Kept (blkP a n) w w' := by
  have HH := Lib.hid h
  have HK := Lib.hid hk
  clear h hk
  obtain ⟨V, hV⟩ : ∃ V : Int, k + ((n * 2 : Nat) : Int) = V := ⟨_, rfl⟩
  have HV := Lib.hid hV
  rw [hV]
  clear hV
  go_enter Tryz.func7, Tryz.ntmps7
  go_wp2_with fail
  refine (markShape_any _ _ _ _ _ _ _ (HH.out.kept (L := []) ((Kept.refl [] w).alloc _) (by simp)) HK.out).mono ?_
  rintro e w1 ⟨rfl, hs, h1⟩
  rw [HV.out]
  have HS := Lib.hid hs
  have H1 := Lib.hid h1.peel
  clear hs h1
  go_wp2_with fail
  go_ret
  exact ⟨rfl, HS.out, H1.out⟩
set_option maxHeartbeats 1000000 in
theorem heldShape_any (v : Int) (a : Option Addr) (n c : Nat) (k : Int) (w : World) (h : SlP w a n (cnt k (n * 2))) (hk : 0 ≤ k ∧ k ≤ 1099511627776) :
    Calls Tryz.prog 16 #[.agg #[.int .i64 v, .slice a n c], .int .i64 k] w (Ans w (.int .i64 (k + (n * 2 : Nat)))) := by
  have HH := Lib.hid h
  have HK := Lib.hid hk
  have hn := h.1
  obtain ⟨V, hV⟩ : ∃ V : Int, k + ((n * 2 : Nat) : Int) = V := ⟨_, rfl⟩
  have hV0 : ¬ V < 0 := by omega
  have HV := Lib.hid hV
  rw [hV]
  clear hV h hk hn
  go_enter Tryz.func16, Tryz.ntmps16
  go_wp2_with fail
  refine (heldPointS_any _ _ _ _ _ (HH.out.kept (L := []) ((Kept.refl [] w).alloc _) (by simp)) HK.out).mono ?_
  rintro e w1 ⟨rfl, h1⟩
  rw [HV.out]
  have H1 := Lib.hid h1.peel
  clear h1
  go_wp2_with fail
  go_ret
  exact ⟨rfl, H1.out⟩
set_option maxHeartbeats 1000000 in
theorem heldShapeResult_any (u v : Int) (a : Option Addr) (n c : Nat) (k : Int) (w : World) (h : SlP w a n (cnt k (n * 2))) (hk : 0 ≤ k ∧ k ≤ 1099511627776) :
    Calls Tryz.prog 8 #[.agg #[.int .i64 u, .int .i64 v, .slice a n c], .int .i64 k] w (Ans w (.int .i64 (k + (n * 2 : Nat)))) := by
  have HH := Lib.hid h
  have HK := Lib.hid hk
  have hn := h.1
  obtain ⟨V, hV⟩ : ∃ V : Int, k + ((n * 2 : Nat) : Int) = V := ⟨_, rfl⟩
  have hV0 : ¬ V < 0 := by omega
  have HV := Lib.hid hV
  rw [hV]
  clear hV h hk hn
  go_enter Tryz.func8, Tryz.ntmps8
  go_wp2_with fail
  refine (heldShape_any _ _ _ _ _ _ (HH.out.kept (L := []) ((Kept.refl [] w).alloc _) (by simp)) HK.out).mono ?_
  rintro e w1 ⟨rfl, h1⟩
  rw [HV.out]
  have H1 := Lib.hid h1.peel
  clear h1
  go_wp2_with fail
  go_ret
  exact ⟨rfl, H1.out⟩
set_option maxHeartbeats 1000000 in
theorem eqShapeResult_yes (u k : Int) (a b : Option Addr) (n c c' : Nat) (xs : List Int) (w : World) (h : Rd w a (n * 2) xs) (h' : Rd w b (n * 2) xs) :
    Calls Tryz.prog 6 #[.agg #[.int .i64 u, .int .i64 k, .slice a n c], .agg #[.int .i64 u, .int .i64 k, .slice b n c']] w (Ans w (.bool true)) := by
  have HR := Lib.hid h
  have HR' := Lib.hid h'
  clear h h'
  go_enter Tryz.func6, Tryz.ntmps6
  go_wp2_with fail
  refine (eqShape_yes _ _ _ _ _ _ _ _ (HR.out.kept0 (((Kept.refl _ _).alloc _).alloc _)) (HR'.out.kept0 (((Kept.refl _ _).alloc _).alloc _))).mono ?_
  rintro e w1 ⟨rfl, h1⟩
  go_wp2_with fail
  go_ret
  exact ⟨rfl, h1.peel.peel⟩

end Go.Proofs.YtlhiahhpmjiioacGreatDoor
