/-
  The walk of the law on StoreFault. No condition but that the argument reads as named shapes.
-/
import Derived.Deep.RegionHeld3
import Derived.Deep.DrawnRows
import Derived.Deep.DeepCutAuto
import Derived.Test.YtklecaojkngjmabStoB
import Derived.Test.YtklecaojkngjmabStoE
namespace Go.Proofs.Ytklecaojkngjmab
open Go.RowKit

set_option maxHeartbeats 1000000 in
theorem FnExactStoreFault_walk (a : Option Addr) (n c : Nat) (L : List Sh) (w : World) (h : ArgSt w a n L) :
    Calls Try.prog 3 #[.agg #[.slice a n c]] w (Ans w (.bool true)) := by
  by_cases hbig : n + szAt L n ≤ 1048576
  · have HR := Lib.hid (h.rd hbig)
    have HN := Lib.hid (show n + szAt L n ≤ 2000000 by omega)
    have HA := Lib.hid (h.kept0 ((Kept.refl [] w).alloc (.cells #[.slice a n c] 24)))
    have hv := Lib.hid (leftS_yes (left := 1048576) (x := n + szAt L n) (by omega))
    obtain ⟨M, hM⟩ : ∃ M : Int, 1048576 - ((n + szAt L n : Nat) : Int) = M := ⟨_, rfl⟩
    rw [hM] at hv
    have hM0 : ¬ M < 0 := by omega
    clear h hbig hM
    go_enter Try.func3, Try.ntmps3
    go_wp2_with fail
    refine (szStore_any _ _ _ _ _ _ HA.out (by decide) (by decide)).mono ?_
    rintro e w0 ⟨rfl, h0'⟩
    rw [hv.out]
    have HK0 := Lib.hid h0'
    have b0 := (h0'.top rfl (by simp) 0 (v := .slice a n c) rfl).1
    have B0 := Lib.hid b0
    clear h0'
    go_wp2_with fail
    refine (toStore_any _ _ _ _ _ (HR.out.kept0 HK0.out.peel) HN.out).mono ?_
    rintro e w1 ⟨g1, gs1, rfl, hb1, ha1, hk1⟩
    have HS1 := Lib.hid hb1
    have HK1 := Lib.hid (HK0.out.trans0 hk1)
    clear hb1 ha1 hk1
    go_wp2_with fail
    refine (sStoreFault_any _ _ _ _ _ HS1.out.rd).mono ?_
    rintro e w2 ⟨rfl, hk2⟩
    have HK2 := Lib.hid (HK1.out.trans0 hk2)
    have b2 := (HK2.out.top rfl (by simp) 0 (v := .slice a n c) rfl).1
    clear hk2
    go_wp2_with fail
    refine (toStore_any _ _ _ _ _ (HR.out.kept0 HK2.out.peel) HN.out).mono ?_
    rintro e w3 ⟨g3, gs3, rfl, hb3, ha3, hk3⟩
    have HS3 := Lib.hid hb3
    have HK3 := Lib.hid (HK2.out.trans0 hk3)
    clear hb3 ha3 hk3
    have k3 : Kept [] w3 (w3.alloc (.cells #[.slice (some ⟨g3, 0, none⟩) n n] 29)) := (Kept.refl [] w3).alloc _
    have HS3' := Lib.hid (HS3.out.kept0 k3)
    have K3 := Lib.hid k3
    clear k3
    go_wp2_with fail
    refine (StoreFault_any _ _ _ _ _ HS3'.out.rd).mono ?_
    rintro e w4 ⟨rfl, hk4⟩
    have HS4 := Lib.hid (HS3'.out.kept0 hk4)
    have b3 := (hk4.top rfl (by simp) 0 (v := .slice (some ⟨g3, 0, none⟩) n n) rfl).1
    have HK4 := Lib.hid (HK3.out.trans0 (K3.out.trans0 hk4))
    have a0 := (HK4.out.top rfl (by simp) 0 (v := .slice a n c) rfl).1
    have z4 := hk4.size
    simp only [World.size_alloc] at z4
    have l4 : w3.heap.size < w4.heap.size := by omega
    clear hk4 z4 HS3 HS3' b2
    generalize storeC L = v
    go_wp2_with fail
    go_region_held3 (fun w' => w'.cell? ⟨w3.heap.size, 0, none⟩ = some (.slice (some ⟨g3, 0, none⟩) n n) ∧ w'.cell? ⟨w.heap.size, 0, none⟩ = some (.slice a n c) ∧ Hid (Kept [] w4 w'))
      ((go_split_ands; (try refine ⟨?_, ?_, ?_⟩) <;> with_reducible first | exact Lib.hid ((Kept.refl _ _).drew) | exact drew_pt (by assumption) | exact Kept.allocH (by assumption) | exact alloc_cell (by assumption) | exact Lib.hid (Kept.trans0 (Hid.out (by assumption)) (by assumption)) | exact Kept.cell (by assumption) (by assumption) (by simp)))
      (first
        | (go_at_call 6; go_split_ands; refine (toStore_any _ _ _ _ _ (HR.out.kept0 (HK4.out.peel.trans0 (Kept.refl [] _).drew)) HN.out).mono ?_; rintro e v7 ⟨ge0, gse, rfl, hb, qe0, hk1⟩)
        | (go_at_call 8; go_split_ands; refine (eqStore_yes _ _ _ _ _ _ _ (HS4.out.kept0 ((Kept.refl [] w4).drew.trans0 hk1)).rd hb.rd).mono ?_; rintro e v8 ⟨rfl, hk2⟩))
    have HK6 := Lib.hid (((HK4.out.trans0 (Kept.refl [] w4).drew).trans0 hk1).trans0 hk2)
    clear hk1 hk2 hb
    go_wp2_with fail
    go_ret
    exact ⟨rfl, HK6.out.peel⟩
  · have hv := Lib.hid (leftS_no (left := 1048576) (x := n + szAt L n) (by omega))
    have HA := Lib.hid (h.kept0 ((Kept.refl [] w).alloc (.cells #[.slice a n c] 24)))
    clear h hbig
    go_enter Try.func3, Try.ntmps3
    go_wp2_with fail
    refine (szStore_any _ _ _ _ _ _ HA.out (by decide) (by decide)).mono ?_
    rintro e w1 ⟨rfl, h1⟩
    rw [hv.out]
    go_wp2_with fail
    go_ret
    exact ⟨rfl, h1.peel⟩

end Go.Proofs.Ytklecaojkngjmab
