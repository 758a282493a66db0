/-
  The walk of the law on NamesIn. No condition but that the argument reads as named shapes.
-/
import Derived.Deep.RegionHeld3
import Derived.Deep.DrawnRows
import Derived.Deep.DeepCutAuto
import Derived.Test.YtbljpeefekhoeadStoB
import Derived.Test.YtbljpeefekhoeadStoE
import Derived.Test.YtbljpeefekhoeadAudN
import Derived.Test.YtbljpeefekhoeadEqI
namespace Go.Proofs.Ytbljpeefekhoead
open Go.RowKit

set_option maxHeartbeats 1000000 in
theorem FnExactNamesIn_walk (a : Option Addr) (n c : Nat) (L : List Sh) (w : World) (h : ArgSt w a n L) :
    Calls Try.prog 3 #[.agg #[.slice a n c]] w (Ans w (.bool true)) := by
  by_cases hbig : n + szAt L n ≤ 1048576
  · have HR := Lib.hid (h.rd hbig)
    have HN := Lib.hid (show n + szAt L n ≤ 2000000 by omega)
    have HA := Lib.hid (h.kept0 ((Kept.refl [] w).alloc (.cells #[.slice a n c] 24)))
    have hv := Lib.hid (leftS_yes (left := 1048576) (x := n + szAt L n) (by omega))
    obtain ⟨M, hM⟩ : ∃ M : Int, 1048576 - ((n + szAt L n : Nat) : Int) = M := ⟨_, rfl⟩
    rw [hM] at hv
    have hM0 : ¬ M < 0 := by omega
    obtain ⟨u, hu⟩ : ∃ u, storeC L = u := ⟨_, rfl⟩
    obtain ⟨v, hv9⟩ : ∃ v, namesV L = v := ⟨_, rfl⟩
    have HU := Lib.hid hu
    have HV := Lib.hid hv9
    clear h hbig hM hu hv9
    go_enter Try.func3, Try.ntmps3
    go_wp2_with fail
    refine (szStore_any _ _ _ _ _ _ HA.out (by decide) (by decide)).mono ?_
    rintro e w0 ⟨rfl, h0'⟩
    rw [hv.out]
    have HK0 := Lib.hid h0'
    have b0 := (h0'.top rfl (by simp) 0 (v := .slice a n c) rfl).1
    have B0 := Lib.hid b0
    clear h0'
    go_wp2_with fail
    refine (toStore_any _ _ _ _ _ (HR.out.kept0 HK0.out.peel) HN.out).mono ?_
    rintro e w1 ⟨g1, gs1, rfl, hb1, ha1, hk1⟩
    have HS1 := Lib.hid hb1
    have HK1 := Lib.hid (HK0.out.trans0 hk1)
    clear hb1 ha1 hk1
    go_wp2_with fail
    refine (sNamesIn_any _ _ _ _ _ HS1.out.rd).mono ?_
    rintro e w2 ⟨rfl, hk2⟩
    have HK2 := Lib.hid (HK1.out.trans0 hk2)
    rw [HU.out, HV.out]
    have k2 : Kept [] w2 (w2.alloc (.cells #[.int .i64 u, .int .i64 v] 27)) := (Kept.refl [] w2).alloc _
    have HK2' := Lib.hid (HK2.out.trans0 k2)
    have b2 := (HK2'.out.top rfl (by simp) 0 (v := .slice a n c) rfl).1
    clear hk2
    go_wp2_with fail
    refine (toStore_any _ _ _ _ _ (HR.out.kept0 HK2'.out.peel) HN.out).mono ?_
    rintro e w3 ⟨g3, gs3, rfl, hb3, ha3, hk3⟩
    have HS3 := Lib.hid hb3
    have k23 := k2.trans0 hk3
    have u0 := (hk3.top rfl (by simp) 0 (v := .int .i64 u) rfl).1
    have u1 := (hk3.top rfl (by simp) 1 (v := .int .i64 v) rfl).1
    have HK3 := Lib.hid (HK2'.out.trans0 hk3)
    clear hb3 ha3 hk3 k2 k23
    have k3 : Kept [] w3 (w3.alloc (.cells #[.slice (some ⟨g3, 0, none⟩) n n] 31)) := (Kept.refl [] w3).alloc _
    have HS3' := Lib.hid (HS3.out.kept0 k3)
    have K3 := Lib.hid k3
    clear k3
    go_wp2_with fail
    refine (NamesIn_any _ _ _ L _ HS3'.out.rd).mono ?_
    rintro e w4 ⟨rfl, hk4⟩
    rw [HU.out, HV.out]
    have HS4 := Lib.hid (HS3'.out.kept0 hk4)
    have b3 := (hk4.top rfl (by simp) 0 (v := .slice (some ⟨g3, 0, none⟩) n n) rfl).1
    have HK4 := Lib.hid (HK3.out.trans0 (K3.out.trans0 hk4))
    have l3 : w2.heap.size < w3.heap.size := by have := World.block_lt_of_cell? w3 _ u0; simpa using this
    have x0 := hk4.cell ((K3.out).cell u0 (by simp)) (by simp)
    have x1 := hk4.cell ((K3.out).cell u1 (by simp)) (by simp)
    have z4 := hk4.size
    simp only [World.size_alloc] at z4
    have l4 : w3.heap.size < w4.heap.size := by omega
    have l24 : w2.heap.size < w4.heap.size := by omega
    clear hk4 z4 HS3 HS3' b2 u0 u1
    go_wp2_with fail
    refine (eqIntResult_yes _ _ _).mono ?_
    rintro e w5 ⟨rfl, hk5⟩
    have k45 := hk5.peel
    have HS5 := Lib.hid (HS4.out.kept0 k45)
    have HK5 := Lib.hid (HK4.out.trans0 k45)
    have a0 := (HK5.out.top rfl (by simp) 0 (v := .slice a n c) rfl).1
    have b5 := k45.cell b3 (by simp)
    have z5 := k45.size
    clear hk5 k45 b3 HS4 HK4 x0 x1
    go_upto_region 10 with fail
    go_region_held3 (fun w' => w'.cell? ⟨w3.heap.size, 0, none⟩ = some (.slice (some ⟨g3, 0, none⟩) n n) ∧ w'.cell? ⟨w.heap.size, 0, none⟩ = some (.slice a n c) ∧ Hid (Kept [] w5 w'))
      ((go_split_ands; (try refine ⟨?_, ?_, ?_⟩) <;> with_reducible first | exact Lib.hid ((Kept.refl _ _).drew) | exact drew_pt (by assumption) | exact Kept.allocH (by assumption) | exact alloc_cell (by assumption) | exact Lib.hid (Kept.trans0 (Hid.out (by assumption)) (by assumption)) | exact Kept.cell (by assumption) (by assumption) (by simp)))
      (first
        | (go_at_call 6; go_split_ands; refine (toStore_any _ _ _ _ _ (HR.out.kept0 (HK5.out.peel.trans0 (Kept.refl [] _).drew)) HN.out).mono ?_; rintro e v7 ⟨ge0, gse, rfl, hb, qe0, hk1⟩)
        | (go_at_call 9; go_split_ands; refine (eqStore_yes _ _ _ _ _ _ _ (HS5.out.kept0 ((Kept.refl [] w5).drew.trans0 hk1)).rd hb.rd).mono ?_; rintro e v8 ⟨rfl, hk2⟩))
    have HK6 := Lib.hid (((HK5.out.trans0 (Kept.refl [] w5).drew).trans0 hk1).trans0 hk2)
    clear hk1 hk2 hb
    go_wp2_with fail
    go_ret
    exact ⟨rfl, HK6.out.peel⟩
  · have hv := Lib.hid (leftS_no (left := 1048576) (x := n + szAt L n) (by omega))
    have HA := Lib.hid (h.kept0 ((Kept.refl [] w).alloc (.cells #[.slice a n c] 24)))
    clear h hbig
    go_enter Try.func3, Try.ntmps3
    go_wp2_with fail
    refine (szStore_any _ _ _ _ _ _ HA.out (by decide) (by decide)).mono ?_
    rintro e w1 ⟨rfl, h1⟩
    rw [hv.out]
    go_wp2_with fail
    go_ret
    exact ⟨rfl, h1.peel⟩

end Go.Proofs.Ytbljpeefekhoead
