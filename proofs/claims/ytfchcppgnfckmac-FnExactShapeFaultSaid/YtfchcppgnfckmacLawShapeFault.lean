/-
  The walk of the law on ShapeFault. No condition but that the argument reads as a kind and a list of points.
-/
import Derived.Deep.RegionHeld3
import Derived.Deep.DrawnRows
import Derived.Deep.DeepCutAuto
import Derived.Test.YtfchcppgnfckmacShpB
import Derived.Test.YtfchcppgnfckmacShpL
namespace Go.Proofs.Ytfchcppgnfckmac
open Go.RowKit

set_option maxHeartbeats 1000000 in
theorem FnExactShapeFault_walk (k : Int) (a : Option Addr) (n c : Nat) (xs : List Int) (w : World) (_hk : (Lit.int .i64 k).wf = true) (hmax : n ≤ 9223372036854775807) (h : n ≤ 1048576 → Rd w a (n * 2) xs) :
    Calls Try.prog 3 #[.agg #[.int .i64 k, .slice a n c]] w (Ans w (.bool true)) := by
  by_cases hbig : 1048576 < n
  · clear h
    have hb' : (1048576 : Int) < n := by omega
    go_enter Try.func3, Try.ntmps3
    go_wp2_with fail
    refine (szShape_no _ _ _ _ _ _ hb' (by omega) hmax).mono ?_
    rintro e w1 ⟨rfl, h1⟩
    go_wp2_with fail
    go_ret
    exact ⟨rfl, h1.peel⟩
  · have hn : n ≤ 1048576 := by omega
    have HR := Lib.hid (h hn)
    have h0 : (0 : Int) ≤ 1048576 - n := by omega
    have h01 : decide (1048576 - (n : Int) < 0) = false := decide_eq_false (by omega)
    clear h hbig hmax
    go_enter Try.func3, Try.ntmps3
    go_wp2_with fail
    refine (szShape_yes _ _ _ _ _ _ (by omega) (by omega)).mono ?_
    rintro e w0 ⟨rfl, h0'⟩
    have HK0 := Lib.hid h0'
    obtain ⟨a0, a1⟩ := boxS h0'
    clear h0'
    go_wp2_with fail
    refine (toShape_any _ _ _ _ _ _ (HR.out.kept0 HK0.out.peel) (by omega)).mono ?_
    rintro e w1 ⟨g1, rfl, hg1, hb1, hk1⟩
    have HB1 := Lib.hid hb1
    have HK1 := Lib.hid (HK0.out.trans0 hk1)
    clear hb1 hk1
    go_wp2_with fail
    refine (sShapeFault_any _ _ _ _ _ _ (rd_newP HB1.out HR.out.1 (by omega))).mono ?_
    rintro e w2 ⟨rfl, hk2⟩
    have HK2 := Lib.hid (HK1.out.trans0 hk2)
    obtain ⟨a0, a1⟩ := boxS HK2.out
    clear hk2
    go_wp2_with fail
    refine (toShape_any _ _ _ _ _ _ (HR.out.kept0 HK2.out.peel) (by omega)).mono ?_
    rintro e w3 ⟨g3, rfl, hg3, hb3, hk3⟩
    have HB3 := Lib.hid hb3
    have HK3 := Lib.hid (HK2.out.trans0 hk3)
    clear hb3 hk3
    have k3 : Kept [] w3 (w3.alloc (.cells #[.int .i64 k, .slice (some ⟨g3, 0, none⟩) n n] 29)) := (Kept.refl [] w3).alloc _
    have HB3' := Lib.hid (k3.blk HB3.out (by simp))
    have K3 := Lib.hid k3
    clear k3
    go_wp2_with fail
    refine (ShapeFault_any _ _ _ _ _ _ (rd_newP HB3'.out HR.out.1 (by omega))).mono ?_
    rintro e w4 ⟨rfl, hk4⟩
    have HB4 := Lib.hid (hk4.blk HB3'.out (by simp))
    obtain ⟨b0, b1⟩ := boxS hk4
    have HK4 := Lib.hid (HK3.out.trans0 (K3.out.trans0 hk4))
    obtain ⟨a0, a1⟩ := boxS HK4.out
    have z4 := hk4.size
    simp only [World.size_alloc] at z4
    have l4 : w3.heap.size < w4.heap.size := by omega
    clear hk4 z4 HB3 HB3'
    generalize shapeC k xs n = v
    go_wp2_with fail
    go_region_held3 (fun w' => w'.cell? ⟨w3.heap.size, 0, none⟩ = some (.int .i64 k) ∧ w'.cell? ⟨w3.heap.size, 1, none⟩ = some (.slice (some ⟨g3, 0, none⟩) n n) ∧ w'.cell? ⟨w.heap.size, 0, none⟩ = some (.int .i64 k) ∧ w'.cell? ⟨w.heap.size, 1, none⟩ = some (.slice a n c) ∧ Hid (Kept [] w4 w'))
      ((go_split_ands; (try refine ⟨?_, ?_, ?_, ?_, ?_⟩) <;> with_reducible first | exact Lib.hid ((Kept.refl _ _).drew) | exact drew_pt (by assumption) | exact Kept.allocH (by assumption) | exact alloc_cell (by assumption) | exact Lib.hid (Kept.trans0 (Hid.out (by assumption)) (by assumption)) | exact Kept.cell (by assumption) (by assumption) (by simp)))
      (first
        | (go_at_call 6; go_split_ands; refine (toShape_any _ _ _ _ _ _ (HR.out.kept0 (HK4.out.peel.trans0 (Kept.refl [] _).drew)) (by omega)).mono ?_; rintro e v7 ⟨ge0, rfl, qe0, hb, hk1⟩)
        | (go_at_call 8; go_split_ands; refine (eqShape_yes _ _ _ _ _ _ _ _ (rd_newP (hk1.blk ((Kept.refl [] w4).drew.blk HB4.out (by simp)) (by simp)) HR.out.1 (by omega)) (rd_newP hb HR.out.1 (by omega))).mono ?_; rintro e v8 ⟨rfl, hk2⟩))
    have HK6 := Lib.hid (((HK4.out.trans0 (Kept.refl [] w4).drew).trans0 hk1).trans0 hk2)
    clear hk1 hk2 hb
    go_wp2_with fail
    go_ret
    exact ⟨rfl, HK6.out.peel⟩

end Go.Proofs.Ytfchcppgnfckmac
