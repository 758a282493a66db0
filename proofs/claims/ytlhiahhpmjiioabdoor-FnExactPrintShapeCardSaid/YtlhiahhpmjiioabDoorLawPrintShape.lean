/-
  The walk of the law on PrintShape. No condition but that the argument reads as a kind and a list of points and that the table of tens stands.
-/
import Derived.Deep.RegionHeld3
import Derived.Deep.DrawnRows
import Derived.Deep.DeepCutAuto
import Derived.Test.YtlhiahhpmjiioabDoorPrtC
import Derived.Test.YtlhiahhpmjiioabDoorShpL
import Derived.Test.YtlhiahhpmjiioabDoorEqT
namespace Go.Proofs.YtlhiahhpmjiioabDoor
open Go.RowKit

set_option maxHeartbeats 2000000 in
theorem FnExactPrintShape_walk (k : Int) (a : Option Addr) (n c : Nat) (xs : List Int) (w : World) (_hk : (Lit.int .i64 k).wf = true) (hmax : n ≤ 9223372036854775807) (h : n ≤ 1048576 → Rd w a (n * 2) xs) (hp : Pow10 w) :
    Calls Tryd.prog 3 #[.agg #[.int .i64 k, .slice a n c]] w (Ans w (.bool true)) := by
  by_cases hbig : 1048576 < n
  · clear h
    have hb' : (1048576 : Int) < n := by omega
    go_enter Tryd.func3, Tryd.ntmps3
    go_wp2_with fail
    refine (szShape_no _ _ _ _ _ _ hb' (by omega) hmax).mono ?_
    rintro e w1 ⟨rfl, h1⟩
    go_wp2_with fail
    go_ret
    exact ⟨rfl, h1.peel⟩
  · have hn : n ≤ 1048576 := by omega
    have HR := Lib.hid (h hn)
    have HP := Lib.hid hp
    have h0 : (0 : Int) ≤ 1048576 - n := by omega
    have h01 : decide (1048576 - (n : Int) < 0) = false := decide_eq_false (by omega)
    clear h hbig hmax hp
    go_enter Tryd.func3, Tryd.ntmps3
    go_wp2_with fail
    refine (szShape_yes _ _ _ _ _ _ (by omega) (by omega)).mono ?_
    rintro e w0 ⟨rfl, h0'⟩
    have HK0 := Lib.hid h0'
    obtain ⟨a0, a1⟩ := boxS h0'
    clear h0'
    go_wp2_with fail
    refine (toShape_any _ _ _ _ _ _ (HR.out.kept0 HK0.out.peel) (by omega)).mono ?_
    rintro e w1 ⟨g1, rfl, hg1, hb1, hk1⟩
    have HB1 := Lib.hid hb1
    have HK1 := Lib.hid (HK0.out.trans0 hk1)
    clear hb1 hk1
    go_wp2_with fail
    refine (sPrintShape_any _ _ _ _ _ _ (rd_newP HB1.out HR.out.1 (by omega))).mono ?_
    rintro e w2 ⟨rfl, hk2⟩
    have HK2 := Lib.hid (HK1.out.trans0 hk2)
    clear hk2
    obtain ⟨a0, a1⟩ := boxS HK2.out
    obtain ⟨V, hV⟩ : ∃ V, shapeC k xs n = V := ⟨_, rfl⟩
    obtain ⟨T, hT⟩ : ∃ T, printS k xs n = T := ⟨_, rfl⟩
    rw [hV, hT]
    have HV := Lib.hid hV
    have HT := Lib.hid hT
    clear hV hT
    have ka : Kept [] w2 (w2.alloc (.cells #[.int .i64 V, .string T] 27)) := (Kept.refl [] w2).alloc _
    have q0 := ka.cell a0 (by simp)
    have q1 := ka.cell a1 (by simp)
    have KA := Lib.hid ka
    clear ka
    go_wp2_with fail
    refine (toShape_any _ _ _ _ _ _ (HR.out.kept0 (HK2.out.trans0 KA.out).peel) (by omega)).mono ?_
    rintro e w3 ⟨g3, rfl, hg3, hb3, hk3⟩
    have d0 := (hk3.top (g := w2.heap.size) (by simp) (by simp) 0 (v := .int .i64 V) rfl).1
    have d1 := (hk3.top (g := w2.heap.size) (by simp) (by simp) 1 (v := .string T) rfl).1
    have z3 := hk3.size
    simp only [World.size_alloc] at z3
    have HB3 := Lib.hid hb3
    have HK3 := Lib.hid ((HK2.out.trans0 KA.out).trans0 hk3)
    clear hb3 hk3
    have k3 : Kept [] w3 (w3.alloc (.cells #[.int .i64 k, .slice (some ⟨g3, 0, none⟩) n n] 31)) := (Kept.refl [] w3).alloc _
    have HB3' := Lib.hid (k3.blk HB3.out (by simp))
    have K3 := Lib.hid k3
    clear k3
    go_wp2_with fail
    refine (PrintShape_any _ _ _ _ _ _ (rd_newP HB3'.out HR.out.1 (by omega)) (HP.out.kept (HK3.out.trans0 K3.out).peel)).mono ?_
    rw [HV.out, HT.out]
    rintro e w4 ⟨rfl, hk4⟩
    have k5 : Kept [] w4 (w4.alloc (.cells #[.int .i64 V, .string T] 27)) := (Kept.refl [] w4).alloc _
    have HB4 := Lib.hid (k5.blk (hk4.blk HB3'.out (by simp)) (by simp))
    obtain ⟨b0, b1⟩ := boxS (hk4.trans0 k5)
    have HK4 := Lib.hid (HK3.out.trans0 (K3.out.trans0 (hk4.trans0 k5)))
    obtain ⟨a0, a1⟩ := boxS HK4.out
    have e0 := (K3.out.trans0 (hk4.trans0 k5)).cell d0 (by simp)
    have e1 := (K3.out.trans0 (hk4.trans0 k5)).cell d1 (by simp)
    have z4 := hk4.size
    simp only [World.size_alloc] at z4
    have l4 : w3.heap.size < w4.heap.size := by omega
    have l5 : w2.heap.size < w4.heap.size := by omega
    clear hk4 z4 z3 HB3 HB3' q0 q1 KA
    have K5 := Lib.hid k5
    clear k5
    go_wp2_with fail
    refine (eqTextResult_yes _ _ _).mono ?_
    rintro e w5 ⟨rfl, hk5⟩
    have HB5 := Lib.hid (hk5.blk HB4.out (by simp))
    have b0 := hk5.cell b0 (by simp)
    have b1 := hk5.cell b1 (by simp)
    have HK5 := Lib.hid (HK4.out.trans0 hk5)
    obtain ⟨a0, a1⟩ := boxS HK5.out
    have z5 := hk5.size
    simp only [World.size_alloc] at z5
    have l5' : w3.heap.size < w5.heap.size := by omega
    clear hk5 z5 e0 e1 d0 d1 HK4 HB4 K5 K3 l5 l4
    go_wp2_with fail
    go_region_held3 (fun w' => w'.cell? ⟨w3.heap.size, 0, none⟩ = some (.int .i64 k) ∧ w'.cell? ⟨w3.heap.size, 1, none⟩ = some (.slice (some ⟨g3, 0, none⟩) n n) ∧ w'.cell? ⟨w.heap.size, 0, none⟩ = some (.int .i64 k) ∧ w'.cell? ⟨w.heap.size, 1, none⟩ = some (.slice a n c) ∧ Hid (Kept [] w5 w'))
      ((go_split_ands; (try refine ⟨?_, ?_, ?_, ?_, ?_⟩) <;> with_reducible first | exact Lib.hid ((Kept.refl _ _).drew) | exact drew_pt (by assumption) | exact Kept.allocH (by assumption) | exact alloc_cell (by assumption) | exact Lib.hid (Kept.trans0 (Hid.out (by assumption)) (by assumption)) | exact Kept.cell (by assumption) (by assumption) (by simp)))
      (first
        | (go_at_call 6; go_split_ands; refine (toShape_any _ _ _ _ _ _ (HR.out.kept0 (HK5.out.peel.trans0 (Kept.refl [] _).drew)) (by omega)).mono ?_; rintro e v7 ⟨ge0, rfl, qe0, hb, hk1⟩)
        | (go_at_call 9; go_split_ands; refine (eqShape_yes _ _ _ _ _ _ _ _ (rd_newP (hk1.blk ((Kept.refl [] w5).drew.blk HB5.out (by simp)) (by simp)) HR.out.1 (by omega)) (rd_newP hb HR.out.1 (by omega))).mono ?_; rintro e v8 ⟨rfl, hk2⟩))
    have HK6 := Lib.hid (((HK5.out.trans0 (Kept.refl [] w5).drew).trans0 hk1).trans0 hk2)
    clear hk1 hk2 hb
    go_wp2_with fail
    go_ret
    exact ⟨rfl, HK6.out.peel⟩

end Go.Proofs.YtlhiahhpmjiioabDoor
