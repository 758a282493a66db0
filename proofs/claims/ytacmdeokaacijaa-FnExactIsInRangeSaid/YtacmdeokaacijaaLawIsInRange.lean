/-
  The walk of the law on IsInRange. No condition.
-/
import Derived.Deep.RegionHeld3
import Derived.Deep.DrawnRows
import Derived.Deep.DeepCutAuto
import Derived.Test.YtacmdeokaacijaaJ1
import Derived.Test.YtacmdeokaacijaaRngA
namespace Go.Proofs.Ytacmdeokaacijaa
open Go.RowKit

set_option maxHeartbeats 8000000 in
set_option maxRecDepth 20000 in
theorem FnExactIsInRange_walk (x y : Int) (x' y' : Int) (w : World) (_hx : (Lit.int .i64 x).wf = true) (_hy : (Lit.int .i64 y).wf = true) (_hx' : (Lit.int .i64 x').wf = true) (_hy' : (Lit.int .i64 y').wf = true) :
    Calls Try.prog 3 #[.agg #[.int .i64 x, .int .i64 y], .agg #[.int .i64 x', .int .i64 y']] w (Ans w (.bool true)) := by
  obtain ⟨s, hs⟩ : ∃ s, inRng x y x' y' = s := ⟨_, rfl⟩
  have HS := Lib.hid hs
  clear hs
  go_enter Try.func3, Try.ntmps3
  go_wp2_with fail
  generalize hW : ((w.alloc (.cells #[.int .i64 x, .int .i64 y] 23)).alloc (.cells #[.int .i64 x', .int .i64 y'] 23)) = ww0
  have hkk : Kept [] ((w.alloc (.cells #[.int .i64 x, .int .i64 y] 23)).alloc (.cells #[.int .i64 x', .int .i64 y'] 23)) ww0 := by rw [hW]; exact Kept.refl _ _
  have c0 := (hkk.peel.top (g := w.heap.size) (by simp) (by simp) 0 (v := .int .i64 x) rfl).1
  have c1 := (hkk.peel.top (g := w.heap.size) (by simp) (by simp) 1 (v := .int .i64 y) rfl).1
  have d0 := (hkk.top (g := w.heap.size + 1) (by simp) (by simp) 0 (v := .int .i64 x') rfl).1
  have d1 := (hkk.top (g := w.heap.size + 1) (by simp) (by simp) 1 (v := .int .i64 y') rfl).1
  have k0 := hkk.peel.peel
  clear hkk hW
  go_region_held3 (fun w' => w'.cell? ⟨w.heap.size, 0, none⟩ = some (.int .i64 x) ∧ w'.cell? ⟨w.heap.size, 1, none⟩ = some (.int .i64 y) ∧ w'.cell? ⟨w.heap.size + 1, 0, none⟩ = some (.int .i64 x') ∧ w'.cell? ⟨w.heap.size + 1, 1, none⟩ = some (.int .i64 y') ∧ Hid (Kept [] ww0 w'))
    ((go_split_ands; (try refine ⟨?_, ?_, ?_, ?_, ?_⟩) <;> with_reducible first | exact Lib.hid ((Kept.refl _ _).drew) | exact drew_cellR (by assumption) | exact Kept.allocH (by assumption) | exact alloc_cell (by assumption) | exact Lib.hid (Kept.trans0 (Hid.out (by assumption)) (by assumption)) | exact Kept.cell (by assumption) (by assumption) (by simp)))
    (first
      | (go_at_call_of 6 (Value.agg #[Value.int .i64 x, Value.int .i64 y]); go_split_ands; refine (toRange_any _ _ _).mono ?_; rintro e v1 ⟨rfl, hk1⟩)
      | (go_at_call_of 6 (Value.agg #[Value.int .i64 x', Value.int .i64 y']); go_split_ands; refine (toRange_any _ _ _).mono ?_; rintro e v2 ⟨rfl, hk2⟩)
      | (go_at_call 5; go_split_ands; refine (sIsInRange_any _ _ _ _ _).mono ?_; rintro e v3 ⟨rfl, hk3⟩; rw [HS.out]))
  have k1 := (((Kept.refl [] ww0).drew.trans0 hk1).trans0 hk2).trans0 hk3
  have C := Lib.hid (And.intro (k1.cell c0 (by simp)) (And.intro (k1.cell c1 (by simp)) (And.intro (k1.cell d0 (by simp)) (k1.cell d1 (by simp)))))
  have KK := Lib.hid (k0.trans0 k1)
  clear c0 c1 d0 d1 k0 k1 hk1 hk2 hk3
  go_upto_region 2 with fail
  obtain ⟨c0, c1, d0, d1⟩ := C.out
  clear C
  go_region_held3 (fun w' => w'.cell? ⟨w.heap.size, 0, none⟩ = some (.int .i64 x) ∧ w'.cell? ⟨w.heap.size, 1, none⟩ = some (.int .i64 y) ∧ w'.cell? ⟨w.heap.size + 1, 0, none⟩ = some (.int .i64 x') ∧ w'.cell? ⟨w.heap.size + 1, 1, none⟩ = some (.int .i64 y') ∧ Hid (Kept [] v3 w'))
    ((go_split_ands; (try refine ⟨?_, ?_, ?_, ?_, ?_⟩) <;> with_reducible first | exact Lib.hid ((Kept.refl _ _).drew) | exact drew_cellR (by assumption) | exact Kept.allocH (by assumption) | exact alloc_cell (by assumption) | exact Lib.hid (Kept.trans0 (Hid.out (by assumption)) (by assumption)) | exact Kept.cell (by assumption) (by assumption) (by simp)))
    (first
      | (go_at_call_of 6 (Value.agg #[Value.int .i64 x, Value.int .i64 y]); go_split_ands; refine (toRange_any _ _ _).mono ?_; rintro e v4 ⟨rfl, hk4⟩)
      | (go_at_call_of 6 (Value.agg #[Value.int .i64 x', Value.int .i64 y']); go_split_ands; refine (toRange_any _ _ _).mono ?_; rintro e v5 ⟨rfl, hk5⟩)
      | (go_at_call 7; go_split_ands; refine (IsInRange_any _ _ _ _ _).mono ?_; rintro e v6 ⟨rfl, hk6⟩; rw [HS.out]))
  have k4 := (((Kept.refl [] v3).drew.trans0 hk4).trans0 hk5).trans0 hk6
  have K2 := Lib.hid (KK.out.trans0 k4)
  clear c0 c1 d0 d1 KK k4 hk4 hk5 hk6
  go_wp2_with fail
  cases s
  · go_wp2
    go_ret
    exact ⟨rfl, K2.out⟩
  · go_wp2
    go_ret
    exact ⟨rfl, K2.out⟩

end Go.Proofs.Ytacmdeokaacijaa
