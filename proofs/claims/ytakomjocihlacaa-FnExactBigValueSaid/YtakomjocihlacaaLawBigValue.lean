/-
 The walk of the law on BigValue. No condition but that the arguments' limbs read as lists of numbers.
-/
import Derived.Deep.RegionHeld3
import Derived.Deep.DrawnRows
import Derived.Deep.DeepCutAuto
import Derived.Test.YtakomjocihlacaaEqI
import Derived.Test.YtakomjocihlacaaBigValS
import Derived.Test.YtakomjocihlacaaBigVal
namespace Go.Proofs.Ytakomjocihlacaa
open Go.RowKit
attribute [local go_sem ↓] Go.wp_at_zero Go.wp_at_succ

set_option maxHeartbeats 8000000 in
set_option maxRecDepth 100000 in
theorem FnExactBigValue_walk (p : Bool) (a : Option Addr) (n c : Nat) (xs : List Int) (w : World) (hA : Rd w a n xs) :
  Calls Try.prog 3 #[.agg #[.bool p, .slice a n c]] w (Ans w (.bool true)) := by
 have hmaxA := hA.2.1
 have HRA := Lib.hid hA
 have HLA := Lib.hid hA.1
 have FRA := Lib.hid hA.lt
 clear hA
 by_cases hbig0 : 1048576 < n
 ·go_enter Try.func3, Try.ntmps3
  go_wp2_with fail
  have hk0 : Kept [] w (w.alloc (.cells #[.bool p, .slice a n c] 24)) := (Kept.refl [] w).alloc _
  refine (szBig_no _ _ _ _ _ _ (by omega) (by omega) hmaxA).mono ?_
  rintro e w1 ⟨rfl, hk⟩
  have HK := Lib.hid (hk0.trans0 hk)
  clear hk hk0
  go_wp2_with fail
  go_ret
  exact ⟨rfl, HK.out⟩
 have hsmA : n ≤ 1048576 := by omega
 have hsm : (n : Int) ≤ 1048576 := by omega
 have hng : decide ((1048576 : Int) - (n : Int) < 0) = false := decide_eq_false (by omega)
 have hnp : (0 : Int) ≤ (1048576 : Int) - (n : Int) := by omega
 clear hbig0
 go_enter Try.func3, Try.ntmps3
 go_wp2_with fail
 generalize hW : (w.alloc (.cells #[.bool p, .slice a n c] 24)) = ww0
 have hk : Kept [] w ww0 := by rw [← hW]; exact (Kept.refl [] w).alloc _
 have hkk : Kept [] (w.alloc (.cells #[.bool p, .slice a n c] 24)) ww0 := by rw [hW]; exact Kept.refl _ _
 have zzA : w.heap.size + 1 = ww0.heap.size := by rw [← hW]; simp
 obtain ⟨⟨nA0, nA1⟩, _⟩ := tp2 hkk (g := w.heap.size) (by simp) (by simp)
 clear hkk hW
 have z0 := hk.size
 have KT := Lib.hid hk
 clear hk
 replace HRA := Lib.hid (HRA.out.kept0 KT.out)
 refine (szBig_yes _ _ _ _ _ _ (by omega) (by omega)).mono ?_
 rintro e ww1 ⟨rfl, hk⟩
 have z1 := hk.size
 replace nA0 := kc hk nA0
 replace nA1 := kc hk nA1
 replace HRA := Lib.hid (HRA.out.kept0 hk)
 replace KT := Lib.hid (KT.out.trans0 hk)
 clear hk
 have tA0 := nA0.out
 have tA1 := nA1.out
 go_wp2_with fail
 clear tA0 tA1
 refine (toBig_any _ _ _ _ _ _ HRA.out (by omega)).mono ?_
 rintro e ww2 ⟨gs0, rfl, qs0, hb, hk⟩
 rw [HLA.out]
 have ls0 := hb.lt
 have Ss0 := Lib.hid (sl_new hb HLA.out (by omega))
 clear hb
 have z2 := hk.size
 replace nA0 := kc hk nA0
 replace nA1 := kc hk nA1
 replace HRA := Lib.hid (HRA.out.kept0 hk)
 replace KT := Lib.hid (KT.out.trans0 hk)
 clear hk
 go_wp2_with fail
 refine (sBigValue_any _ _ _ _ _ _ Ss0.out).mono ?_
 rintro e ww3 ⟨rfl, hk⟩
 obtain ⟨v0, hv⟩ : ∃ v : Int, v = bvCode p xs := ⟨_, rfl⟩
 rw [← hv]
 have HV0 := Lib.hid hv
 clear hv
 obtain ⟨v1, hv⟩ : ∃ v : Int, v = bvVal p xs := ⟨_, rfl⟩
 rw [← hv]
 have HV1 := Lib.hid hv
 clear hv
 have z3 := hk.size
 replace nA0 := kc hk nA0
 replace nA1 := kc hk nA1
 replace HRA := Lib.hid (HRA.out.kept0 hk)
 replace Ss0 := Lib.hid (Ss0.out.kept0 hk)
 replace KT := Lib.hid (KT.out.trans0 hk)
 clear hk
 have tA0 := alloc_cell (o := .cells #[.int .i64 v0, .int .i64 v1] 27) nA0.out
 have tA1 := alloc_cell (o := .cells #[.int .i64 v0, .int .i64 v1] 27) nA1.out
 go_wp2_with fail
 clear tA0 tA1
 generalize hW : (ww3.alloc (.cells #[.int .i64 v0, .int .i64 v1] 27)) = ww4
 have hk : Kept [] ww3 ww4 := by rw [← hW]; exact (Kept.refl [] _).alloc _
 have zzW : ww3.heap.size + 1 = ww4.heap.size := by rw [← hW]; simp
 have nW0 := Lib.hid (show ww4.cell? ⟨ww3.heap.size, 0, none⟩ = some (.int .i64 v0) by rw [← hW, World.cell?_alloc_new]; rfl)
 have nW1 := Lib.hid (show ww4.cell? ⟨ww3.heap.size, 1, none⟩ = some (.int .i64 v1) by rw [← hW, World.cell?_alloc_new]; rfl)
 clear hW
 have z4 := hk.size
 replace nA0 := kc hk nA0
 replace nA1 := kc hk nA1
 replace HRA := Lib.hid (HRA.out.kept0 hk)
 replace Ss0 := Lib.hid (Ss0.out.kept0 hk)
 replace KT := Lib.hid (KT.out.trans0 hk)
 clear hk
 refine (toBig_any _ _ _ _ _ _ HRA.out (by omega)).mono ?_
 rintro e ww5 ⟨gx0, rfl, qx0, hb, hk⟩
 rw [HLA.out]
 have lx0 := hb.lt
 have Sx0 := Lib.hid (sl_new hb HLA.out (by omega))
 clear hb
 have z5 := hk.size
 replace nA0 := kc hk nA0
 replace nA1 := kc hk nA1
 replace HRA := Lib.hid (HRA.out.kept0 hk)
 replace Ss0 := Lib.hid (Ss0.out.kept0 hk)
 replace nW0 := kc hk nW0
 replace nW1 := kc hk nW1
 replace KT := Lib.hid (KT.out.trans0 hk)
 clear hk
 go_wp2_with fail
 generalize hW : (ww5.alloc (.cells #[.bool p, .slice (some ⟨gx0, 0, none⟩) n n] 29)) = ww6
 have hk : Kept [] ww5 ww6 := by rw [← hW]; exact (Kept.refl [] _).alloc _
 have zzX0 : ww5.heap.size + 1 = ww6.heap.size := by rw [← hW]; simp
 have nX00 := Lib.hid (show ww6.cell? ⟨ww5.heap.size, 0, none⟩ = some (.bool p) by rw [← hW, World.cell?_alloc_new]; rfl)
 have nX01 := Lib.hid (show ww6.cell? ⟨ww5.heap.size, 1, none⟩ = some (.slice (some ⟨gx0, 0, none⟩) n n) by rw [← hW, World.cell?_alloc_new]; rfl)
 clear hW
 have z6 := hk.size
 replace nA0 := kc hk nA0
 replace nA1 := kc hk nA1
 replace HRA := Lib.hid (HRA.out.kept0 hk)
 replace Ss0 := Lib.hid (Ss0.out.kept0 hk)
 replace nW0 := kc hk nW0
 replace nW1 := kc hk nW1
 replace Sx0 := Lib.hid (Sx0.out.kept0 hk)
 replace KT := Lib.hid (KT.out.trans0 hk)
 clear hk
 refine (BigValue_any _ _ _ _ _ _ Sx0.out).mono ?_
 rintro e ww7 ⟨rfl, hk⟩
 rw [← HV0.out, ← HV1.out]
 have z7 := hk.size
 replace nA0 := kc hk nA0
 replace nA1 := kc hk nA1
 replace HRA := Lib.hid (HRA.out.kept0 hk)
 replace Ss0 := Lib.hid (Ss0.out.kept0 hk)
 replace nW0 := kc hk nW0
 replace nW1 := kc hk nW1
 replace Sx0 := Lib.hid (Sx0.out.kept0 hk)
 replace nX00 := kc hk nX00
 replace nX01 := kc hk nX01
 replace KT := Lib.hid (KT.out.trans0 hk)
 clear hk
 have tW0 := alloc_cell (o := .cells #[.int .i64 v0, .int .i64 v1] 27) nW0.out
 have tW1 := alloc_cell (o := .cells #[.int .i64 v0, .int .i64 v1] 27) nW1.out
 go_wp2_with fail
 clear tW0 tW1
 generalize hW : (ww7.alloc (.cells #[.int .i64 v0, .int .i64 v1] 27)) = ww8
 have hk : Kept [] ww7 ww8 := by rw [← hW]; exact (Kept.refl [] _).alloc _
 have zzG : ww7.heap.size + 1 = ww8.heap.size := by rw [← hW]; simp
 have nG0 := Lib.hid (show ww8.cell? ⟨ww7.heap.size, 0, none⟩ = some (.int .i64 v0) by rw [← hW, World.cell?_alloc_new]; rfl)
 have nG1 := Lib.hid (show ww8.cell? ⟨ww7.heap.size, 1, none⟩ = some (.int .i64 v1) by rw [← hW, World.cell?_alloc_new]; rfl)
 clear hW
 have z8 := hk.size
 replace nA0 := kc hk nA0
 replace nA1 := kc hk nA1
 replace HRA := Lib.hid (HRA.out.kept0 hk)
 replace Ss0 := Lib.hid (Ss0.out.kept0 hk)
 replace nW0 := kc hk nW0
 replace nW1 := kc hk nW1
 replace Sx0 := Lib.hid (Sx0.out.kept0 hk)
 replace nX00 := kc hk nX00
 replace nX01 := kc hk nX01
 replace KT := Lib.hid (KT.out.trans0 hk)
 clear hk
 refine (eqIntResult_yes _ _ _).mono ?_
 rintro e ww9 ⟨rfl, hk⟩
 have z9 := hk.size
 replace nA0 := kc hk nA0
 replace nA1 := kc hk nA1
 replace HRA := Lib.hid (HRA.out.kept0 hk)
 replace Ss0 := Lib.hid (Ss0.out.kept0 hk)
 replace nW0 := kc hk nW0
 replace nW1 := kc hk nW1
 replace Sx0 := Lib.hid (Sx0.out.kept0 hk)
 replace nX00 := kc hk nX00
 replace nX01 := kc hk nX01
 replace nG0 := kc hk nG0
 replace nG1 := kc hk nG1
 replace KT := Lib.hid (KT.out.trans0 hk)
 clear hk
 have tX00 := nX00.out
 have tX01 := nX01.out
 have tA0 := nA0.out
 have tA1 := nA1.out
 go_wp2_with fail
 clear tX00 tX01 tA0 tA1
 have tX00 := nX00.out
 have tX01 := nX01.out
 have tA0 := nA0.out
 have tA1 := nA1.out
 go_region_held3 (fun w' => w'.cell? ⟨ww5.heap.size, 0, none⟩ = some (.bool p) ∧ w'.cell? ⟨ww5.heap.size, 1, none⟩ = some (.slice (some ⟨gx0, 0, none⟩) n n) ∧ w'.cell? ⟨w.heap.size, 0, none⟩ = some (.bool p) ∧ w'.cell? ⟨w.heap.size, 1, none⟩ = some (.slice a n c) ∧ Hid (Kept [] ww9 w'))
  ((go_split_ands; (try refine ⟨?_, ?_, ?_, ?_, ?_⟩) <;> with_reducible first | exact Lib.hid ((Kept.refl _ _).drew) | exact drew_cell (by assumption) | exact Kept.allocH (by assumption) | exact alloc_cell (by assumption) | exact Lib.hid (Kept.trans0 (Hid.out (by assumption)) (by assumption)) | exact Kept.cell (by assumption) (by assumption) (by simp)))
  (first
   | (go_at_call 6; go_split_ands; refine (toBig_any _ _ _ _ _ _ (HRA.out.kept0 (Kept.refl [] _).drew) (by omega)).mono ?_; rintro e v10 ⟨ge0, rfl, qe0, hb, hk1⟩; rw [HLA.out])
   | (go_at_call 9; go_split_ands; refine (eqBig_yes _ _ _ _ _ _ _ _ ((Sx0.out.kept0 (Kept.refl [] _).drew).kept0 hk1).rd (rd_new hb HLA.out (by omega))).mono ?_; rintro e v11 ⟨rfl, hk2⟩))
 clear tX00 tX01 tA0 tA1
 have hk := ((Kept.refl [] ww9).drew.trans0 hk1).trans0 hk2
 clear hk1 hk2 hb
 have z11 := hk.size
 replace nA0 := kc hk nA0
 replace nA1 := kc hk nA1
 replace HRA := Lib.hid (HRA.out.kept0 hk)
 replace Ss0 := Lib.hid (Ss0.out.kept0 hk)
 replace nW0 := kc hk nW0
 replace nW1 := kc hk nW1
 replace Sx0 := Lib.hid (Sx0.out.kept0 hk)
 replace nX00 := kc hk nX00
 replace nX01 := kc hk nX01
 replace nG0 := kc hk nG0
 replace nG1 := kc hk nG1
 replace KT := Lib.hid (KT.out.trans0 hk)
 clear hk
 go_wp2_with fail
 go_ret
 exact ⟨rfl, KT.out⟩

end Go.Proofs.Ytakomjocihlacaa
