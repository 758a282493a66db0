/-
 The walk of the law on MetresOf. No condition but that the arguments' limbs read as lists of numbers.
-/
import Derived.Deep.RegionHeld3
import Derived.Deep.DrawnRows
import Derived.Deep.DeepCutAuto
import Derived.Test.YtfafjijoeanbhaaJ1
import Derived.Test.YtfafjijoeanbhaaSpanA
import Derived.Test.YtfafjijoeanbhaaMetEq
import Derived.Test.YtfafjijoeanbhaaMetSpec
import Derived.Test.YtfafjijoeanbhaaMetProg
namespace Go.Proofs.Ytfafjijoeanbhaa
open Go.RowKit
attribute [local go_sem ↓] Go.wp_at_zero Go.wp_at_succ

set_option maxHeartbeats 16000000 in
set_option maxRecDepth 100000 in
theorem FnExactMetresOf_walk (P : Int) (p : Bool) (a : Option Addr) (n c : Nat) (xs : List Int) (q : Bool) (b : Option Addr) (m d : Nat) (ys : List Int) (w : World) (hP : (Lit.int .i64 P).wf = true) (hA : Rd w a n xs) (hB : Rd w b m ys) :
  Calls Try.prog 5 #[.int .i64 P, .agg #[.bool p, .slice a n c, .bool q, .slice b m d]] w (Ans w (.bool true)) := by
 have hmaxA := hA.2.1
 have HRA := Lib.hid hA
 have HLA := Lib.hid hA.1
 have FRA := Lib.hid hA.lt
 clear hA
 have hmaxB := hB.2.1
 have HRB := Lib.hid hB
 have HLB := Lib.hid hB.1
 have FRB := Lib.hid hB.lt
 clear hB
 have HWP := Lib.hid hP
 clear hP
 by_cases eb0 : (1048576 : Int) < (n : Int)
 ·skip
  go_enter Try.func5, Try.ntmps5
  go_wp2_with fail
  generalize hW : (w.alloc (.cells #[.bool p, .slice a n c, .bool q, .slice b m d] 34)) = ww0
  have hkk : Kept [] (w.alloc (.cells #[.bool p, .slice a n c, .bool q, .slice b m d] 34)) ww0 := by rw [hW]; exact Kept.refl _ _
  have zzA : w.heap.size + 1 = ww0.heap.size := by rw [← hW]; simp
  obtain ⟨⟨nAY0, nAY1, nAY2, nAY3⟩, _⟩ := tp4 hkk (g := w.heap.size) (by simp) (by simp)
  have hk := hkk.peel
  clear hkk hW
  have z0 := hk.size
  have KT := Lib.hid hk
  clear hk
  refine (szSpan_no1 _ _ _ _ _ _ _ _ _ _ eb0 (by omega) hmaxA).mono ?_
  rintro e ww1 ⟨rfl, hk⟩
  have z1 := hk.size
  replace nAY0 := kc hk nAY0
  replace nAY1 := kc hk nAY1
  replace nAY2 := kc hk nAY2
  replace nAY3 := kc hk nAY3
  replace KT := Lib.hid (KT.out.trans0 hk)
  clear hk
  go_wp2_with fail
  go_ret
  exact ⟨rfl, KT.out⟩
 replace eb0 : (n : Int) ≤ (1048576 : Int) := by omega
 by_cases eb1 : (1048576 : Int) - (n : Int) < (m : Int)
 ·skip
  go_enter Try.func5, Try.ntmps5
  go_wp2_with fail
  generalize hW : (w.alloc (.cells #[.bool p, .slice a n c, .bool q, .slice b m d] 34)) = ww0
  have hkk : Kept [] (w.alloc (.cells #[.bool p, .slice a n c, .bool q, .slice b m d] 34)) ww0 := by rw [hW]; exact Kept.refl _ _
  have zzA : w.heap.size + 1 = ww0.heap.size := by rw [← hW]; simp
  obtain ⟨⟨nAY0, nAY1, nAY2, nAY3⟩, _⟩ := tp4 hkk (g := w.heap.size) (by simp) (by simp)
  have hk := hkk.peel
  clear hkk hW
  have z0 := hk.size
  have KT := Lib.hid hk
  clear hk
  refine (szSpan_no2 _ _ _ _ _ _ _ _ _ _ eb0 eb1 (by omega) hmaxB).mono ?_
  rintro e ww1 ⟨rfl, hk⟩
  have z1 := hk.size
  replace nAY0 := kc hk nAY0
  replace nAY1 := kc hk nAY1
  replace nAY2 := kc hk nAY2
  replace nAY3 := kc hk nAY3
  replace KT := Lib.hid (KT.out.trans0 hk)
  clear hk
  go_wp2_with fail
  go_ret
  exact ⟨rfl, KT.out⟩
 replace eb1 : (m : Int) ≤ (1048576 : Int) - (n : Int) := by omega
 have ng2 : decide ((1048576 : Int) - (n : Int) - (m : Int) < 0) = false := decide_eq_false (by omega)
 have np2 : (0 : Int) ≤ (1048576 : Int) - (n : Int) - (m : Int) := by omega
 have hsmA : n ≤ 1048576 := by omega
 have hsmB : m ≤ 1048576 := by omega
 go_enter Try.func5, Try.ntmps5
 go_wp2_with fail
 generalize hW : (w.alloc (.cells #[.bool p, .slice a n c, .bool q, .slice b m d] 34)) = ww0
 have hkk : Kept [] (w.alloc (.cells #[.bool p, .slice a n c, .bool q, .slice b m d] 34)) ww0 := by rw [hW]; exact Kept.refl _ _
 have zzA : w.heap.size + 1 = ww0.heap.size := by rw [← hW]; simp
 obtain ⟨⟨nAY0, nAY1, nAY2, nAY3⟩, _⟩ := tp4 hkk (g := w.heap.size) (by simp) (by simp)
 have hk := hkk.peel
 clear hkk hW
 have z0 := hk.size
 have kq1 := Lib.hid hk
 have KT := kq1
 clear hk
 replace HRA := Lib.hid (HRA.out.kept0 KT.out)
 replace HRB := Lib.hid (HRB.out.kept0 KT.out)
 refine (szSpan_yes _ _ _ _ _ _ _ _ _ _ eb0 eb1 (by omega)).mono ?_
 rintro e ww1 ⟨rfl, hk⟩
 have z1 := hk.size
 have kq2 := Lib.hid hk
 clear hk
 replace nAY0 := kc kq2.out nAY0
 have tAY0 := nAY0.out
 replace nAY1 := kc kq2.out nAY1
 have tAY1 := nAY1.out
 replace nAY2 := kc kq2.out nAY2
 have tAY2 := nAY2.out
 replace nAY3 := kc kq2.out nAY3
 have tAY3 := nAY3.out
 go_wp2_with fail
 clear tAY0 tAY1 tAY2 tAY3
 replace HRA := Lib.hid (HRA.out.kept0 kq2.out)
 replace HRB := Lib.hid (HRB.out.kept0 kq2.out)
 refine (toSpan_any _ _ _ _ _ _ _ _ _ _ _ HRA.out HRB.out (by omega) (by omega)).mono ?_
 rintro e ww2 ⟨gsa, gsb, rfl, qs, os, hb0, hb1, hk⟩
 rw [HLA.out]
 rw [HLB.out]
 have lsa := hb0.lt
 have Ssa := Lib.hid (sl_new hb0 HLA.out (by omega))
 have lsb := hb1.lt
 have Ssb := Lib.hid (sl_new hb1 HLB.out (by omega))
 clear hb0 hb1
 have z2 := hk.size
 have kq3 := Lib.hid hk
 clear hk
 go_wp2_with fail
 refine (sMetresOf_any P _ _ _ _ _ _ _ _ _ _ _ Ssa.out Ssb.out).mono ?_
 rintro e ww3 ⟨rfl, hk⟩
 obtain ⟨r0, q0⟩ : ∃ r, r = metC P p xs q ys := ⟨_, rfl⟩
 rw [← q0]
 have Q0 := Lib.hid q0
 clear q0
 obtain ⟨r1, q1⟩ : ∃ r, r = metL P p xs q ys := ⟨_, rfl⟩
 rw [← q1]
 have Q1 := Lib.hid q1
 clear q1
 obtain ⟨r2, q2⟩ : ∃ r, r = metH P p xs q ys := ⟨_, rfl⟩
 rw [← q2]
 have Q2 := Lib.hid q2
 clear q2
 have z3 := hk.size
 have kq4 := Lib.hid hk
 clear hk
 have kj1 := Lib.hid (kq3.out.trans0 kq4.out)
 replace nAY0 := kc kj1.out nAY0
 have tAY0 := alloc_cell (o := .cells #[.int .i64 r0, .int .i64 r1, .int .i64 r2] 39) nAY0.out
 replace nAY1 := kc kj1.out nAY1
 have tAY1 := alloc_cell (o := .cells #[.int .i64 r0, .int .i64 r1, .int .i64 r2] 39) nAY1.out
 replace nAY2 := kc kj1.out nAY2
 have tAY2 := alloc_cell (o := .cells #[.int .i64 r0, .int .i64 r1, .int .i64 r2] 39) nAY2.out
 replace nAY3 := kc kj1.out nAY3
 have tAY3 := alloc_cell (o := .cells #[.int .i64 r0, .int .i64 r1, .int .i64 r2] 39) nAY3.out
 go_wp2_with fail
 clear tAY0 tAY1 tAY2 tAY3
 generalize hW : (ww3.alloc (.cells #[.int .i64 r0, .int .i64 r1, .int .i64 r2] 39)) = ww4
 have hk : Kept [] ww3 ww4 := by rw [← hW]; exact (Kept.refl [] _).alloc _
 have zzW : ww3.heap.size + 1 = ww4.heap.size := by rw [← hW]; simp
 have nW0 := Lib.hid (show ww4.cell? ⟨ww3.heap.size, 0, none⟩ = some (.int .i64 r0) by rw [← hW, World.cell?_alloc_new]; rfl)
 have nW1 := Lib.hid (show ww4.cell? ⟨ww3.heap.size, 1, none⟩ = some (.int .i64 r1) by rw [← hW, World.cell?_alloc_new]; rfl)
 have nW2 := Lib.hid (show ww4.cell? ⟨ww3.heap.size, 2, none⟩ = some (.int .i64 r2) by rw [← hW, World.cell?_alloc_new]; rfl)
 clear hW
 have z4 := hk.size
 have kq5 := Lib.hid hk
 clear hk
 have kj2 := Lib.hid (kj1.out.trans0 kq5.out)
 replace HRA := Lib.hid (HRA.out.kept0 kj2.out)
 replace HRB := Lib.hid (HRB.out.kept0 kj2.out)
 refine (toSpan_any _ _ _ _ _ _ _ _ _ _ _ HRA.out HRB.out (by omega) (by omega)).mono ?_
 rintro e ww5 ⟨gx0a, gx0b, rfl, qx0, ox0, hb0, hb1, hk⟩
 rw [HLA.out]
 rw [HLB.out]
 have lx0a := hb0.lt
 have Sx0a := Lib.hid (sl_new hb0 HLA.out (by omega))
 have lx0b := hb1.lt
 have Sx0b := Lib.hid (sl_new hb1 HLB.out (by omega))
 clear hb0 hb1
 have z5 := hk.size
 have kq6 := Lib.hid hk
 clear hk
 go_wp2_with fail
 generalize hW : (ww5.alloc (.cells #[.bool p, .slice (some ⟨gx0a, 0, none⟩) n n, .bool q, .slice (some ⟨gx0b, 0, none⟩) m m] 43)) = ww6
 have hk : Kept [] ww5 ww6 := by rw [← hW]; exact (Kept.refl [] _).alloc _
 have zzX0 : ww5.heap.size + 1 = ww6.heap.size := by rw [← hW]; simp
 have nX00 := Lib.hid (show ww6.cell? ⟨ww5.heap.size, 0, none⟩ = some (.bool p) by rw [← hW, World.cell?_alloc_new]; rfl)
 have nX01 := Lib.hid (show ww6.cell? ⟨ww5.heap.size, 1, none⟩ = some (.slice (some ⟨gx0a, 0, none⟩) n n) by rw [← hW, World.cell?_alloc_new]; rfl)
 have nX02 := Lib.hid (show ww6.cell? ⟨ww5.heap.size, 2, none⟩ = some (.bool q) by rw [← hW, World.cell?_alloc_new]; rfl)
 have nX03 := Lib.hid (show ww6.cell? ⟨ww5.heap.size, 3, none⟩ = some (.slice (some ⟨gx0b, 0, none⟩) m m) by rw [← hW, World.cell?_alloc_new]; rfl)
 clear hW
 have z6 := hk.size
 have kq7 := Lib.hid hk
 clear hk
 replace Sx0a := Lib.hid (Sx0a.out.kept0 kq7.out)
 replace Sx0b := Lib.hid (Sx0b.out.kept0 kq7.out)
 refine (MetresOf_any P _ _ _ _ _ _ _ _ _ _ _ Sx0a.out Sx0b.out).mono ?_
 rintro e ww7 ⟨rfl, hk⟩
 rw [← Q0.out, ← Q1.out, ← Q2.out]
 have z7 := hk.size
 have kq8 := Lib.hid hk
 clear hk
 have kj3 := Lib.hid ((kq6.out.trans0 kq7.out).trans0 kq8.out)
 replace nW0 := kc kj3.out nW0
 have tW0 := alloc_cell (o := .cells #[.int .i64 r0, .int .i64 r1, .int .i64 r2] 39) nW0.out
 replace nW1 := kc kj3.out nW1
 have tW1 := alloc_cell (o := .cells #[.int .i64 r0, .int .i64 r1, .int .i64 r2] 39) nW1.out
 replace nW2 := kc kj3.out nW2
 have tW2 := alloc_cell (o := .cells #[.int .i64 r0, .int .i64 r1, .int .i64 r2] 39) nW2.out
 go_wp2_with fail
 clear tW0 tW1 tW2
 generalize hW : (ww7.alloc (.cells #[.int .i64 r0, .int .i64 r1, .int .i64 r2] 39)) = ww8
 have hk : Kept [] ww7 ww8 := by rw [← hW]; exact (Kept.refl [] _).alloc _
 have zzG : ww7.heap.size + 1 = ww8.heap.size := by rw [← hW]; simp
 have nG0 := Lib.hid (show ww8.cell? ⟨ww7.heap.size, 0, none⟩ = some (.int .i64 r0) by rw [← hW, World.cell?_alloc_new]; rfl)
 have nG1 := Lib.hid (show ww8.cell? ⟨ww7.heap.size, 1, none⟩ = some (.int .i64 r1) by rw [← hW, World.cell?_alloc_new]; rfl)
 have nG2 := Lib.hid (show ww8.cell? ⟨ww7.heap.size, 2, none⟩ = some (.int .i64 r2) by rw [← hW, World.cell?_alloc_new]; rfl)
 clear hW
 have z8 := hk.size
 have kq9 := Lib.hid hk
 clear hk
 refine (eqRangeResult_yes _ _ _ _).mono ?_
 rintro e ww9 ⟨rfl, hk⟩
 have z9 := hk.size
 have kq10 := Lib.hid hk
 clear hk
 have kj4 := Lib.hid ((kq8.out.trans0 kq9.out).trans0 kq10.out)
 replace nX00 := kc kj4.out nX00
 have tX00 := nX00.out
 replace nX01 := kc kj4.out nX01
 have tX01 := nX01.out
 replace nX02 := kc kj4.out nX02
 have tX02 := nX02.out
 replace nX03 := kc kj4.out nX03
 have tX03 := nX03.out
 have kj5 := Lib.hid (((((kq5.out.trans0 kq6.out).trans0 kq7.out).trans0 kq8.out).trans0 kq9.out).trans0 kq10.out)
 replace nAY0 := kc kj5.out nAY0
 have tAY0 := nAY0.out
 replace nAY1 := kc kj5.out nAY1
 have tAY1 := nAY1.out
 replace nAY2 := kc kj5.out nAY2
 have tAY2 := nAY2.out
 replace nAY3 := kc kj5.out nAY3
 have tAY3 := nAY3.out
 go_wp2_with fail
 clear tX00 tX01 tX02 tX03 tAY0 tAY1 tAY2 tAY3
 have tX00 := nX00.out
 have tX01 := nX01.out
 have tX02 := nX02.out
 have tX03 := nX03.out
 have tAY0 := nAY0.out
 have tAY1 := nAY1.out
 have tAY2 := nAY2.out
 have tAY3 := nAY3.out
 have kj6 := Lib.hid ((((((((kq2.out.trans0 kq3.out).trans0 kq4.out).trans0 kq5.out).trans0 kq6.out).trans0 kq7.out).trans0 kq8.out).trans0 kq9.out).trans0 kq10.out)
 replace KT := Lib.hid (KT.out.trans0 kj6.out)
 have kj7 := Lib.hid ((((((kq4.out.trans0 kq5.out).trans0 kq6.out).trans0 kq7.out).trans0 kq8.out).trans0 kq9.out).trans0 kq10.out)
 replace Ssa := Lib.hid (Ssa.out.kept0 kj7.out)
 replace Ssb := Lib.hid (Ssb.out.kept0 kj7.out)
 have kj8 := Lib.hid ((kj3.out.trans0 kq9.out).trans0 kq10.out)
 replace HRA := Lib.hid (HRA.out.kept0 kj8.out)
 replace HRB := Lib.hid (HRB.out.kept0 kj8.out)
 replace Sx0a := Lib.hid (Sx0a.out.kept0 kj4.out)
 replace Sx0b := Lib.hid (Sx0b.out.kept0 kj4.out)
 have kj9 := Lib.hid (kq9.out.trans0 kq10.out)
 replace nW0 := kc kj9.out nW0
 replace nW1 := kc kj9.out nW1
 replace nW2 := kc kj9.out nW2
 replace nG0 := kc kq10.out nG0
 replace nG1 := kc kq10.out nG1
 replace nG2 := kc kq10.out nG2
 go_region_held3 (fun w' => w'.cell? ⟨ww5.heap.size, 0, none⟩ = some (.bool p) ∧ w'.cell? ⟨ww5.heap.size, 1, none⟩ = some (.slice (some ⟨gx0a, 0, none⟩) n n) ∧ w'.cell? ⟨ww5.heap.size, 2, none⟩ = some (.bool q) ∧ w'.cell? ⟨ww5.heap.size, 3, none⟩ = some (.slice (some ⟨gx0b, 0, none⟩) m m) ∧ w'.cell? ⟨w.heap.size, 0, none⟩ = some (.bool p) ∧ w'.cell? ⟨w.heap.size, 1, none⟩ = some (.slice a n c) ∧ w'.cell? ⟨w.heap.size, 2, none⟩ = some (.bool q) ∧ w'.cell? ⟨w.heap.size, 3, none⟩ = some (.slice b m d) ∧ Hid (Kept [] ww9 w'))
  ((go_split_ands; (try refine ⟨?_, ?_, ?_, ?_, ?_, ?_, ?_, ?_, ?_⟩) <;> with_reducible first | exact Lib.hid ((Kept.refl _ _).drew) | exact drew_cell (by assumption) | exact Kept.allocH (by assumption) | exact alloc_cell (by assumption) | exact Lib.hid (Kept.trans0 (Hid.out (by assumption)) (by assumption)) | exact Kept.cell (by assumption) (by assumption) (by simp)))
  (first
   | (go_at_call 13; go_split_ands; refine (toSpan_any _ _ _ _ _ _ _ _ _ _ _ (HRA.out.kept0 (Kept.refl [] _).drew) (HRB.out.kept0 (Kept.refl [] _).drew) (by omega) (by omega)).mono ?_; rintro e v10 ⟨ge0a, ge0b, rfl, qe0, oe0, hb0, hb1, hk1⟩; rw [HLA.out]; rw [HLB.out])
   | (go_at_call 16; go_split_ands; refine (eqSpan_yes _ _ _ _ _ _ _ _ _ _ _ _ _ _ _ (((Sx0a.out.kept0 (Kept.refl [] _).drew).kept0 hk1).rd) (rd_new hb0 HLA.out (by omega)) (((Sx0b.out.kept0 (Kept.refl [] _).drew).kept0 hk1).rd) (rd_new hb1 HLB.out (by omega))).mono ?_; rintro e v11 ⟨rfl, hk2⟩))
 clear tX00 tX01 tX02 tX03 tAY0 tAY1 tAY2 tAY3
 have hk := ((Kept.refl [] ww9).drew.trans0 hk1).trans0 hk2
 clear hk1 hk2 hb0 hb1
 have z11 := hk.size
 have kq11 := Lib.hid hk
 clear hk
 go_wp2_with fail
 go_ret
 replace KT := Lib.hid (KT.out.trans0 kq11.out)
 exact ⟨rfl, KT.out⟩

end Go.Proofs.Ytfafjijoeanbhaa
