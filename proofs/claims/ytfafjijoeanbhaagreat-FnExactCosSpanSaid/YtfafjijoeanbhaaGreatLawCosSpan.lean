/-
 The walk of the law on CosSpan. No condition but that the arguments' limbs read as lists of numbers.
-/
import Derived.Deep.RegionHeld3
import Derived.Deep.DrawnRows
import Derived.Deep.DeepCutAuto
import Derived.Test.YtfafjijoeanbhaaGreatJ3
import Derived.Test.YtfafjijoeanbhaaGreatSpecCosSpan
import Derived.Test.YtfafjijoeanbhaaGreatCosProg
namespace Go.Proofs.YtfafjijoeanbhaaGreat
open Go.RowKit
attribute [local go_sem ↓] Go.wp_at_zero Go.wp_at_succ

set_option maxHeartbeats 16000000 in
set_option maxRecDepth 100000 in
theorem FnExactCosSpan_walk (P : Int) (p : Bool) (a : Option Addr) (n c : Nat) (xs : List Int) (q : Bool) (b : Option Addr) (m d : Nat) (ys : List Int) (w : World) (hP : (Lit.int .i64 P).wf = true) (hA : Rd w a n xs) (hB : Rd w b m ys) :
  Calls Tryz.prog 10 #[.int .i64 P, .agg #[.bool p, .slice a n c, .bool q, .slice b m d]] w (Ans w (.bool true)) := by
 have hmaxA := hA.2.1
 have HRA := Lib.hid hA
 have HLA := Lib.hid hA.1
 have FRA := Lib.hid hA.lt
 clear hA
 have hmaxB := hB.2.1
 have HRB := Lib.hid hB
 have HLB := Lib.hid hB.1
 have FRB := Lib.hid hB.lt
 clear hB
 have HWP := Lib.hid hP
 clear hP
 by_cases eb0 : (1048576 : Int) < (n : Int)
 ·skip
  go_enter Tryz.func10, Tryz.ntmps10
  go_wp2_with fail
  generalize hW : (w.alloc (.cells #[.bool p, .slice a n c, .bool q, .slice b m d] 57)) = ww0
  have hkk : Kept [] (w.alloc (.cells #[.bool p, .slice a n c, .bool q, .slice b m d] 57)) ww0 := by rw [hW]; exact Kept.refl _ _
  have zzA : w.heap.size + 1 = ww0.heap.size := by rw [← hW]; simp
  obtain ⟨⟨nAY0, nAY1, nAY2, nAY3⟩, _⟩ := tp4 hkk (g := w.heap.size) (by simp) (by simp)
  have hk := hkk.peel
  clear hkk hW
  have z0 := hk.size
  have KT := Lib.hid hk
  clear hk
  refine (szSpan_no1 _ _ _ _ _ _ _ _ _ _ eb0 (by omega) hmaxA).mono ?_
  rintro e ww1 ⟨rfl, hk⟩
  have z1 := hk.size
  replace nAY0 := kc hk nAY0
  replace nAY1 := kc hk nAY1
  replace nAY2 := kc hk nAY2
  replace nAY3 := kc hk nAY3
  replace KT := Lib.hid (KT.out.trans0 hk)
  clear hk
  go_wp2_with fail
  go_ret
  exact ⟨rfl, KT.out⟩
 replace eb0 : (n : Int) ≤ (1048576 : Int) := by omega
 by_cases eb1 : (1048576 : Int) - (n : Int) < (m : Int)
 ·skip
  go_enter Tryz.func10, Tryz.ntmps10
  go_wp2_with fail
  generalize hW : (w.alloc (.cells #[.bool p, .slice a n c, .bool q, .slice b m d] 57)) = ww0
  have hkk : Kept [] (w.alloc (.cells #[.bool p, .slice a n c, .bool q, .slice b m d] 57)) ww0 := by rw [hW]; exact Kept.refl _ _
  have zzA : w.heap.size + 1 = ww0.heap.size := by rw [← hW]; simp
  obtain ⟨⟨nAY0, nAY1, nAY2, nAY3⟩, _⟩ := tp4 hkk (g := w.heap.size) (by simp) (by simp)
  have hk := hkk.peel
  clear hkk hW
  have z0 := hk.size
  have KT := Lib.hid hk
  clear hk
  refine (szSpan_no2 _ _ _ _ _ _ _ _ _ _ eb0 eb1 (by omega) hmaxB).mono ?_
  rintro e ww1 ⟨rfl, hk⟩
  have z1 := hk.size
  replace nAY0 := kc hk nAY0
  replace nAY1 := kc hk nAY1
  replace nAY2 := kc hk nAY2
  replace nAY3 := kc hk nAY3
  replace KT := Lib.hid (KT.out.trans0 hk)
  clear hk
  go_wp2_with fail
  go_ret
  exact ⟨rfl, KT.out⟩
 replace eb1 : (m : Int) ≤ (1048576 : Int) - (n : Int) := by omega
 have ng2 : decide ((1048576 : Int) - (n : Int) - (m : Int) < 0) = false := decide_eq_false (by omega)
 have np2 : (0 : Int) ≤ (1048576 : Int) - (n : Int) - (m : Int) := by omega
 have hsmA : n ≤ 1048576 := by omega
 have hsmB : m ≤ 1048576 := by omega
 have HZ := Lib.hid (show Short (waveSS true P p xs q ys) from waveSS_short _ _ _ _ _ _)
 go_enter Tryz.func10, Tryz.ntmps10
 go_wp2_with fail
 generalize hW : (w.alloc (.cells #[.bool p, .slice a n c, .bool q, .slice b m d] 57)) = ww0
 have hkk : Kept [] (w.alloc (.cells #[.bool p, .slice a n c, .bool q, .slice b m d] 57)) ww0 := by rw [hW]; exact Kept.refl _ _
 have zzA : w.heap.size + 1 = ww0.heap.size := by rw [← hW]; simp
 obtain ⟨⟨nAY0, nAY1, nAY2, nAY3⟩, _⟩ := tp4 hkk (g := w.heap.size) (by simp) (by simp)
 have hk := hkk.peel
 clear hkk hW
 have z0 := hk.size
 have kq1 := Lib.hid hk
 have KT := kq1
 clear hk
 replace HRA := Lib.hid (HRA.out.kept0 KT.out)
 replace HRB := Lib.hid (HRB.out.kept0 KT.out)
 refine (szSpan_yes _ _ _ _ _ _ _ _ _ _ eb0 eb1 (by omega)).mono ?_
 rintro e ww1 ⟨rfl, hk⟩
 have z1 := hk.size
 have kq2 := Lib.hid hk
 clear hk
 replace nAY0 := kc kq2.out nAY0
 have tAY0 := nAY0.out
 replace nAY1 := kc kq2.out nAY1
 have tAY1 := nAY1.out
 replace nAY2 := kc kq2.out nAY2
 have tAY2 := nAY2.out
 replace nAY3 := kc kq2.out nAY3
 have tAY3 := nAY3.out
 go_wp2_with fail
 clear tAY0 tAY1 tAY2 tAY3
 replace HRA := Lib.hid (HRA.out.kept0 kq2.out)
 replace HRB := Lib.hid (HRB.out.kept0 kq2.out)
 refine (toSpan_any _ _ _ _ _ _ _ _ _ _ _ HRA.out HRB.out (by omega) (by omega)).mono ?_
 rintro e ww2 ⟨gsa, gsb, rfl, qs, os, hb0, hb1, hk⟩
 rw [HLA.out]
 rw [HLB.out]
 have lsa := hb0.lt
 have Ssa := Lib.hid (sl_new hb0 HLA.out (by omega))
 have lsb := hb1.lt
 have Ssb := Lib.hid (sl_new hb1 HLB.out (by omega))
 clear hb0 hb1
 have z2 := hk.size
 have kq3 := Lib.hid hk
 clear hk
 go_wp2_with fail
 refine (sCosSpan_any P _ _ _ _ _ _ _ _ _ _ _ Ssa.out Ssb.out).mono ?_
 rintro e ww3 ⟨a1, c1, b1, d1, rfl, hs, hs', hf, hf', hk⟩
 obtain ⟨rv, hv⟩ : ∃ r : SV, r = waveSS true P p xs q ys := ⟨_, rfl⟩
 (try rw [← hv] at e0 e1 e2 e3 e4)
 rw [← hv] at hs hs' hf hf'
 (try rw [← hv])
 rw [← hv] at HZ
 have HV := Lib.hid hv
 clear hv
 have S1a := Lib.hid hs
 have S1b := Lib.hid hs'
 have f1a := Lib.hid hs.lt
 have f1b := Lib.hid hs'.lt
 have F1a := Lib.hid hf
 have F1b := Lib.hid hf'
 clear hs hs' hf hf'
 have hz1 := HZ.out.1
 have hz2 := HZ.out.2
 have z3 := hk.size
 have kq4 := Lib.hid hk
 clear hk
 have kj1 := Lib.hid (kq3.out.trans0 kq4.out)
 replace nAY0 := kc kj1.out nAY0
 have tAY0 := alloc_cell (o := .cells #[.int .i64 rv.code, .bool (isNeg rv.lo), .slice a1 (mag rv.lo).length c1, .bool (isNeg rv.hi), .slice b1 (mag rv.hi).length d1] 28) nAY0.out
 replace nAY1 := kc kj1.out nAY1
 have tAY1 := alloc_cell (o := .cells #[.int .i64 rv.code, .bool (isNeg rv.lo), .slice a1 (mag rv.lo).length c1, .bool (isNeg rv.hi), .slice b1 (mag rv.hi).length d1] 28) nAY1.out
 replace nAY2 := kc kj1.out nAY2
 have tAY2 := alloc_cell (o := .cells #[.int .i64 rv.code, .bool (isNeg rv.lo), .slice a1 (mag rv.lo).length c1, .bool (isNeg rv.hi), .slice b1 (mag rv.hi).length d1] 28) nAY2.out
 replace nAY3 := kc kj1.out nAY3
 have tAY3 := alloc_cell (o := .cells #[.int .i64 rv.code, .bool (isNeg rv.lo), .slice a1 (mag rv.lo).length c1, .bool (isNeg rv.hi), .slice b1 (mag rv.hi).length d1] 28) nAY3.out
 go_wp2_with fail
 clear tAY0 tAY1 tAY2 tAY3
 generalize hW : (ww3.alloc (.cells #[.int .i64 rv.code, .bool (isNeg rv.lo), .slice a1 (mag rv.lo).length c1, .bool (isNeg rv.hi), .slice b1 (mag rv.hi).length d1] 28)) = ww4
 have hk : Kept [] ww3 ww4 := by rw [← hW]; exact (Kept.refl [] _).alloc _
 have zzW : ww3.heap.size + 1 = ww4.heap.size := by rw [← hW]; simp
 have nW0 := Lib.hid (show ww4.cell? ⟨ww3.heap.size, 0, none⟩ = some (.int .i64 rv.code) by rw [← hW, World.cell?_alloc_new]; rfl)
 have nW1 := Lib.hid (show ww4.cell? ⟨ww3.heap.size, 1, none⟩ = some (.bool (isNeg rv.lo)) by rw [← hW, World.cell?_alloc_new]; rfl)
 have nW2 := Lib.hid (show ww4.cell? ⟨ww3.heap.size, 2, none⟩ = some (.slice a1 (mag rv.lo).length c1) by rw [← hW, World.cell?_alloc_new]; rfl)
 have nW3 := Lib.hid (show ww4.cell? ⟨ww3.heap.size, 3, none⟩ = some (.bool (isNeg rv.hi)) by rw [← hW, World.cell?_alloc_new]; rfl)
 have nW4 := Lib.hid (show ww4.cell? ⟨ww3.heap.size, 4, none⟩ = some (.slice b1 (mag rv.hi).length d1) by rw [← hW, World.cell?_alloc_new]; rfl)
 clear hW
 have z4 := hk.size
 have kq5 := Lib.hid hk
 clear hk
 have kj2 := Lib.hid (kj1.out.trans0 kq5.out)
 replace HRA := Lib.hid (HRA.out.kept0 kj2.out)
 replace HRB := Lib.hid (HRB.out.kept0 kj2.out)
 refine (toSpan_any _ _ _ _ _ _ _ _ _ _ _ HRA.out HRB.out (by omega) (by omega)).mono ?_
 rintro e ww5 ⟨gx0a, gx0b, rfl, qx0, ox0, hb0, hb1, hk⟩
 rw [HLA.out]
 rw [HLB.out]
 have lx0a := hb0.lt
 have Sx0a := Lib.hid (sl_new hb0 HLA.out (by omega))
 have lx0b := hb1.lt
 have Sx0b := Lib.hid (sl_new hb1 HLB.out (by omega))
 clear hb0 hb1
 have z5 := hk.size
 have kq6 := Lib.hid hk
 clear hk
 go_wp2_with fail
 generalize hW : (ww5.alloc (.cells #[.bool p, .slice (some ⟨gx0a, 0, none⟩) n n, .bool q, .slice (some ⟨gx0b, 0, none⟩) m m] 26)) = ww6
 have hk : Kept [] ww5 ww6 := by rw [← hW]; exact (Kept.refl [] _).alloc _
 have zzX0 : ww5.heap.size + 1 = ww6.heap.size := by rw [← hW]; simp
 have nX00 := Lib.hid (show ww6.cell? ⟨ww5.heap.size, 0, none⟩ = some (.bool p) by rw [← hW, World.cell?_alloc_new]; rfl)
 have nX01 := Lib.hid (show ww6.cell? ⟨ww5.heap.size, 1, none⟩ = some (.slice (some ⟨gx0a, 0, none⟩) n n) by rw [← hW, World.cell?_alloc_new]; rfl)
 have nX02 := Lib.hid (show ww6.cell? ⟨ww5.heap.size, 2, none⟩ = some (.bool q) by rw [← hW, World.cell?_alloc_new]; rfl)
 have nX03 := Lib.hid (show ww6.cell? ⟨ww5.heap.size, 3, none⟩ = some (.slice (some ⟨gx0b, 0, none⟩) m m) by rw [← hW, World.cell?_alloc_new]; rfl)
 clear hW
 have z6 := hk.size
 have kq7 := Lib.hid hk
 clear hk
 replace Sx0a := Lib.hid (Sx0a.out.kept0 kq7.out)
 replace Sx0b := Lib.hid (Sx0b.out.kept0 kq7.out)
 refine (CosSpan_any P _ _ _ _ _ _ _ _ _ _ _ Sx0a.out Sx0b.out).mono ?_
 rintro e ww7 ⟨a2, c2, b2, d2, rfl, hs, hs', hf, hf', hne, hk⟩
 (try rw [← HV.out] at e0 e1 e2 e3 e4)
 rw [← HV.out] at hs hs' hf hf' hne
 (try rw [← HV.out])
 have S2a := Lib.hid hs
 have S2b := Lib.hid hs'
 have f2a := Lib.hid hs.lt
 have f2b := Lib.hid hs'.lt
 have F2a := Lib.hid hf
 have F2b := Lib.hid hf'
 have NE2 := Lib.hid hne
 clear hs hs' hf hf' hne
 have z7 := hk.size
 have kq8 := Lib.hid hk
 clear hk
 have kj3 := Lib.hid ((kq6.out.trans0 kq7.out).trans0 kq8.out)
 replace nW0 := kc kj3.out nW0
 have tW0 := alloc_cell (o := .cells #[.int .i64 rv.code, .bool (isNeg rv.lo), .slice a2 (mag rv.lo).length c2, .bool (isNeg rv.hi), .slice b2 (mag rv.hi).length d2] 28) nW0.out
 replace nW1 := kc kj3.out nW1
 have tW1 := alloc_cell (o := .cells #[.int .i64 rv.code, .bool (isNeg rv.lo), .slice a2 (mag rv.lo).length c2, .bool (isNeg rv.hi), .slice b2 (mag rv.hi).length d2] 28) nW1.out
 replace nW2 := kc kj3.out nW2
 have tW2 := alloc_cell (o := .cells #[.int .i64 rv.code, .bool (isNeg rv.lo), .slice a2 (mag rv.lo).length c2, .bool (isNeg rv.hi), .slice b2 (mag rv.hi).length d2] 28) nW2.out
 replace nW3 := kc kj3.out nW3
 have tW3 := alloc_cell (o := .cells #[.int .i64 rv.code, .bool (isNeg rv.lo), .slice a2 (mag rv.lo).length c2, .bool (isNeg rv.hi), .slice b2 (mag rv.hi).length d2] 28) nW3.out
 replace nW4 := kc kj3.out nW4
 have tW4 := alloc_cell (o := .cells #[.int .i64 rv.code, .bool (isNeg rv.lo), .slice a2 (mag rv.lo).length c2, .bool (isNeg rv.hi), .slice b2 (mag rv.hi).length d2] 28) nW4.out
 go_wp2_with fail
 clear tW0 tW1 tW2 tW3 tW4
 generalize hW : (ww7.alloc (.cells #[.int .i64 rv.code, .bool (isNeg rv.lo), .slice a2 (mag rv.lo).length c2, .bool (isNeg rv.hi), .slice b2 (mag rv.hi).length d2] 28)) = ww8
 have hk : Kept [] ww7 ww8 := by rw [← hW]; exact (Kept.refl [] _).alloc _
 have zzG : ww7.heap.size + 1 = ww8.heap.size := by rw [← hW]; simp
 have nG0 := Lib.hid (show ww8.cell? ⟨ww7.heap.size, 0, none⟩ = some (.int .i64 rv.code) by rw [← hW, World.cell?_alloc_new]; rfl)
 have nG1 := Lib.hid (show ww8.cell? ⟨ww7.heap.size, 1, none⟩ = some (.bool (isNeg rv.lo)) by rw [← hW, World.cell?_alloc_new]; rfl)
 have nG2 := Lib.hid (show ww8.cell? ⟨ww7.heap.size, 2, none⟩ = some (.slice a2 (mag rv.lo).length c2) by rw [← hW, World.cell?_alloc_new]; rfl)
 have nG3 := Lib.hid (show ww8.cell? ⟨ww7.heap.size, 3, none⟩ = some (.bool (isNeg rv.hi)) by rw [← hW, World.cell?_alloc_new]; rfl)
 have nG4 := Lib.hid (show ww8.cell? ⟨ww7.heap.size, 4, none⟩ = some (.slice b2 (mag rv.hi).length d2) by rw [← hW, World.cell?_alloc_new]; rfl)
 clear hW
 have z8 := hk.size
 have kq9 := Lib.hid hk
 clear hk
 have kj4 := Lib.hid ((((kq5.out.trans0 kq6.out).trans0 kq7.out).trans0 kq8.out).trans0 kq9.out)
 replace S1a := Lib.hid (S1a.out.kept0 kj4.out)
 replace S1b := Lib.hid (S1b.out.kept0 kj4.out)
 replace S2a := Lib.hid (S2a.out.kept0 kq9.out)
 replace S2b := Lib.hid (S2b.out.kept0 kq9.out)
 refine (eqSpanResult_yes _ _ _ _ _ _ _ _ _ _ _ _ _ _ _ _ S2a.out.rd S1a.out.rd S2b.out.rd S1b.out.rd).mono ?_
 rintro e ww9 ⟨rfl, hk⟩
 have z9 := hk.size
 have kq10 := Lib.hid hk
 clear hk
 have kj5 := Lib.hid ((kq8.out.trans0 kq9.out).trans0 kq10.out)
 replace nX00 := kc kj5.out nX00
 have tX00 := nX00.out
 replace nX01 := kc kj5.out nX01
 have tX01 := nX01.out
 replace nX02 := kc kj5.out nX02
 have tX02 := nX02.out
 replace nX03 := kc kj5.out nX03
 have tX03 := nX03.out
 have kj6 := Lib.hid (kj4.out.trans0 kq10.out)
 replace nAY0 := kc kj6.out nAY0
 have tAY0 := nAY0.out
 replace nAY1 := kc kj6.out nAY1
 have tAY1 := nAY1.out
 replace nAY2 := kc kj6.out nAY2
 have tAY2 := nAY2.out
 replace nAY3 := kc kj6.out nAY3
 have tAY3 := nAY3.out
 go_wp2_with fail
 clear tX00 tX01 tX02 tX03 tAY0 tAY1 tAY2 tAY3
 have tX00 := nX00.out
 have tX01 := nX01.out
 have tX02 := nX02.out
 have tX03 := nX03.out
 have tAY0 := nAY0.out
 have tAY1 := nAY1.out
 have tAY2 := nAY2.out
 have tAY3 := nAY3.out
 have kj7 := Lib.hid ((((((((kq2.out.trans0 kq3.out).trans0 kq4.out).trans0 kq5.out).trans0 kq6.out).trans0 kq7.out).trans0 kq8.out).trans0 kq9.out).trans0 kq10.out)
 replace KT := Lib.hid (KT.out.trans0 kj7.out)
 have kj8 := Lib.hid ((((((kq4.out.trans0 kq5.out).trans0 kq6.out).trans0 kq7.out).trans0 kq8.out).trans0 kq9.out).trans0 kq10.out)
 replace Ssa := Lib.hid (Ssa.out.kept0 kj8.out)
 replace Ssb := Lib.hid (Ssb.out.kept0 kj8.out)
 have kj9 := Lib.hid ((kj3.out.trans0 kq9.out).trans0 kq10.out)
 replace HRA := Lib.hid (HRA.out.kept0 kj9.out)
 replace HRB := Lib.hid (HRB.out.kept0 kj9.out)
 replace Sx0a := Lib.hid (Sx0a.out.kept0 kj5.out)
 replace Sx0b := Lib.hid (Sx0b.out.kept0 kj5.out)
 have kj10 := Lib.hid (kq9.out.trans0 kq10.out)
 replace nW0 := kc kj10.out nW0
 replace nW1 := kc kj10.out nW1
 replace nW2 := kc kj10.out nW2
 replace nW3 := kc kj10.out nW3
 replace nW4 := kc kj10.out nW4
 replace S1a := Lib.hid (S1a.out.kept0 kq10.out)
 replace S1b := Lib.hid (S1b.out.kept0 kq10.out)
 replace S2a := Lib.hid (S2a.out.kept0 kq10.out)
 replace S2b := Lib.hid (S2b.out.kept0 kq10.out)
 replace nG0 := kc kq10.out nG0
 replace nG1 := kc kq10.out nG1
 replace nG2 := kc kq10.out nG2
 replace nG3 := kc kq10.out nG3
 replace nG4 := kc kq10.out nG4
 go_region_held3 (fun w' => w'.cell? ⟨ww5.heap.size, 0, none⟩ = some (.bool p) ∧ w'.cell? ⟨ww5.heap.size, 1, none⟩ = some (.slice (some ⟨gx0a, 0, none⟩) n n) ∧ w'.cell? ⟨ww5.heap.size, 2, none⟩ = some (.bool q) ∧ w'.cell? ⟨ww5.heap.size, 3, none⟩ = some (.slice (some ⟨gx0b, 0, none⟩) m m) ∧ w'.cell? ⟨w.heap.size, 0, none⟩ = some (.bool p) ∧ w'.cell? ⟨w.heap.size, 1, none⟩ = some (.slice a n c) ∧ w'.cell? ⟨w.heap.size, 2, none⟩ = some (.bool q) ∧ w'.cell? ⟨w.heap.size, 3, none⟩ = some (.slice b m d) ∧ Hid (Kept [] ww9 w'))
  ((go_split_ands; (try refine ⟨?_, ?_, ?_, ?_, ?_, ?_, ?_, ?_, ?_⟩) <;> with_reducible first | exact Lib.hid ((Kept.refl _ _).drew) | exact drew_cell (by assumption) | exact Kept.allocH (by assumption) | exact alloc_cell (by assumption) | exact Lib.hid (Kept.trans0 (Hid.out (by assumption)) (by assumption)) | exact Kept.cell (by assumption) (by assumption) (by simp)))
  (first
   | (go_at_call 32; go_split_ands; refine (toSpan_any _ _ _ _ _ _ _ _ _ _ _ (HRA.out.kept0 (Kept.refl [] _).drew) (HRB.out.kept0 (Kept.refl [] _).drew) (by omega) (by omega)).mono ?_; rintro e v10 ⟨ge0a, ge0b, rfl, qe0, oe0, hb0, hb1, hk1⟩; rw [HLA.out]; rw [HLB.out])
   | (go_at_call 34; go_split_ands; refine (eqSpan_yes _ _ _ _ _ _ _ _ _ _ _ _ _ _ _ (((Sx0a.out.kept0 (Kept.refl [] _).drew).kept0 hk1).rd) (rd_new hb0 HLA.out (by omega)) (((Sx0b.out.kept0 (Kept.refl [] _).drew).kept0 hk1).rd) (rd_new hb1 HLB.out (by omega))).mono ?_; rintro e v11 ⟨rfl, hk2⟩))
 clear tX00 tX01 tX02 tX03 tAY0 tAY1 tAY2 tAY3
 have hk := ((Kept.refl [] ww9).drew.trans0 hk1).trans0 hk2
 clear hk1 hk2 hb0 hb1
 have z11 := hk.size
 have kq11 := Lib.hid hk
 clear hk
 replace nX00 := kc kq11.out nX00
 have tX00 := nX00.out
 replace nX01 := kc kq11.out nX01
 have tX01 := nX01.out
 replace nX02 := kc kq11.out nX02
 have tX02 := nX02.out
 replace nX03 := kc kq11.out nX03
 have tX03 := nX03.out
 go_wp2_with fail
 clear tX00 tX01 tX02 tX03
 replace Sx0a := Lib.hid (Sx0a.out.kept0 kq11.out)
 replace Sx0b := Lib.hid (Sx0b.out.kept0 kq11.out)
 refine (markSpan_any _ _ _ _ _ _ _ _ _ _ (1) _ Sx0a.out Sx0b.out (fun x y _ _ hx hy => by cases hx; cases hy; (try dsimp only); omega) (by omega) (by omega) (by omega)).mono ?_
 rintro e ww12 ⟨rfl, hs, hs', hk⟩
 clear hs hs'
 replace nAY0 := kc kq11.out nAY0
 replace nAY1 := kc kq11.out nAY1
 replace nAY2 := kc kq11.out nAY2
 replace nAY3 := kc kq11.out nAY3
 replace HRA := Lib.hid (HRA.out.kept0 kq11.out)
 replace HRB := Lib.hid (HRB.out.kept0 kq11.out)
 replace Ssa := Lib.hid (Ssa.out.kept0 kq11.out)
 replace Ssb := Lib.hid (Ssb.out.kept0 kq11.out)
 replace S1a := Lib.hid (S1a.out.kept0 kq11.out)
 replace S1b := Lib.hid (S1b.out.kept0 kq11.out)
 replace nW0 := kc kq11.out nW0
 replace nW1 := kc kq11.out nW1
 replace nW2 := kc kq11.out nW2
 replace nW3 := kc kq11.out nW3
 replace nW4 := kc kq11.out nW4
 replace S2a := Lib.hid (S2a.out.kept0 kq11.out)
 replace S2b := Lib.hid (S2b.out.kept0 kq11.out)
 replace nG0 := kc kq11.out nG0
 replace nG1 := kc kq11.out nG1
 replace nG2 := kc kq11.out nG2
 replace nG3 := kc kq11.out nG3
 replace nG4 := kc kq11.out nG4
 replace KT := Lib.hid (KT.out.trans0 kq11.out)
 have z12 := hk.size
 replace nAY0 := Lib.hid (hk.cell (p := ⟨w.heap.size, 0, none⟩) nAY0.out (fun hm => by rcases List.mem_append.1 hm with hm | hm <;> (have e := blkOf_one hm; dsimp only at e; omega)))
 replace nAY1 := Lib.hid (hk.cell (p := ⟨w.heap.size, 1, none⟩) nAY1.out (fun hm => by rcases List.mem_append.1 hm with hm | hm <;> (have e := blkOf_one hm; dsimp only at e; omega)))
 replace nAY2 := Lib.hid (hk.cell (p := ⟨w.heap.size, 2, none⟩) nAY2.out (fun hm => by rcases List.mem_append.1 hm with hm | hm <;> (have e := blkOf_one hm; dsimp only at e; omega)))
 replace nAY3 := Lib.hid (hk.cell (p := ⟨w.heap.size, 3, none⟩) nAY3.out (fun hm => by rcases List.mem_append.1 hm with hm | hm <;> (have e := blkOf_one hm; dsimp only at e; omega)))
 replace HRA := Lib.hid (HRA.out.kept hk (fun hn y hy hm => by rcases List.mem_append.1 hm with hm | hm <;> (have e := blkOf_one hm; have h9 := FRA.out hn y hy; omega)))
 replace HRB := Lib.hid (HRB.out.kept hk (fun hn y hy hm => by rcases List.mem_append.1 hm with hm | hm <;> (have e := blkOf_one hm; have h9 := FRB.out hn y hy; omega)))
 replace Ssa := Lib.hid (Ssa.out.kept hk (fun hn y hy hm => by rcases List.mem_append.1 hm with hm | hm <;> (cases hy; have e := blkOf_one hm; dsimp only at e; omega)))
 replace Ssb := Lib.hid (Ssb.out.kept hk (fun hn y hy hm => by rcases List.mem_append.1 hm with hm | hm <;> (cases hy; have e := blkOf_one hm; dsimp only at e; omega)))
 replace S1a := Lib.hid (S1a.out.kept hk (fun hn y hy hm => by rcases List.mem_append.1 hm with hm | hm <;> (have e := blkOf_one hm; have h9 := f1a.out hn y hy; omega)))
 replace S1b := Lib.hid (S1b.out.kept hk (fun hn y hy hm => by rcases List.mem_append.1 hm with hm | hm <;> (have e := blkOf_one hm; have h9 := f1b.out hn y hy; omega)))
 replace nW0 := Lib.hid (hk.cell (p := ⟨ww3.heap.size, 0, none⟩) nW0.out (fun hm => by rcases List.mem_append.1 hm with hm | hm <;> (have e := blkOf_one hm; dsimp only at e; omega)))
 replace nW1 := Lib.hid (hk.cell (p := ⟨ww3.heap.size, 1, none⟩) nW1.out (fun hm => by rcases List.mem_append.1 hm with hm | hm <;> (have e := blkOf_one hm; dsimp only at e; omega)))
 replace nW2 := Lib.hid (hk.cell (p := ⟨ww3.heap.size, 2, none⟩) nW2.out (fun hm => by rcases List.mem_append.1 hm with hm | hm <;> (have e := blkOf_one hm; dsimp only at e; omega)))
 replace nW3 := Lib.hid (hk.cell (p := ⟨ww3.heap.size, 3, none⟩) nW3.out (fun hm => by rcases List.mem_append.1 hm with hm | hm <;> (have e := blkOf_one hm; dsimp only at e; omega)))
 replace nW4 := Lib.hid (hk.cell (p := ⟨ww3.heap.size, 4, none⟩) nW4.out (fun hm => by rcases List.mem_append.1 hm with hm | hm <;> (have e := blkOf_one hm; dsimp only at e; omega)))
 replace nX00 := Lib.hid (hk.cell (p := ⟨ww5.heap.size, 0, none⟩) nX00.out (fun hm => by rcases List.mem_append.1 hm with hm | hm <;> (have e := blkOf_one hm; dsimp only at e; omega)))
 replace nX01 := Lib.hid (hk.cell (p := ⟨ww5.heap.size, 1, none⟩) nX01.out (fun hm => by rcases List.mem_append.1 hm with hm | hm <;> (have e := blkOf_one hm; dsimp only at e; omega)))
 replace nX02 := Lib.hid (hk.cell (p := ⟨ww5.heap.size, 2, none⟩) nX02.out (fun hm => by rcases List.mem_append.1 hm with hm | hm <;> (have e := blkOf_one hm; dsimp only at e; omega)))
 replace nX03 := Lib.hid (hk.cell (p := ⟨ww5.heap.size, 3, none⟩) nX03.out (fun hm => by rcases List.mem_append.1 hm with hm | hm <;> (have e := blkOf_one hm; dsimp only at e; omega)))
 replace S2a := Lib.hid (S2a.out.kept hk (fun hn y hy hm => by rcases List.mem_append.1 hm with hm | hm <;> (have e := blkOf_one hm; have h9 := F2a.out hn y hy; omega)))
 replace S2b := Lib.hid (S2b.out.kept hk (fun hn y hy hm => by rcases List.mem_append.1 hm with hm | hm <;> (have e := blkOf_one hm; have h9 := F2b.out hn y hy; omega)))
 replace nG0 := Lib.hid (hk.cell (p := ⟨ww7.heap.size, 0, none⟩) nG0.out (fun hm => by rcases List.mem_append.1 hm with hm | hm <;> (have e := blkOf_one hm; dsimp only at e; omega)))
 replace nG1 := Lib.hid (hk.cell (p := ⟨ww7.heap.size, 1, none⟩) nG1.out (fun hm => by rcases List.mem_append.1 hm with hm | hm <;> (have e := blkOf_one hm; dsimp only at e; omega)))
 replace nG2 := Lib.hid (hk.cell (p := ⟨ww7.heap.size, 2, none⟩) nG2.out (fun hm => by rcases List.mem_append.1 hm with hm | hm <;> (have e := blkOf_one hm; dsimp only at e; omega)))
 replace nG3 := Lib.hid (hk.cell (p := ⟨ww7.heap.size, 3, none⟩) nG3.out (fun hm => by rcases List.mem_append.1 hm with hm | hm <;> (have e := blkOf_one hm; dsimp only at e; omega)))
 replace nG4 := Lib.hid (hk.cell (p := ⟨ww7.heap.size, 4, none⟩) nG4.out (fun hm => by rcases List.mem_append.1 hm with hm | hm <;> (have e := blkOf_one hm; dsimp only at e; omega)))
 replace KT := Lib.hid (KT.out.trans hk (fun hx0 hx hlt => by rcases List.mem_append.1 hx with hm | hm <;> (have e := blkOf_one hm; omega)))
 clear hk
 have hneg : decide (1 + (n : Int) + (m : Int) < 0) = false := decide_eq_false (by omega)
 have hpos : (0 : Int) ≤ 1 + (n : Int) + (m : Int) := by omega
 have tG0 := nG0.out
 have tG1 := nG1.out
 have tG2 := nG2.out
 have tG3 := nG3.out
 have tG4 := nG4.out
 have tW0 := nW0.out
 have tW1 := nW1.out
 have tW2 := nW2.out
 have tW3 := nW3.out
 have tW4 := nW4.out
 go_wp2_with fail
 clear tG0 tG1 tG2 tG3 tG4 tW0 tW1 tW2 tW3 tW4
 refine (eqSpanResult_yes _ _ _ _ _ _ _ _ _ _ _ _ _ _ _ _ S2a.out.rd S1a.out.rd S2b.out.rd S1b.out.rd).mono ?_
 rintro e ww13 ⟨rfl, hk⟩
 have z13 := hk.size
 have kq12 := Lib.hid hk
 clear hk
 replace nG0 := kc kq12.out nG0
 have tG0 := nG0.out
 replace nG1 := kc kq12.out nG1
 have tG1 := nG1.out
 replace nG2 := kc kq12.out nG2
 have tG2 := nG2.out
 replace nG3 := kc kq12.out nG3
 have tG3 := nG3.out
 replace nG4 := kc kq12.out nG4
 have tG4 := nG4.out
 go_wp2_with fail
 clear tG0 tG1 tG2 tG3 tG4
 replace S2a := Lib.hid (S2a.out.kept0 kq12.out)
 replace S2b := Lib.hid (S2b.out.kept0 kq12.out)
 refine (markSpanResult_any _ _ _ _ _ _ _ _ _ _ _ 1 _ S2a.out S2b.out NE2.out (by omega) (by omega) (by omega)).mono ?_
 rintro e ww14 ⟨rfl, hs, hs', hk⟩
 have SMa := Lib.hid hs
 have SMb := Lib.hid hs'
 clear hs hs'
 replace nAY0 := kc kq12.out nAY0
 replace nAY1 := kc kq12.out nAY1
 replace nAY2 := kc kq12.out nAY2
 replace nAY3 := kc kq12.out nAY3
 replace HRA := Lib.hid (HRA.out.kept0 kq12.out)
 replace HRB := Lib.hid (HRB.out.kept0 kq12.out)
 replace Ssa := Lib.hid (Ssa.out.kept0 kq12.out)
 replace Ssb := Lib.hid (Ssb.out.kept0 kq12.out)
 replace S1a := Lib.hid (S1a.out.kept0 kq12.out)
 replace S1b := Lib.hid (S1b.out.kept0 kq12.out)
 replace nW0 := kc kq12.out nW0
 replace nW1 := kc kq12.out nW1
 replace nW2 := kc kq12.out nW2
 replace nW3 := kc kq12.out nW3
 replace nW4 := kc kq12.out nW4
 replace nX00 := kc kq12.out nX00
 replace nX01 := kc kq12.out nX01
 replace nX02 := kc kq12.out nX02
 replace nX03 := kc kq12.out nX03
 replace KT := Lib.hid (KT.out.trans0 kq12.out)
 have z14 := hk.size
 replace nAY0 := Lib.hid (hk.cell (p := ⟨w.heap.size, 0, none⟩) nAY0.out (fun hm => by rcases List.mem_append.1 hm with hm | hm; (obtain ⟨hn2, u, hu, e⟩ := blkOf_mem hm; have h9 := F2a.out hn2 u hu; have h8 := f2a.out hn2 u hu; simp at e; omega); (obtain ⟨hn2, u, hu, e⟩ := blkOf_mem hm; have h9 := F2b.out hn2 u hu; have h8 := f2b.out hn2 u hu; simp at e; omega)))
 replace nAY1 := Lib.hid (hk.cell (p := ⟨w.heap.size, 1, none⟩) nAY1.out (fun hm => by rcases List.mem_append.1 hm with hm | hm; (obtain ⟨hn2, u, hu, e⟩ := blkOf_mem hm; have h9 := F2a.out hn2 u hu; have h8 := f2a.out hn2 u hu; simp at e; omega); (obtain ⟨hn2, u, hu, e⟩ := blkOf_mem hm; have h9 := F2b.out hn2 u hu; have h8 := f2b.out hn2 u hu; simp at e; omega)))
 replace nAY2 := Lib.hid (hk.cell (p := ⟨w.heap.size, 2, none⟩) nAY2.out (fun hm => by rcases List.mem_append.1 hm with hm | hm; (obtain ⟨hn2, u, hu, e⟩ := blkOf_mem hm; have h9 := F2a.out hn2 u hu; have h8 := f2a.out hn2 u hu; simp at e; omega); (obtain ⟨hn2, u, hu, e⟩ := blkOf_mem hm; have h9 := F2b.out hn2 u hu; have h8 := f2b.out hn2 u hu; simp at e; omega)))
 replace nAY3 := Lib.hid (hk.cell (p := ⟨w.heap.size, 3, none⟩) nAY3.out (fun hm => by rcases List.mem_append.1 hm with hm | hm; (obtain ⟨hn2, u, hu, e⟩ := blkOf_mem hm; have h9 := F2a.out hn2 u hu; have h8 := f2a.out hn2 u hu; simp at e; omega); (obtain ⟨hn2, u, hu, e⟩ := blkOf_mem hm; have h9 := F2b.out hn2 u hu; have h8 := f2b.out hn2 u hu; simp at e; omega)))
 replace HRA := Lib.hid (HRA.out.kept hk (fun hn y hy hm => by rcases List.mem_append.1 hm with hm | hm; (obtain ⟨hn2, u, hu, e⟩ := blkOf_mem hm; have h9 := F2a.out hn2 u hu; have h8 := f2a.out hn2 u hu; have h7 := FRA.out hn y hy; omega); (obtain ⟨hn2, u, hu, e⟩ := blkOf_mem hm; have h9 := F2b.out hn2 u hu; have h8 := f2b.out hn2 u hu; have h7 := FRA.out hn y hy; omega)))
 replace HRB := Lib.hid (HRB.out.kept hk (fun hn y hy hm => by rcases List.mem_append.1 hm with hm | hm; (obtain ⟨hn2, u, hu, e⟩ := blkOf_mem hm; have h9 := F2a.out hn2 u hu; have h8 := f2a.out hn2 u hu; have h7 := FRB.out hn y hy; omega); (obtain ⟨hn2, u, hu, e⟩ := blkOf_mem hm; have h9 := F2b.out hn2 u hu; have h8 := f2b.out hn2 u hu; have h7 := FRB.out hn y hy; omega)))
 replace Ssa := Lib.hid (Ssa.out.kept hk (fun hn y hy hm => by rcases List.mem_append.1 hm with hm | hm; (obtain ⟨hn2, u, hu, e⟩ := blkOf_mem hm; have h9 := F2a.out hn2 u hu; have h8 := f2a.out hn2 u hu; cases hy; simp at e; omega); (obtain ⟨hn2, u, hu, e⟩ := blkOf_mem hm; have h9 := F2b.out hn2 u hu; have h8 := f2b.out hn2 u hu; cases hy; simp at e; omega)))
 replace Ssb := Lib.hid (Ssb.out.kept hk (fun hn y hy hm => by rcases List.mem_append.1 hm with hm | hm; (obtain ⟨hn2, u, hu, e⟩ := blkOf_mem hm; have h9 := F2a.out hn2 u hu; have h8 := f2a.out hn2 u hu; cases hy; simp at e; omega); (obtain ⟨hn2, u, hu, e⟩ := blkOf_mem hm; have h9 := F2b.out hn2 u hu; have h8 := f2b.out hn2 u hu; cases hy; simp at e; omega)))
 replace S1a := Lib.hid (S1a.out.kept hk (fun hn y hy hm => by rcases List.mem_append.1 hm with hm | hm; (obtain ⟨hn2, u, hu, e⟩ := blkOf_mem hm; have h9 := F2a.out hn2 u hu; have h8 := f2a.out hn2 u hu; have h7 := f1a.out hn y hy; omega); (obtain ⟨hn2, u, hu, e⟩ := blkOf_mem hm; have h9 := F2b.out hn2 u hu; have h8 := f2b.out hn2 u hu; have h7 := f1a.out hn y hy; omega)))
 replace S1b := Lib.hid (S1b.out.kept hk (fun hn y hy hm => by rcases List.mem_append.1 hm with hm | hm; (obtain ⟨hn2, u, hu, e⟩ := blkOf_mem hm; have h9 := F2a.out hn2 u hu; have h8 := f2a.out hn2 u hu; have h7 := f1b.out hn y hy; omega); (obtain ⟨hn2, u, hu, e⟩ := blkOf_mem hm; have h9 := F2b.out hn2 u hu; have h8 := f2b.out hn2 u hu; have h7 := f1b.out hn y hy; omega)))
 replace nW0 := Lib.hid (hk.cell (p := ⟨ww3.heap.size, 0, none⟩) nW0.out (fun hm => by rcases List.mem_append.1 hm with hm | hm; (obtain ⟨hn2, u, hu, e⟩ := blkOf_mem hm; have h9 := F2a.out hn2 u hu; have h8 := f2a.out hn2 u hu; simp at e; omega); (obtain ⟨hn2, u, hu, e⟩ := blkOf_mem hm; have h9 := F2b.out hn2 u hu; have h8 := f2b.out hn2 u hu; simp at e; omega)))
 replace nW1 := Lib.hid (hk.cell (p := ⟨ww3.heap.size, 1, none⟩) nW1.out (fun hm => by rcases List.mem_append.1 hm with hm | hm; (obtain ⟨hn2, u, hu, e⟩ := blkOf_mem hm; have h9 := F2a.out hn2 u hu; have h8 := f2a.out hn2 u hu; simp at e; omega); (obtain ⟨hn2, u, hu, e⟩ := blkOf_mem hm; have h9 := F2b.out hn2 u hu; have h8 := f2b.out hn2 u hu; simp at e; omega)))
 replace nW2 := Lib.hid (hk.cell (p := ⟨ww3.heap.size, 2, none⟩) nW2.out (fun hm => by rcases List.mem_append.1 hm with hm | hm; (obtain ⟨hn2, u, hu, e⟩ := blkOf_mem hm; have h9 := F2a.out hn2 u hu; have h8 := f2a.out hn2 u hu; simp at e; omega); (obtain ⟨hn2, u, hu, e⟩ := blkOf_mem hm; have h9 := F2b.out hn2 u hu; have h8 := f2b.out hn2 u hu; simp at e; omega)))
 replace nW3 := Lib.hid (hk.cell (p := ⟨ww3.heap.size, 3, none⟩) nW3.out (fun hm => by rcases List.mem_append.1 hm with hm | hm; (obtain ⟨hn2, u, hu, e⟩ := blkOf_mem hm; have h9 := F2a.out hn2 u hu; have h8 := f2a.out hn2 u hu; simp at e; omega); (obtain ⟨hn2, u, hu, e⟩ := blkOf_mem hm; have h9 := F2b.out hn2 u hu; have h8 := f2b.out hn2 u hu; simp at e; omega)))
 replace nW4 := Lib.hid (hk.cell (p := ⟨ww3.heap.size, 4, none⟩) nW4.out (fun hm => by rcases List.mem_append.1 hm with hm | hm; (obtain ⟨hn2, u, hu, e⟩ := blkOf_mem hm; have h9 := F2a.out hn2 u hu; have h8 := f2a.out hn2 u hu; simp at e; omega); (obtain ⟨hn2, u, hu, e⟩ := blkOf_mem hm; have h9 := F2b.out hn2 u hu; have h8 := f2b.out hn2 u hu; simp at e; omega)))
 replace nX00 := Lib.hid (hk.cell (p := ⟨ww5.heap.size, 0, none⟩) nX00.out (fun hm => by rcases List.mem_append.1 hm with hm | hm; (obtain ⟨hn2, u, hu, e⟩ := blkOf_mem hm; have h9 := F2a.out hn2 u hu; have h8 := f2a.out hn2 u hu; simp at e; omega); (obtain ⟨hn2, u, hu, e⟩ := blkOf_mem hm; have h9 := F2b.out hn2 u hu; have h8 := f2b.out hn2 u hu; simp at e; omega)))
 replace nX01 := Lib.hid (hk.cell (p := ⟨ww5.heap.size, 1, none⟩) nX01.out (fun hm => by rcases List.mem_append.1 hm with hm | hm; (obtain ⟨hn2, u, hu, e⟩ := blkOf_mem hm; have h9 := F2a.out hn2 u hu; have h8 := f2a.out hn2 u hu; simp at e; omega); (obtain ⟨hn2, u, hu, e⟩ := blkOf_mem hm; have h9 := F2b.out hn2 u hu; have h8 := f2b.out hn2 u hu; simp at e; omega)))
 replace nX02 := Lib.hid (hk.cell (p := ⟨ww5.heap.size, 2, none⟩) nX02.out (fun hm => by rcases List.mem_append.1 hm with hm | hm; (obtain ⟨hn2, u, hu, e⟩ := blkOf_mem hm; have h9 := F2a.out hn2 u hu; have h8 := f2a.out hn2 u hu; simp at e; omega); (obtain ⟨hn2, u, hu, e⟩ := blkOf_mem hm; have h9 := F2b.out hn2 u hu; have h8 := f2b.out hn2 u hu; simp at e; omega)))
 replace nX03 := Lib.hid (hk.cell (p := ⟨ww5.heap.size, 3, none⟩) nX03.out (fun hm => by rcases List.mem_append.1 hm with hm | hm; (obtain ⟨hn2, u, hu, e⟩ := blkOf_mem hm; have h9 := F2a.out hn2 u hu; have h8 := f2a.out hn2 u hu; simp at e; omega); (obtain ⟨hn2, u, hu, e⟩ := blkOf_mem hm; have h9 := F2b.out hn2 u hu; have h8 := f2b.out hn2 u hu; simp at e; omega)))
 replace nG0 := Lib.hid (hk.cell (p := ⟨ww7.heap.size, 0, none⟩) nG0.out (fun hm => by rcases List.mem_append.1 hm with hm | hm; (obtain ⟨hn2, u, hu, e⟩ := blkOf_mem hm; have h9 := F2a.out hn2 u hu; have h8 := f2a.out hn2 u hu; simp at e; omega); (obtain ⟨hn2, u, hu, e⟩ := blkOf_mem hm; have h9 := F2b.out hn2 u hu; have h8 := f2b.out hn2 u hu; simp at e; omega)))
 replace nG1 := Lib.hid (hk.cell (p := ⟨ww7.heap.size, 1, none⟩) nG1.out (fun hm => by rcases List.mem_append.1 hm with hm | hm; (obtain ⟨hn2, u, hu, e⟩ := blkOf_mem hm; have h9 := F2a.out hn2 u hu; have h8 := f2a.out hn2 u hu; simp at e; omega); (obtain ⟨hn2, u, hu, e⟩ := blkOf_mem hm; have h9 := F2b.out hn2 u hu; have h8 := f2b.out hn2 u hu; simp at e; omega)))
 replace nG2 := Lib.hid (hk.cell (p := ⟨ww7.heap.size, 2, none⟩) nG2.out (fun hm => by rcases List.mem_append.1 hm with hm | hm; (obtain ⟨hn2, u, hu, e⟩ := blkOf_mem hm; have h9 := F2a.out hn2 u hu; have h8 := f2a.out hn2 u hu; simp at e; omega); (obtain ⟨hn2, u, hu, e⟩ := blkOf_mem hm; have h9 := F2b.out hn2 u hu; have h8 := f2b.out hn2 u hu; simp at e; omega)))
 replace nG3 := Lib.hid (hk.cell (p := ⟨ww7.heap.size, 3, none⟩) nG3.out (fun hm => by rcases List.mem_append.1 hm with hm | hm; (obtain ⟨hn2, u, hu, e⟩ := blkOf_mem hm; have h9 := F2a.out hn2 u hu; have h8 := f2a.out hn2 u hu; simp at e; omega); (obtain ⟨hn2, u, hu, e⟩ := blkOf_mem hm; have h9 := F2b.out hn2 u hu; have h8 := f2b.out hn2 u hu; simp at e; omega)))
 replace nG4 := Lib.hid (hk.cell (p := ⟨ww7.heap.size, 4, none⟩) nG4.out (fun hm => by rcases List.mem_append.1 hm with hm | hm; (obtain ⟨hn2, u, hu, e⟩ := blkOf_mem hm; have h9 := F2a.out hn2 u hu; have h8 := f2a.out hn2 u hu; simp at e; omega); (obtain ⟨hn2, u, hu, e⟩ := blkOf_mem hm; have h9 := F2b.out hn2 u hu; have h8 := f2b.out hn2 u hu; simp at e; omega)))
 replace KT := Lib.hid (KT.out.trans hk (fun hx0 hx hlt => by rcases List.mem_append.1 hx with hm | hm; (obtain ⟨hn2, u, hu, e⟩ := blkOf_mem hm; have h9 := F2a.out hn2 u hu; have h8 := f2a.out hn2 u hu; omega); (obtain ⟨hn2, u, hu, e⟩ := blkOf_mem hm; have h9 := F2b.out hn2 u hu; have h8 := f2b.out hn2 u hu; omega)))
 clear hk
 have hqn : decide (1 + ((mag rv.lo).length : Int) + ((mag rv.hi).length : Int) < 0) = false := decide_eq_false (by omega)
 have hq0 : (0 : Int) ≤ 1 + ((mag rv.lo).length : Int) + ((mag rv.hi).length : Int) := by omega
 have tG0 := nG0.out
 have tG1 := nG1.out
 have tG2 := nG2.out
 have tG3 := nG3.out
 have tG4 := nG4.out
 go_wp2_with fail
 clear tG0 tG1 tG2 tG3 tG4
 refine (heldSpanResult_any _ _ _ _ _ _ _ _ _ 1 _ SMa.out.rd SMb.out.rd (by omega) (by omega) (by omega)).mono ?_
 rintro e ww15 ⟨rfl, hk⟩
 have z15 := hk.size
 have kq13 := Lib.hid hk
 clear hk
 replace nAY0 := kc kq13.out nAY0
 have tAY0 := nAY0.out
 replace nAY1 := kc kq13.out nAY1
 have tAY1 := nAY1.out
 replace nAY2 := kc kq13.out nAY2
 have tAY2 := nAY2.out
 replace nAY3 := kc kq13.out nAY3
 have tAY3 := nAY3.out
 go_wp2_with fail
 clear tAY0 tAY1 tAY2 tAY3
 replace HRA := Lib.hid (HRA.out.kept0 kq13.out)
 replace HRB := Lib.hid (HRB.out.kept0 kq13.out)
 refine (toSpan_any _ _ _ _ _ _ _ _ _ _ _ HRA.out HRB.out (by omega) (by omega)).mono ?_
 rintro e ww16 ⟨gya, gyb, rfl, qy, oy, hb0, hb1, hk⟩
 rw [HLA.out]
 rw [HLB.out]
 have lya := hb0.lt
 have Sya := Lib.hid (sl_new hb0 HLA.out (by omega))
 have lyb := hb1.lt
 have Syb := Lib.hid (sl_new hb1 HLB.out (by omega))
 clear hb0 hb1
 have z16 := hk.size
 have kq14 := Lib.hid hk
 clear hk
 go_wp2_with fail
 refine (CosSpan_any P _ _ _ _ _ _ _ _ _ _ _ Sya.out Syb.out).mono ?_
 rintro e ww17 ⟨a4, c4, b4, d4, rfl, hs, hs', hf, hf', hne, hk⟩
 (try rw [← HV.out] at e0 e1 e2 e3 e4)
 rw [← HV.out] at hs hs' hf hf' hne
 (try rw [← HV.out])
 have S4a := Lib.hid hs
 have S4b := Lib.hid hs'
 have f4a := Lib.hid hs.lt
 have f4b := Lib.hid hs'.lt
 have F4a := Lib.hid hf
 have F4b := Lib.hid hf'
 have NE4 := Lib.hid hne
 clear hs hs' hf hf' hne
 have z17 := hk.size
 have kq15 := Lib.hid hk
 clear hk
 have kj11 := Lib.hid ((kq13.out.trans0 kq14.out).trans0 kq15.out)
 replace nW0 := kc kj11.out nW0
 have tW0 := alloc_cell (o := .cells #[.int .i64 rv.code, .bool (isNeg rv.lo), .slice a4 (mag rv.lo).length c4, .bool (isNeg rv.hi), .slice b4 (mag rv.hi).length d4] 28) nW0.out
 replace nW1 := kc kj11.out nW1
 have tW1 := alloc_cell (o := .cells #[.int .i64 rv.code, .bool (isNeg rv.lo), .slice a4 (mag rv.lo).length c4, .bool (isNeg rv.hi), .slice b4 (mag rv.hi).length d4] 28) nW1.out
 replace nW2 := kc kj11.out nW2
 have tW2 := alloc_cell (o := .cells #[.int .i64 rv.code, .bool (isNeg rv.lo), .slice a4 (mag rv.lo).length c4, .bool (isNeg rv.hi), .slice b4 (mag rv.hi).length d4] 28) nW2.out
 replace nW3 := kc kj11.out nW3
 have tW3 := alloc_cell (o := .cells #[.int .i64 rv.code, .bool (isNeg rv.lo), .slice a4 (mag rv.lo).length c4, .bool (isNeg rv.hi), .slice b4 (mag rv.hi).length d4] 28) nW3.out
 replace nW4 := kc kj11.out nW4
 have tW4 := alloc_cell (o := .cells #[.int .i64 rv.code, .bool (isNeg rv.lo), .slice a4 (mag rv.lo).length c4, .bool (isNeg rv.hi), .slice b4 (mag rv.hi).length d4] 28) nW4.out
 go_wp2_with fail
 clear tW0 tW1 tW2 tW3 tW4
 generalize hW : (ww17.alloc (.cells #[.int .i64 rv.code, .bool (isNeg rv.lo), .slice a4 (mag rv.lo).length c4, .bool (isNeg rv.hi), .slice b4 (mag rv.hi).length d4] 28)) = ww18
 have hk : Kept [] ww17 ww18 := by rw [← hW]; exact (Kept.refl [] _).alloc _
 have zzH : ww17.heap.size + 1 = ww18.heap.size := by rw [← hW]; simp
 have nH0 := Lib.hid (show ww18.cell? ⟨ww17.heap.size, 0, none⟩ = some (.int .i64 rv.code) by rw [← hW, World.cell?_alloc_new]; rfl)
 have nH1 := Lib.hid (show ww18.cell? ⟨ww17.heap.size, 1, none⟩ = some (.bool (isNeg rv.lo)) by rw [← hW, World.cell?_alloc_new]; rfl)
 have nH2 := Lib.hid (show ww18.cell? ⟨ww17.heap.size, 2, none⟩ = some (.slice a4 (mag rv.lo).length c4) by rw [← hW, World.cell?_alloc_new]; rfl)
 have nH3 := Lib.hid (show ww18.cell? ⟨ww17.heap.size, 3, none⟩ = some (.bool (isNeg rv.hi)) by rw [← hW, World.cell?_alloc_new]; rfl)
 have nH4 := Lib.hid (show ww18.cell? ⟨ww17.heap.size, 4, none⟩ = some (.slice b4 (mag rv.hi).length d4) by rw [← hW, World.cell?_alloc_new]; rfl)
 clear hW
 have z18 := hk.size
 have kq16 := Lib.hid hk
 clear hk
 have kj12 := Lib.hid (kj11.out.trans0 kq16.out)
 replace S1a := Lib.hid (S1a.out.kept0 kj12.out)
 replace S1b := Lib.hid (S1b.out.kept0 kj12.out)
 replace S4a := Lib.hid (S4a.out.kept0 kq16.out)
 replace S4b := Lib.hid (S4b.out.kept0 kq16.out)
 refine (eqSpanResult_yes _ _ _ _ _ _ _ _ _ _ _ _ _ _ _ _ S4a.out.rd S1a.out.rd S4b.out.rd S1b.out.rd).mono ?_
 rintro e ww19 ⟨rfl, hk⟩
 have z19 := hk.size
 have kq17 := Lib.hid hk
 clear hk
 have kj13 := Lib.hid (kj12.out.trans0 kq17.out)
 replace nG0 := kc kj13.out nG0
 have tG0 := nG0.out
 replace nG1 := kc kj13.out nG1
 have tG1 := nG1.out
 replace nG2 := kc kj13.out nG2
 have tG2 := nG2.out
 replace nG3 := kc kj13.out nG3
 have tG3 := nG3.out
 replace nG4 := kc kj13.out nG4
 have tG4 := nG4.out
 go_wp2_with fail
 clear tG0 tG1 tG2 tG3 tG4
 replace SMa := Lib.hid (SMa.out.kept0 kj13.out)
 replace SMb := Lib.hid (SMb.out.kept0 kj13.out)
 refine (heldSpanResult_any _ _ _ _ _ _ _ _ _ 1 _ SMa.out.rd SMb.out.rd (by omega) (by omega) (by omega)).mono ?_
 rintro e ww20 ⟨rfl, hk⟩
 have z20 := hk.size
 have kq18 := Lib.hid hk
 clear hk
 go_wp2_with fail
 go_ret
 have kj14 := Lib.hid (kj13.out.trans0 kq18.out)
 replace KT := Lib.hid (KT.out.trans0 kj14.out)
 exact ⟨rfl, KT.out⟩

end Go.Proofs.YtfafjijoeanbhaaGreat
