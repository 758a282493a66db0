/-
  The walk of the law on SpanFault. No condition but that the arguments' limbs read as lists of numbers.
-/
import Derived.Deep.RegionHeld3
import Derived.Deep.DrawnRows
import Derived.Deep.DeepCutAuto
import Derived.Test.YtaemfcllodmlkaaSpanB
namespace Go.Proofs.Ytaemfcllodmlkaa
open Go.RowKit
attribute [local go_sem ↓] Go.wp_at_zero Go.wp_at_succ

set_option maxHeartbeats 16000000 in
set_option maxRecDepth 100000 in
theorem FnExactSpanFault_walk (p : Bool) (a : Option Addr) (n c : Nat) (xs : List Int) (q : Bool) (b : Option Addr) (m d : Nat) (ys : List Int) (w : World) (hA : Rd w a n xs) (hB : Rd w b m ys) :
    Calls Try.prog 3 #[.agg #[.bool p, .slice a n c, .bool q, .slice b m d]] w (Ans w (.bool true)) := by
  have hmaxA := hA.2.1
  have HRA := Lib.hid hA
  have HLA := Lib.hid hA.1
  have FRA := Lib.hid hA.lt
  clear hA
  have hmaxB := hB.2.1
  have HRB := Lib.hid hB
  have HLB := Lib.hid hB.1
  have FRB := Lib.hid hB.lt
  clear hB
  by_cases eb0 : (1048576 : Int) < (n : Int)
  · skip
    go_enter Try.func3, Try.ntmps3
    go_wp2_with fail
    generalize hW : (w.alloc (.cells #[.bool p, .slice a n c, .bool q, .slice b m d] 26)) = ww0
    have hkk : Kept [] (w.alloc (.cells #[.bool p, .slice a n c, .bool q, .slice b m d] 26)) ww0 := by rw [hW]; exact Kept.refl _ _
    have zzA : w.heap.size + 1 = ww0.heap.size := by rw [← hW]; simp
    obtain ⟨⟨nAX0, nAX1, nAX2, nAX3⟩, _⟩ := tp4 hkk (g := w.heap.size) (by simp) (by simp)
    have hk := hkk.peel
    clear hkk hW
    have z0 := hk.size
    have KT := Lib.hid hk
    clear hk
    refine (szSpan_no1 _ _ _ _ _ _ _ _ _ _ eb0 (by omega) hmaxA).mono ?_
    rintro e ww1 ⟨rfl, hk⟩
    have z1 := hk.size
    replace nAX0 := kc hk nAX0
    replace nAX1 := kc hk nAX1
    replace nAX2 := kc hk nAX2
    replace nAX3 := kc hk nAX3
    replace KT := Lib.hid (KT.out.trans0 hk)
    clear hk
    go_wp2_with fail
    go_ret
    exact ⟨rfl, KT.out⟩
  replace eb0 : (n : Int) ≤ (1048576 : Int) := by omega
  by_cases eb1 : (1048576 : Int) - (n : Int) < (m : Int)
  · skip
    go_enter Try.func3, Try.ntmps3
    go_wp2_with fail
    generalize hW : (w.alloc (.cells #[.bool p, .slice a n c, .bool q, .slice b m d] 26)) = ww0
    have hkk : Kept [] (w.alloc (.cells #[.bool p, .slice a n c, .bool q, .slice b m d] 26)) ww0 := by rw [hW]; exact Kept.refl _ _
    have zzA : w.heap.size + 1 = ww0.heap.size := by rw [← hW]; simp
    obtain ⟨⟨nAX0, nAX1, nAX2, nAX3⟩, _⟩ := tp4 hkk (g := w.heap.size) (by simp) (by simp)
    have hk := hkk.peel
    clear hkk hW
    have z0 := hk.size
    have KT := Lib.hid hk
    clear hk
    refine (szSpan_no2 _ _ _ _ _ _ _ _ _ _ eb0 eb1 (by omega) hmaxB).mono ?_
    rintro e ww1 ⟨rfl, hk⟩
    have z1 := hk.size
    replace nAX0 := kc hk nAX0
    replace nAX1 := kc hk nAX1
    replace nAX2 := kc hk nAX2
    replace nAX3 := kc hk nAX3
    replace KT := Lib.hid (KT.out.trans0 hk)
    clear hk
    go_wp2_with fail
    go_ret
    exact ⟨rfl, KT.out⟩
  replace eb1 : (m : Int) ≤ (1048576 : Int) - (n : Int) := by omega
  have ng2 : decide ((1048576 : Int) - (n : Int) - (m : Int) < 0) = false := decide_eq_false (by omega)
  have np2 : (0 : Int) ≤ (1048576 : Int) - (n : Int) - (m : Int) := by omega
  have hsmA : n ≤ 1048576 := by omega
  have hsmB : m ≤ 1048576 := by omega
  go_enter Try.func3, Try.ntmps3
  go_wp2_with fail
  generalize hW : (w.alloc (.cells #[.bool p, .slice a n c, .bool q, .slice b m d] 26)) = ww0
  have hkk : Kept [] (w.alloc (.cells #[.bool p, .slice a n c, .bool q, .slice b m d] 26)) ww0 := by rw [hW]; exact Kept.refl _ _
  have zzA : w.heap.size + 1 = ww0.heap.size := by rw [← hW]; simp
  obtain ⟨⟨nAX0, nAX1, nAX2, nAX3⟩, _⟩ := tp4 hkk (g := w.heap.size) (by simp) (by simp)
  have hk := hkk.peel
  clear hkk hW
  have z0 := hk.size
  have KT := Lib.hid hk
  clear hk
  replace HRA := Lib.hid (HRA.out.kept0 KT.out)
  replace HRB := Lib.hid (HRB.out.kept0 KT.out)
  refine (szSpan_yes _ _ _ _ _ _ _ _ _ _ eb0 eb1 (by omega)).mono ?_
  rintro e ww1 ⟨rfl, hk⟩
  have z1 := hk.size
  replace nAX0 := kc hk nAX0
  replace nAX1 := kc hk nAX1
  replace nAX2 := kc hk nAX2
  replace nAX3 := kc hk nAX3
  replace HRA := Lib.hid (HRA.out.kept0 hk)
  replace HRB := Lib.hid (HRB.out.kept0 hk)
  replace KT := Lib.hid (KT.out.trans0 hk)
  clear hk
  have tAX0 := nAX0.out
  have tAX1 := nAX1.out
  have tAX2 := nAX2.out
  have tAX3 := nAX3.out
  go_wp2_with fail
  clear tAX0 tAX1 tAX2 tAX3
  refine (toSpan_any _ _ _ _ _ _ _ _ _ _ _ HRA.out HRB.out (by omega) (by omega)).mono ?_
  rintro e ww2 ⟨gsa, gsb, rfl, qs, os, hb0, hb1, hk⟩
  rw [HLA.out]
  rw [HLB.out]
  have lsa := hb0.lt
  have Ssa := Lib.hid (sl_new hb0 HLA.out (by omega))
  have lsb := hb1.lt
  have Ssb := Lib.hid (sl_new hb1 HLB.out (by omega))
  clear hb0 hb1
  have z2 := hk.size
  replace nAX0 := kc hk nAX0
  replace nAX1 := kc hk nAX1
  replace nAX2 := kc hk nAX2
  replace nAX3 := kc hk nAX3
  replace HRA := Lib.hid (HRA.out.kept0 hk)
  replace HRB := Lib.hid (HRB.out.kept0 hk)
  replace KT := Lib.hid (KT.out.trans0 hk)
  clear hk
  go_wp2_with fail
  refine (sSpanFault_any _ _ _ _ _ _ _ _ _ _ _ Ssa.out Ssb.out).mono ?_
  rintro e ww3 ⟨rfl, hk⟩
  obtain ⟨v, hv⟩ : ∃ v : Int, v = spanFault p xs q ys := ⟨_, rfl⟩
  rw [← hv]
  have HV := Lib.hid hv
  clear hv
  have z3 := hk.size
  replace nAX0 := kc hk nAX0
  replace nAX1 := kc hk nAX1
  replace nAX2 := kc hk nAX2
  replace nAX3 := kc hk nAX3
  replace HRA := Lib.hid (HRA.out.kept0 hk)
  replace HRB := Lib.hid (HRB.out.kept0 hk)
  replace Ssa := Lib.hid (Ssa.out.kept0 hk)
  replace Ssb := Lib.hid (Ssb.out.kept0 hk)
  replace KT := Lib.hid (KT.out.trans0 hk)
  clear hk
  have tAX0 := nAX0.out
  have tAX1 := nAX1.out
  have tAX2 := nAX2.out
  have tAX3 := nAX3.out
  go_wp2_with fail
  clear tAX0 tAX1 tAX2 tAX3
  refine (toSpan_any _ _ _ _ _ _ _ _ _ _ _ HRA.out HRB.out (by omega) (by omega)).mono ?_
  rintro e ww4 ⟨gx0a, gx0b, rfl, qx0, ox0, hb0, hb1, hk⟩
  rw [HLA.out]
  rw [HLB.out]
  have lx0a := hb0.lt
  have Sx0a := Lib.hid (sl_new hb0 HLA.out (by omega))
  have lx0b := hb1.lt
  have Sx0b := Lib.hid (sl_new hb1 HLB.out (by omega))
  clear hb0 hb1
  have z4 := hk.size
  replace nAX0 := kc hk nAX0
  replace nAX1 := kc hk nAX1
  replace nAX2 := kc hk nAX2
  replace nAX3 := kc hk nAX3
  replace HRA := Lib.hid (HRA.out.kept0 hk)
  replace HRB := Lib.hid (HRB.out.kept0 hk)
  replace Ssa := Lib.hid (Ssa.out.kept0 hk)
  replace Ssb := Lib.hid (Ssb.out.kept0 hk)
  replace KT := Lib.hid (KT.out.trans0 hk)
  clear hk
  go_wp2_with fail
  generalize hW : (ww4.alloc (.cells #[.bool p, .slice (some ⟨gx0a, 0, none⟩) n n, .bool q, .slice (some ⟨gx0b, 0, none⟩) m m] 31)) = ww5
  have hk : Kept [] ww4 ww5 := by rw [← hW]; exact (Kept.refl [] _).alloc _
  have zzX0 : ww4.heap.size + 1 = ww5.heap.size := by rw [← hW]; simp
  have nX00 := Lib.hid (show ww5.cell? ⟨ww4.heap.size, 0, none⟩ = some (.bool p) by rw [← hW, World.cell?_alloc_new]; rfl)
  have nX01 := Lib.hid (show ww5.cell? ⟨ww4.heap.size, 1, none⟩ = some (.slice (some ⟨gx0a, 0, none⟩) n n) by rw [← hW, World.cell?_alloc_new]; rfl)
  have nX02 := Lib.hid (show ww5.cell? ⟨ww4.heap.size, 2, none⟩ = some (.bool q) by rw [← hW, World.cell?_alloc_new]; rfl)
  have nX03 := Lib.hid (show ww5.cell? ⟨ww4.heap.size, 3, none⟩ = some (.slice (some ⟨gx0b, 0, none⟩) m m) by rw [← hW, World.cell?_alloc_new]; rfl)
  clear hW
  have z5 := hk.size
  replace nAX0 := kc hk nAX0
  replace nAX1 := kc hk nAX1
  replace nAX2 := kc hk nAX2
  replace nAX3 := kc hk nAX3
  replace HRA := Lib.hid (HRA.out.kept0 hk)
  replace HRB := Lib.hid (HRB.out.kept0 hk)
  replace Ssa := Lib.hid (Ssa.out.kept0 hk)
  replace Ssb := Lib.hid (Ssb.out.kept0 hk)
  replace Sx0a := Lib.hid (Sx0a.out.kept0 hk)
  replace Sx0b := Lib.hid (Sx0b.out.kept0 hk)
  replace KT := Lib.hid (KT.out.trans0 hk)
  clear hk
  refine (SpanFault_any _ _ _ _ _ _ _ _ _ _ _ Sx0a.out Sx0b.out).mono ?_
  rintro e ww6 ⟨rfl, hk⟩
  rw [← HV.out]
  have z6 := hk.size
  replace nAX0 := kc hk nAX0
  replace nAX1 := kc hk nAX1
  replace nAX2 := kc hk nAX2
  replace nAX3 := kc hk nAX3
  replace HRA := Lib.hid (HRA.out.kept0 hk)
  replace HRB := Lib.hid (HRB.out.kept0 hk)
  replace Ssa := Lib.hid (Ssa.out.kept0 hk)
  replace Ssb := Lib.hid (Ssb.out.kept0 hk)
  replace Sx0a := Lib.hid (Sx0a.out.kept0 hk)
  replace Sx0b := Lib.hid (Sx0b.out.kept0 hk)
  replace nX00 := kc hk nX00
  replace nX01 := kc hk nX01
  replace nX02 := kc hk nX02
  replace nX03 := kc hk nX03
  replace KT := Lib.hid (KT.out.trans0 hk)
  clear hk
  have tX00 := nX00.out
  have tX01 := nX01.out
  have tX02 := nX02.out
  have tX03 := nX03.out
  have tAX0 := nAX0.out
  have tAX1 := nAX1.out
  have tAX2 := nAX2.out
  have tAX3 := nAX3.out
  go_wp2_with fail
  clear tX00 tX01 tX02 tX03 tAX0 tAX1 tAX2 tAX3
  have tX00 := nX00.out
  have tX01 := nX01.out
  have tX02 := nX02.out
  have tX03 := nX03.out
  have tAX0 := nAX0.out
  have tAX1 := nAX1.out
  have tAX2 := nAX2.out
  have tAX3 := nAX3.out
  go_region_held3 (fun w' => w'.cell? ⟨ww4.heap.size, 0, none⟩ = some (.bool p) ∧ w'.cell? ⟨ww4.heap.size, 1, none⟩ = some (.slice (some ⟨gx0a, 0, none⟩) n n) ∧ w'.cell? ⟨ww4.heap.size, 2, none⟩ = some (.bool q) ∧ w'.cell? ⟨ww4.heap.size, 3, none⟩ = some (.slice (some ⟨gx0b, 0, none⟩) m m) ∧ w'.cell? ⟨w.heap.size, 0, none⟩ = some (.bool p) ∧ w'.cell? ⟨w.heap.size, 1, none⟩ = some (.slice a n c) ∧ w'.cell? ⟨w.heap.size, 2, none⟩ = some (.bool q) ∧ w'.cell? ⟨w.heap.size, 3, none⟩ = some (.slice b m d) ∧ Hid (Kept [] ww6 w'))
    ((go_split_ands; (try refine ⟨?_, ?_, ?_, ?_, ?_, ?_, ?_, ?_, ?_⟩) <;> with_reducible first | exact Lib.hid ((Kept.refl _ _).drew) | exact drew_cell (by assumption) | exact Kept.allocH (by assumption) | exact alloc_cell (by assumption) | exact Lib.hid (Kept.trans0 (Hid.out (by assumption)) (by assumption)) | exact Kept.cell (by assumption) (by assumption) (by simp)))
    (first
      | (go_at_call 11; go_split_ands; refine (toSpan_any _ _ _ _ _ _ _ _ _ _ _ (HRA.out.kept0 (Kept.refl [] _).drew) (HRB.out.kept0 (Kept.refl [] _).drew) (by omega) (by omega)).mono ?_; rintro e v7 ⟨ge0a, ge0b, rfl, qe0, oe0, hb0, hb1, hk1⟩; rw [HLA.out]; rw [HLB.out])
      | (go_at_call 13; go_split_ands; refine (eqSpan_yes _ _ _ _ _ _ _ _ _ _ _ _ _ _ _ (((Sx0a.out.kept0 (Kept.refl [] _).drew).kept0 hk1).rd) (rd_new hb0 HLA.out (by omega)) (((Sx0b.out.kept0 (Kept.refl [] _).drew).kept0 hk1).rd) (rd_new hb1 HLB.out (by omega))).mono ?_; rintro e v8 ⟨rfl, hk2⟩))
  clear tX00 tX01 tX02 tX03 tAX0 tAX1 tAX2 tAX3
  have hk := ((Kept.refl [] ww6).drew.trans0 hk1).trans0 hk2
  clear hk1 hk2 hb0 hb1
  have z8 := hk.size
  replace nAX0 := kc hk nAX0
  replace nAX1 := kc hk nAX1
  replace nAX2 := kc hk nAX2
  replace nAX3 := kc hk nAX3
  replace HRA := Lib.hid (HRA.out.kept0 hk)
  replace HRB := Lib.hid (HRB.out.kept0 hk)
  replace Ssa := Lib.hid (Ssa.out.kept0 hk)
  replace Ssb := Lib.hid (Ssb.out.kept0 hk)
  replace Sx0a := Lib.hid (Sx0a.out.kept0 hk)
  replace Sx0b := Lib.hid (Sx0b.out.kept0 hk)
  replace nX00 := kc hk nX00
  replace nX01 := kc hk nX01
  replace nX02 := kc hk nX02
  replace nX03 := kc hk nX03
  replace KT := Lib.hid (KT.out.trans0 hk)
  clear hk
  go_wp2_with fail
  go_ret
  exact ⟨rfl, KT.out⟩

end Go.Proofs.Ytaemfcllodmlkaa
