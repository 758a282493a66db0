/-
  The walk of the law on IsWithin. No condition but that the arguments' limbs read as lists of numbers.
-/
import Derived.Deep.RegionHeld3
import Derived.Deep.DrawnRows
import Derived.Deep.DeepCutAuto
import Derived.Test.YtaemfcllodmlkaaSpanD
namespace Go.Proofs.Ytaemfcllodmlkaa
open Go.RowKit
attribute [local go_sem ↓] Go.wp_at_zero Go.wp_at_succ

set_option maxHeartbeats 16000000 in
set_option maxRecDepth 100000 in
theorem FnExactIsWithin_walk (p : Bool) (a : Option Addr) (n c : Nat) (xs : List Int) (q : Bool) (b : Option Addr) (m d : Nat) (ys : List Int) (p' : Bool) (a' : Option Addr) (n' c' : Nat) (xs' : List Int) (q' : Bool) (b' : Option Addr) (m' d' : Nat) (ys' : List Int) (w : World) (hA : Rd w a n xs) (hB : Rd w b m ys) (hC : Rd w a' n' xs') (hD : Rd w b' m' ys') :
    Calls Try.prog 8 #[.agg #[.bool p, .slice a n c, .bool q, .slice b m d], .agg #[.bool p', .slice a' n' c', .bool q', .slice b' m' d']] w (Ans w (.bool true)) := by
  have hmaxA := hA.2.1
  have HRA := Lib.hid hA
  have HLA := Lib.hid hA.1
  have FRA := Lib.hid hA.lt
  clear hA
  have hmaxB := hB.2.1
  have HRB := Lib.hid hB
  have HLB := Lib.hid hB.1
  have FRB := Lib.hid hB.lt
  clear hB
  have hmaxC := hC.2.1
  have HRC := Lib.hid hC
  have HLC := Lib.hid hC.1
  have FRC := Lib.hid hC.lt
  clear hC
  have hmaxD := hD.2.1
  have HRD := Lib.hid hD
  have HLD := Lib.hid hD.1
  have FRD := Lib.hid hD.lt
  clear hD
  by_cases eb0 : (1048576 : Int) < (n : Int)
  · skip
    go_enter Try.func8, Try.ntmps8
    go_wp2_with fail
    generalize hW : ((w.alloc (.cells #[.bool p, .slice a n c, .bool q, .slice b m d] 26)).alloc (.cells #[.bool p', .slice a' n' c', .bool q', .slice b' m' d'] 26)) = ww0
    have hkk : Kept [] ((w.alloc (.cells #[.bool p, .slice a n c, .bool q, .slice b m d] 26)).alloc (.cells #[.bool p', .slice a' n' c', .bool q', .slice b' m' d'] 26)) ww0 := by rw [hW]; exact Kept.refl _ _
    have zzA : w.heap.size + 1 + 1 = ww0.heap.size := by rw [← hW]; simp
    obtain ⟨⟨nAX0, nAX1, nAX2, nAX3⟩, _⟩ := tp4 hkk.peel (g := w.heap.size) (by simp) (by simp)
    obtain ⟨⟨nAY0, nAY1, nAY2, nAY3⟩, _⟩ := tp4 hkk (g := w.heap.size + 1) (by simp) (by simp)
    have hk := hkk.peel.peel
    clear hkk hW
    have z0 := hk.size
    have KT := Lib.hid hk
    clear hk
    refine (szSpan_no1 _ _ _ _ _ _ _ _ _ _ eb0 (by omega) hmaxA).mono ?_
    rintro e ww1 ⟨rfl, hk⟩
    have z1 := hk.size
    replace nAX0 := kc hk nAX0
    replace nAX1 := kc hk nAX1
    replace nAX2 := kc hk nAX2
    replace nAX3 := kc hk nAX3
    replace nAY0 := kc hk nAY0
    replace nAY1 := kc hk nAY1
    replace nAY2 := kc hk nAY2
    replace nAY3 := kc hk nAY3
    replace KT := Lib.hid (KT.out.trans0 hk)
    clear hk
    go_wp2_with fail
    go_ret
    exact ⟨rfl, KT.out⟩
  replace eb0 : (n : Int) ≤ (1048576 : Int) := by omega
  by_cases eb1 : (1048576 : Int) - (n : Int) < (m : Int)
  · skip
    go_enter Try.func8, Try.ntmps8
    go_wp2_with fail
    generalize hW : ((w.alloc (.cells #[.bool p, .slice a n c, .bool q, .slice b m d] 26)).alloc (.cells #[.bool p', .slice a' n' c', .bool q', .slice b' m' d'] 26)) = ww0
    have hkk : Kept [] ((w.alloc (.cells #[.bool p, .slice a n c, .bool q, .slice b m d] 26)).alloc (.cells #[.bool p', .slice a' n' c', .bool q', .slice b' m' d'] 26)) ww0 := by rw [hW]; exact Kept.refl _ _
    have zzA : w.heap.size + 1 + 1 = ww0.heap.size := by rw [← hW]; simp
    obtain ⟨⟨nAX0, nAX1, nAX2, nAX3⟩, _⟩ := tp4 hkk.peel (g := w.heap.size) (by simp) (by simp)
    obtain ⟨⟨nAY0, nAY1, nAY2, nAY3⟩, _⟩ := tp4 hkk (g := w.heap.size + 1) (by simp) (by simp)
    have hk := hkk.peel.peel
    clear hkk hW
    have z0 := hk.size
    have KT := Lib.hid hk
    clear hk
    refine (szSpan_no2 _ _ _ _ _ _ _ _ _ _ eb0 eb1 (by omega) hmaxB).mono ?_
    rintro e ww1 ⟨rfl, hk⟩
    have z1 := hk.size
    replace nAX0 := kc hk nAX0
    replace nAX1 := kc hk nAX1
    replace nAX2 := kc hk nAX2
    replace nAX3 := kc hk nAX3
    replace nAY0 := kc hk nAY0
    replace nAY1 := kc hk nAY1
    replace nAY2 := kc hk nAY2
    replace nAY3 := kc hk nAY3
    replace KT := Lib.hid (KT.out.trans0 hk)
    clear hk
    go_wp2_with fail
    go_ret
    exact ⟨rfl, KT.out⟩
  replace eb1 : (m : Int) ≤ (1048576 : Int) - (n : Int) := by omega
  by_cases eb2 : (1048576 : Int) - (n : Int) - (m : Int) < (n' : Int)
  · skip
    have ng2 : decide ((1048576 : Int) - (n : Int) - (m : Int) < 0) = false := decide_eq_false (by omega)
    have np2 : (0 : Int) ≤ (1048576 : Int) - (n : Int) - (m : Int) := by omega
    go_enter Try.func8, Try.ntmps8
    go_wp2_with fail
    generalize hW : ((w.alloc (.cells #[.bool p, .slice a n c, .bool q, .slice b m d] 26)).alloc (.cells #[.bool p', .slice a' n' c', .bool q', .slice b' m' d'] 26)) = ww0
    have hkk : Kept [] ((w.alloc (.cells #[.bool p, .slice a n c, .bool q, .slice b m d] 26)).alloc (.cells #[.bool p', .slice a' n' c', .bool q', .slice b' m' d'] 26)) ww0 := by rw [hW]; exact Kept.refl _ _
    have zzA : w.heap.size + 1 + 1 = ww0.heap.size := by rw [← hW]; simp
    obtain ⟨⟨nAX0, nAX1, nAX2, nAX3⟩, _⟩ := tp4 hkk.peel (g := w.heap.size) (by simp) (by simp)
    obtain ⟨⟨nAY0, nAY1, nAY2, nAY3⟩, _⟩ := tp4 hkk (g := w.heap.size + 1) (by simp) (by simp)
    have hk := hkk.peel.peel
    clear hkk hW
    have z0 := hk.size
    have KT := Lib.hid hk
    clear hk
    refine (szSpan_yes _ _ _ _ _ _ _ _ _ _ eb0 eb1 (by omega)).mono ?_
    rintro e ww1 ⟨rfl, hk⟩
    have z1 := hk.size
    replace nAX0 := kc hk nAX0
    replace nAX1 := kc hk nAX1
    replace nAX2 := kc hk nAX2
    replace nAX3 := kc hk nAX3
    replace nAY0 := kc hk nAY0
    replace nAY1 := kc hk nAY1
    replace nAY2 := kc hk nAY2
    replace nAY3 := kc hk nAY3
    replace KT := Lib.hid (KT.out.trans0 hk)
    clear hk
    have tAY0 := nAY0.out
    have tAY1 := nAY1.out
    have tAY2 := nAY2.out
    have tAY3 := nAY3.out
    go_wp2_with fail
    clear tAY0 tAY1 tAY2 tAY3
    refine (szSpan_no1 _ _ _ _ _ _ _ _ _ _ eb2 (by omega) hmaxC).mono ?_
    rintro e ww2 ⟨rfl, hk⟩
    have z2 := hk.size
    replace nAX0 := kc hk nAX0
    replace nAX1 := kc hk nAX1
    replace nAX2 := kc hk nAX2
    replace nAX3 := kc hk nAX3
    replace nAY0 := kc hk nAY0
    replace nAY1 := kc hk nAY1
    replace nAY2 := kc hk nAY2
    replace nAY3 := kc hk nAY3
    replace KT := Lib.hid (KT.out.trans0 hk)
    clear hk
    go_wp2_with fail
    go_ret
    exact ⟨rfl, KT.out⟩
  replace eb2 : (n' : Int) ≤ (1048576 : Int) - (n : Int) - (m : Int) := by omega
  by_cases eb3 : (1048576 : Int) - (n : Int) - (m : Int) - (n' : Int) < (m' : Int)
  · skip
    have ng2 : decide ((1048576 : Int) - (n : Int) - (m : Int) < 0) = false := decide_eq_false (by omega)
    have np2 : (0 : Int) ≤ (1048576 : Int) - (n : Int) - (m : Int) := by omega
    go_enter Try.func8, Try.ntmps8
    go_wp2_with fail
    generalize hW : ((w.alloc (.cells #[.bool p, .slice a n c, .bool q, .slice b m d] 26)).alloc (.cells #[.bool p', .slice a' n' c', .bool q', .slice b' m' d'] 26)) = ww0
    have hkk : Kept [] ((w.alloc (.cells #[.bool p, .slice a n c, .bool q, .slice b m d] 26)).alloc (.cells #[.bool p', .slice a' n' c', .bool q', .slice b' m' d'] 26)) ww0 := by rw [hW]; exact Kept.refl _ _
    have zzA : w.heap.size + 1 + 1 = ww0.heap.size := by rw [← hW]; simp
    obtain ⟨⟨nAX0, nAX1, nAX2, nAX3⟩, _⟩ := tp4 hkk.peel (g := w.heap.size) (by simp) (by simp)
    obtain ⟨⟨nAY0, nAY1, nAY2, nAY3⟩, _⟩ := tp4 hkk (g := w.heap.size + 1) (by simp) (by simp)
    have hk := hkk.peel.peel
    clear hkk hW
    have z0 := hk.size
    have KT := Lib.hid hk
    clear hk
    refine (szSpan_yes _ _ _ _ _ _ _ _ _ _ eb0 eb1 (by omega)).mono ?_
    rintro e ww1 ⟨rfl, hk⟩
    have z1 := hk.size
    replace nAX0 := kc hk nAX0
    replace nAX1 := kc hk nAX1
    replace nAX2 := kc hk nAX2
    replace nAX3 := kc hk nAX3
    replace nAY0 := kc hk nAY0
    replace nAY1 := kc hk nAY1
    replace nAY2 := kc hk nAY2
    replace nAY3 := kc hk nAY3
    replace KT := Lib.hid (KT.out.trans0 hk)
    clear hk
    have tAY0 := nAY0.out
    have tAY1 := nAY1.out
    have tAY2 := nAY2.out
    have tAY3 := nAY3.out
    go_wp2_with fail
    clear tAY0 tAY1 tAY2 tAY3
    refine (szSpan_no2 _ _ _ _ _ _ _ _ _ _ eb2 eb3 (by omega) hmaxD).mono ?_
    rintro e ww2 ⟨rfl, hk⟩
    have z2 := hk.size
    replace nAX0 := kc hk nAX0
    replace nAX1 := kc hk nAX1
    replace nAX2 := kc hk nAX2
    replace nAX3 := kc hk nAX3
    replace nAY0 := kc hk nAY0
    replace nAY1 := kc hk nAY1
    replace nAY2 := kc hk nAY2
    replace nAY3 := kc hk nAY3
    replace KT := Lib.hid (KT.out.trans0 hk)
    clear hk
    go_wp2_with fail
    go_ret
    exact ⟨rfl, KT.out⟩
  replace eb3 : (m' : Int) ≤ (1048576 : Int) - (n : Int) - (m : Int) - (n' : Int) := by omega
  have ng2 : decide ((1048576 : Int) - (n : Int) - (m : Int) < 0) = false := decide_eq_false (by omega)
  have np2 : (0 : Int) ≤ (1048576 : Int) - (n : Int) - (m : Int) := by omega
  have ng4 : decide ((1048576 : Int) - (n : Int) - (m : Int) - (n' : Int) - (m' : Int) < 0) = false := decide_eq_false (by omega)
  have np4 : (0 : Int) ≤ (1048576 : Int) - (n : Int) - (m : Int) - (n' : Int) - (m' : Int) := by omega
  have hsmA : n ≤ 1048576 := by omega
  have hsmB : m ≤ 1048576 := by omega
  have hsmC : n' ≤ 1048576 := by omega
  have hsmD : m' ≤ 1048576 := by omega
  go_enter Try.func8, Try.ntmps8
  go_wp2_with fail
  generalize hW : ((w.alloc (.cells #[.bool p, .slice a n c, .bool q, .slice b m d] 26)).alloc (.cells #[.bool p', .slice a' n' c', .bool q', .slice b' m' d'] 26)) = ww0
  have hkk : Kept [] ((w.alloc (.cells #[.bool p, .slice a n c, .bool q, .slice b m d] 26)).alloc (.cells #[.bool p', .slice a' n' c', .bool q', .slice b' m' d'] 26)) ww0 := by rw [hW]; exact Kept.refl _ _
  have zzA : w.heap.size + 1 + 1 = ww0.heap.size := by rw [← hW]; simp
  obtain ⟨⟨nAX0, nAX1, nAX2, nAX3⟩, _⟩ := tp4 hkk.peel (g := w.heap.size) (by simp) (by simp)
  obtain ⟨⟨nAY0, nAY1, nAY2, nAY3⟩, _⟩ := tp4 hkk (g := w.heap.size + 1) (by simp) (by simp)
  have hk := hkk.peel.peel
  clear hkk hW
  have z0 := hk.size
  have KT := Lib.hid hk
  clear hk
  replace HRA := Lib.hid (HRA.out.kept0 KT.out)
  replace HRB := Lib.hid (HRB.out.kept0 KT.out)
  replace HRC := Lib.hid (HRC.out.kept0 KT.out)
  replace HRD := Lib.hid (HRD.out.kept0 KT.out)
  refine (szSpan_yes _ _ _ _ _ _ _ _ _ _ eb0 eb1 (by omega)).mono ?_
  rintro e ww1 ⟨rfl, hk⟩
  have z1 := hk.size
  replace nAX0 := kc hk nAX0
  replace nAX1 := kc hk nAX1
  replace nAX2 := kc hk nAX2
  replace nAX3 := kc hk nAX3
  replace nAY0 := kc hk nAY0
  replace nAY1 := kc hk nAY1
  replace nAY2 := kc hk nAY2
  replace nAY3 := kc hk nAY3
  replace HRA := Lib.hid (HRA.out.kept0 hk)
  replace HRB := Lib.hid (HRB.out.kept0 hk)
  replace HRC := Lib.hid (HRC.out.kept0 hk)
  replace HRD := Lib.hid (HRD.out.kept0 hk)
  replace KT := Lib.hid (KT.out.trans0 hk)
  clear hk
  have tAY0 := nAY0.out
  have tAY1 := nAY1.out
  have tAY2 := nAY2.out
  have tAY3 := nAY3.out
  go_wp2_with fail
  clear tAY0 tAY1 tAY2 tAY3
  refine (szSpan_yes _ _ _ _ _ _ _ _ _ _ eb2 eb3 (by omega)).mono ?_
  rintro e ww2 ⟨rfl, hk⟩
  have z2 := hk.size
  replace nAX0 := kc hk nAX0
  replace nAX1 := kc hk nAX1
  replace nAX2 := kc hk nAX2
  replace nAX3 := kc hk nAX3
  replace nAY0 := kc hk nAY0
  replace nAY1 := kc hk nAY1
  replace nAY2 := kc hk nAY2
  replace nAY3 := kc hk nAY3
  replace HRA := Lib.hid (HRA.out.kept0 hk)
  replace HRB := Lib.hid (HRB.out.kept0 hk)
  replace HRC := Lib.hid (HRC.out.kept0 hk)
  replace HRD := Lib.hid (HRD.out.kept0 hk)
  replace KT := Lib.hid (KT.out.trans0 hk)
  clear hk
  have tAX0 := nAX0.out
  have tAX1 := nAX1.out
  have tAX2 := nAX2.out
  have tAX3 := nAX3.out
  have tAY0 := nAY0.out
  have tAY1 := nAY1.out
  have tAY2 := nAY2.out
  have tAY3 := nAY3.out
  go_wp2_with fail
  clear tAX0 tAX1 tAX2 tAX3 tAY0 tAY1 tAY2 tAY3
  have tAX0 := nAX0.out
  have tAX1 := nAX1.out
  have tAX2 := nAX2.out
  have tAX3 := nAX3.out
  have tAY0 := nAY0.out
  have tAY1 := nAY1.out
  have tAY2 := nAY2.out
  have tAY3 := nAY3.out
  go_region_held3 (fun w' => w'.cell? ⟨w.heap.size, 0, none⟩ = some (.bool p) ∧ w'.cell? ⟨w.heap.size, 1, none⟩ = some (.slice a n c) ∧ w'.cell? ⟨w.heap.size, 2, none⟩ = some (.bool q) ∧ w'.cell? ⟨w.heap.size, 3, none⟩ = some (.slice b m d) ∧ w'.cell? ⟨w.heap.size + 1, 0, none⟩ = some (.bool p') ∧ w'.cell? ⟨w.heap.size + 1, 1, none⟩ = some (.slice a' n' c') ∧ w'.cell? ⟨w.heap.size + 1, 2, none⟩ = some (.bool q') ∧ w'.cell? ⟨w.heap.size + 1, 3, none⟩ = some (.slice b' m' d') ∧ Hid (Kept [] ww2 w'))
    ((go_split_ands; (try refine ⟨?_, ?_, ?_, ?_, ?_, ?_, ?_, ?_, ?_⟩) <;> with_reducible first | exact Lib.hid ((Kept.refl _ _).drew) | exact drew_cell (by assumption) | exact Kept.allocH (by assumption) | exact alloc_cell (by assumption) | exact Lib.hid (Kept.trans0 (Hid.out (by assumption)) (by assumption)) | exact Kept.cell (by assumption) (by assumption) (by simp)))
    (first
      | (go_at_call_of 11 (Value.agg #[Value.bool p, Value.slice a n c, Value.bool q, Value.slice b m d]); go_split_ands; refine (toSpan_any _ _ _ _ _ _ _ _ _ _ _ (HRA.out.kept0 ((Kept.refl [] _).drew)) (HRB.out.kept0 ((Kept.refl [] _).drew)) (by omega) (by omega)).mono ?_; rintro e v3 ⟨gs0a, gs0b, rfl, qs0, os0, hb00, hb01, hk0⟩; rw [HLA.out]; rw [HLB.out])
      | (go_at_call_of 11 (Value.agg #[Value.bool p', Value.slice a' n' c', Value.bool q', Value.slice b' m' d']); go_split_ands; refine (toSpan_any _ _ _ _ _ _ _ _ _ _ _ (HRC.out.kept0 ((Kept.refl [] _).drew.trans0 hk0)) (HRD.out.kept0 ((Kept.refl [] _).drew.trans0 hk0)) (by omega) (by omega)).mono ?_; rintro e v4 ⟨gs1a, gs1b, rfl, qs1, os1, hb10, hb11, hk1⟩; rw [HLC.out]; rw [HLD.out])
      | (go_at_call 26; go_split_ands; refine (sIsWithin_any _ _ _ _ _ _ _ _ _ _ _ _ _ _ _ _ _ _ _ _ _ (sl_new (hk1.blk hb00 (by simp)) HLA.out (by omega)) (sl_new (hk1.blk hb01 (by simp)) HLB.out (by omega)) (sl_new hb10 HLC.out (by omega)) (sl_new hb11 HLD.out (by omega))).mono ?_; rintro e v5 ⟨rfl, hkc⟩))
  clear tAX0 tAX1 tAX2 tAX3 tAY0 tAY1 tAY2 tAY3
  have hk := ((((Kept.refl [] ww2).drew).trans0 hk0).trans0 hk1).trans0 hkc
  clear hk0 hk1 hkc hb00 hb01 hb10 hb11 qs0 qs1
  obtain ⟨v, hv⟩ : ∃ v : Bool, v = withinS p xs q ys p' xs' q' ys' := ⟨_, rfl⟩
  rw [← hv]
  have HV := Lib.hid hv
  clear hv
  have z5 := hk.size
  replace nAX0 := kc hk nAX0
  replace nAX1 := kc hk nAX1
  replace nAX2 := kc hk nAX2
  replace nAX3 := kc hk nAX3
  replace nAY0 := kc hk nAY0
  replace nAY1 := kc hk nAY1
  replace nAY2 := kc hk nAY2
  replace nAY3 := kc hk nAY3
  replace HRA := Lib.hid (HRA.out.kept0 hk)
  replace HRB := Lib.hid (HRB.out.kept0 hk)
  replace HRC := Lib.hid (HRC.out.kept0 hk)
  replace HRD := Lib.hid (HRD.out.kept0 hk)
  replace KT := Lib.hid (KT.out.trans0 hk)
  clear hk
  have tAX0 := nAX0.out
  have tAX1 := nAX1.out
  have tAX2 := nAX2.out
  have tAX3 := nAX3.out
  have tAY0 := nAY0.out
  have tAY1 := nAY1.out
  have tAY2 := nAY2.out
  have tAY3 := nAY3.out
  go_wp2_with fail
  clear tAX0 tAX1 tAX2 tAX3 tAY0 tAY1 tAY2 tAY3
  refine (toSpan_any _ _ _ _ _ _ _ _ _ _ _ HRA.out HRB.out (by omega) (by omega)).mono ?_
  rintro e ww6 ⟨gx0a, gx0b, rfl, qx0, ox0, hb0, hb1, hk⟩
  rw [HLA.out]
  rw [HLB.out]
  have lx0a := hb0.lt
  have Sx0a := Lib.hid (sl_new hb0 HLA.out (by omega))
  have lx0b := hb1.lt
  have Sx0b := Lib.hid (sl_new hb1 HLB.out (by omega))
  clear hb0 hb1
  have z6 := hk.size
  replace nAX0 := kc hk nAX0
  replace nAX1 := kc hk nAX1
  replace nAX2 := kc hk nAX2
  replace nAX3 := kc hk nAX3
  replace nAY0 := kc hk nAY0
  replace nAY1 := kc hk nAY1
  replace nAY2 := kc hk nAY2
  replace nAY3 := kc hk nAY3
  replace HRA := Lib.hid (HRA.out.kept0 hk)
  replace HRB := Lib.hid (HRB.out.kept0 hk)
  replace HRC := Lib.hid (HRC.out.kept0 hk)
  replace HRD := Lib.hid (HRD.out.kept0 hk)
  replace KT := Lib.hid (KT.out.trans0 hk)
  clear hk
  have tAY0 := alloc_cell (o := .cells #[.bool p, .slice (some ⟨gx0a, 0, none⟩) n n, .bool q, .slice (some ⟨gx0b, 0, none⟩) m m] 31) nAY0.out
  have tAY1 := alloc_cell (o := .cells #[.bool p, .slice (some ⟨gx0a, 0, none⟩) n n, .bool q, .slice (some ⟨gx0b, 0, none⟩) m m] 31) nAY1.out
  have tAY2 := alloc_cell (o := .cells #[.bool p, .slice (some ⟨gx0a, 0, none⟩) n n, .bool q, .slice (some ⟨gx0b, 0, none⟩) m m] 31) nAY2.out
  have tAY3 := alloc_cell (o := .cells #[.bool p, .slice (some ⟨gx0a, 0, none⟩) n n, .bool q, .slice (some ⟨gx0b, 0, none⟩) m m] 31) nAY3.out
  go_wp2_with fail
  clear tAY0 tAY1 tAY2 tAY3
  generalize hW : (ww6.alloc (.cells #[.bool p, .slice (some ⟨gx0a, 0, none⟩) n n, .bool q, .slice (some ⟨gx0b, 0, none⟩) m m] 31)) = ww7
  have hk : Kept [] ww6 ww7 := by rw [← hW]; exact (Kept.refl [] _).alloc _
  have zzX0 : ww6.heap.size + 1 = ww7.heap.size := by rw [← hW]; simp
  have nX00 := Lib.hid (show ww7.cell? ⟨ww6.heap.size, 0, none⟩ = some (.bool p) by rw [← hW, World.cell?_alloc_new]; rfl)
  have nX01 := Lib.hid (show ww7.cell? ⟨ww6.heap.size, 1, none⟩ = some (.slice (some ⟨gx0a, 0, none⟩) n n) by rw [← hW, World.cell?_alloc_new]; rfl)
  have nX02 := Lib.hid (show ww7.cell? ⟨ww6.heap.size, 2, none⟩ = some (.bool q) by rw [← hW, World.cell?_alloc_new]; rfl)
  have nX03 := Lib.hid (show ww7.cell? ⟨ww6.heap.size, 3, none⟩ = some (.slice (some ⟨gx0b, 0, none⟩) m m) by rw [← hW, World.cell?_alloc_new]; rfl)
  clear hW
  have z7 := hk.size
  replace nAX0 := kc hk nAX0
  replace nAX1 := kc hk nAX1
  replace nAX2 := kc hk nAX2
  replace nAX3 := kc hk nAX3
  replace nAY0 := kc hk nAY0
  replace nAY1 := kc hk nAY1
  replace nAY2 := kc hk nAY2
  replace nAY3 := kc hk nAY3
  replace HRA := Lib.hid (HRA.out.kept0 hk)
  replace HRB := Lib.hid (HRB.out.kept0 hk)
  replace HRC := Lib.hid (HRC.out.kept0 hk)
  replace HRD := Lib.hid (HRD.out.kept0 hk)
  replace Sx0a := Lib.hid (Sx0a.out.kept0 hk)
  replace Sx0b := Lib.hid (Sx0b.out.kept0 hk)
  replace KT := Lib.hid (KT.out.trans0 hk)
  clear hk
  refine (toSpan_any _ _ _ _ _ _ _ _ _ _ _ HRC.out HRD.out (by omega) (by omega)).mono ?_
  rintro e ww8 ⟨gx1a, gx1b, rfl, qx1, ox1, hb0, hb1, hk⟩
  rw [HLC.out]
  rw [HLD.out]
  have lx1a := hb0.lt
  have Sx1a := Lib.hid (sl_new hb0 HLC.out (by omega))
  have lx1b := hb1.lt
  have Sx1b := Lib.hid (sl_new hb1 HLD.out (by omega))
  clear hb0 hb1
  have z8 := hk.size
  replace nAX0 := kc hk nAX0
  replace nAX1 := kc hk nAX1
  replace nAX2 := kc hk nAX2
  replace nAX3 := kc hk nAX3
  replace nAY0 := kc hk nAY0
  replace nAY1 := kc hk nAY1
  replace nAY2 := kc hk nAY2
  replace nAY3 := kc hk nAY3
  replace HRA := Lib.hid (HRA.out.kept0 hk)
  replace HRB := Lib.hid (HRB.out.kept0 hk)
  replace HRC := Lib.hid (HRC.out.kept0 hk)
  replace HRD := Lib.hid (HRD.out.kept0 hk)
  replace Sx0a := Lib.hid (Sx0a.out.kept0 hk)
  replace Sx0b := Lib.hid (Sx0b.out.kept0 hk)
  replace nX00 := kc hk nX00
  replace nX01 := kc hk nX01
  replace nX02 := kc hk nX02
  replace nX03 := kc hk nX03
  replace KT := Lib.hid (KT.out.trans0 hk)
  clear hk
  have tX00 := alloc_cell (o := .cells #[.bool p', .slice (some ⟨gx1a, 0, none⟩) n' n', .bool q', .slice (some ⟨gx1b, 0, none⟩) m' m'] 31) nX00.out
  have tX01 := alloc_cell (o := .cells #[.bool p', .slice (some ⟨gx1a, 0, none⟩) n' n', .bool q', .slice (some ⟨gx1b, 0, none⟩) m' m'] 31) nX01.out
  have tX02 := alloc_cell (o := .cells #[.bool p', .slice (some ⟨gx1a, 0, none⟩) n' n', .bool q', .slice (some ⟨gx1b, 0, none⟩) m' m'] 31) nX02.out
  have tX03 := alloc_cell (o := .cells #[.bool p', .slice (some ⟨gx1a, 0, none⟩) n' n', .bool q', .slice (some ⟨gx1b, 0, none⟩) m' m'] 31) nX03.out
  go_wp2_with fail
  clear tX00 tX01 tX02 tX03
  generalize hW : (ww8.alloc (.cells #[.bool p', .slice (some ⟨gx1a, 0, none⟩) n' n', .bool q', .slice (some ⟨gx1b, 0, none⟩) m' m'] 31)) = ww9
  have hk : Kept [] ww8 ww9 := by rw [← hW]; exact (Kept.refl [] _).alloc _
  have zzX1 : ww8.heap.size + 1 = ww9.heap.size := by rw [← hW]; simp
  have nX10 := Lib.hid (show ww9.cell? ⟨ww8.heap.size, 0, none⟩ = some (.bool p') by rw [← hW, World.cell?_alloc_new]; rfl)
  have nX11 := Lib.hid (show ww9.cell? ⟨ww8.heap.size, 1, none⟩ = some (.slice (some ⟨gx1a, 0, none⟩) n' n') by rw [← hW, World.cell?_alloc_new]; rfl)
  have nX12 := Lib.hid (show ww9.cell? ⟨ww8.heap.size, 2, none⟩ = some (.bool q') by rw [← hW, World.cell?_alloc_new]; rfl)
  have nX13 := Lib.hid (show ww9.cell? ⟨ww8.heap.size, 3, none⟩ = some (.slice (some ⟨gx1b, 0, none⟩) m' m') by rw [← hW, World.cell?_alloc_new]; rfl)
  clear hW
  have z9 := hk.size
  replace nAX0 := kc hk nAX0
  replace nAX1 := kc hk nAX1
  replace nAX2 := kc hk nAX2
  replace nAX3 := kc hk nAX3
  replace nAY0 := kc hk nAY0
  replace nAY1 := kc hk nAY1
  replace nAY2 := kc hk nAY2
  replace nAY3 := kc hk nAY3
  replace HRA := Lib.hid (HRA.out.kept0 hk)
  replace HRB := Lib.hid (HRB.out.kept0 hk)
  replace HRC := Lib.hid (HRC.out.kept0 hk)
  replace HRD := Lib.hid (HRD.out.kept0 hk)
  replace Sx0a := Lib.hid (Sx0a.out.kept0 hk)
  replace Sx0b := Lib.hid (Sx0b.out.kept0 hk)
  replace nX00 := kc hk nX00
  replace nX01 := kc hk nX01
  replace nX02 := kc hk nX02
  replace nX03 := kc hk nX03
  replace Sx1a := Lib.hid (Sx1a.out.kept0 hk)
  replace Sx1b := Lib.hid (Sx1b.out.kept0 hk)
  replace KT := Lib.hid (KT.out.trans0 hk)
  clear hk
  refine (IsWithin_any _ _ _ _ _ _ _ _ _ _ _ _ _ _ _ _ _ _ _ _ _ Sx0a.out Sx0b.out Sx1a.out Sx1b.out).mono ?_
  rintro e ww10 ⟨rfl, hk⟩
  rw [← HV.out]
  have z10 := hk.size
  replace nAX0 := kc hk nAX0
  replace nAX1 := kc hk nAX1
  replace nAX2 := kc hk nAX2
  replace nAX3 := kc hk nAX3
  replace nAY0 := kc hk nAY0
  replace nAY1 := kc hk nAY1
  replace nAY2 := kc hk nAY2
  replace nAY3 := kc hk nAY3
  replace HRA := Lib.hid (HRA.out.kept0 hk)
  replace HRB := Lib.hid (HRB.out.kept0 hk)
  replace HRC := Lib.hid (HRC.out.kept0 hk)
  replace HRD := Lib.hid (HRD.out.kept0 hk)
  replace Sx0a := Lib.hid (Sx0a.out.kept0 hk)
  replace Sx0b := Lib.hid (Sx0b.out.kept0 hk)
  replace nX00 := kc hk nX00
  replace nX01 := kc hk nX01
  replace nX02 := kc hk nX02
  replace nX03 := kc hk nX03
  replace Sx1a := Lib.hid (Sx1a.out.kept0 hk)
  replace Sx1b := Lib.hid (Sx1b.out.kept0 hk)
  replace nX10 := kc hk nX10
  replace nX11 := kc hk nX11
  replace nX12 := kc hk nX12
  replace nX13 := kc hk nX13
  replace KT := Lib.hid (KT.out.trans0 hk)
  clear hk
  have tX00 := nX00.out
  have tX01 := nX01.out
  have tX02 := nX02.out
  have tX03 := nX03.out
  have tX10 := nX10.out
  have tX11 := nX11.out
  have tX12 := nX12.out
  have tX13 := nX13.out
  have tAX0 := nAX0.out
  have tAX1 := nAX1.out
  have tAX2 := nAX2.out
  have tAX3 := nAX3.out
  have tAY0 := nAY0.out
  have tAY1 := nAY1.out
  have tAY2 := nAY2.out
  have tAY3 := nAY3.out
  go_wp2_with fail
  clear tX00 tX01 tX02 tX03 tX10 tX11 tX12 tX13 tAX0 tAX1 tAX2 tAX3 tAY0 tAY1 tAY2 tAY3
  have tX00 := nX00.out
  have tX01 := nX01.out
  have tX02 := nX02.out
  have tX03 := nX03.out
  have tAX0 := nAX0.out
  have tAX1 := nAX1.out
  have tAX2 := nAX2.out
  have tAX3 := nAX3.out
  go_region_held3 (fun w' => w'.cell? ⟨ww6.heap.size, 0, none⟩ = some (.bool p) ∧ w'.cell? ⟨ww6.heap.size, 1, none⟩ = some (.slice (some ⟨gx0a, 0, none⟩) n n) ∧ w'.cell? ⟨ww6.heap.size, 2, none⟩ = some (.bool q) ∧ w'.cell? ⟨ww6.heap.size, 3, none⟩ = some (.slice (some ⟨gx0b, 0, none⟩) m m) ∧ w'.cell? ⟨w.heap.size, 0, none⟩ = some (.bool p) ∧ w'.cell? ⟨w.heap.size, 1, none⟩ = some (.slice a n c) ∧ w'.cell? ⟨w.heap.size, 2, none⟩ = some (.bool q) ∧ w'.cell? ⟨w.heap.size, 3, none⟩ = some (.slice b m d) ∧ Hid (Kept [] ww10 w'))
    ((go_split_ands; (try refine ⟨?_, ?_, ?_, ?_, ?_, ?_, ?_, ?_, ?_⟩) <;> with_reducible first | exact Lib.hid ((Kept.refl _ _).drew) | exact drew_cell (by assumption) | exact Kept.allocH (by assumption) | exact alloc_cell (by assumption) | exact Lib.hid (Kept.trans0 (Hid.out (by assumption)) (by assumption)) | exact Kept.cell (by assumption) (by assumption) (by simp)))
    (first
      | (go_at_call 11; go_split_ands; refine (toSpan_any _ _ _ _ _ _ _ _ _ _ _ (HRA.out.kept0 (Kept.refl [] _).drew) (HRB.out.kept0 (Kept.refl [] _).drew) (by omega) (by omega)).mono ?_; rintro e v11 ⟨ge0a, ge0b, rfl, qe0, oe0, hb0, hb1, hk1⟩; rw [HLA.out]; rw [HLB.out])
      | (go_at_call 13; go_split_ands; refine (eqSpan_yes _ _ _ _ _ _ _ _ _ _ _ _ _ _ _ (((Sx0a.out.kept0 (Kept.refl [] _).drew).kept0 hk1).rd) (rd_new hb0 HLA.out (by omega)) (((Sx0b.out.kept0 (Kept.refl [] _).drew).kept0 hk1).rd) (rd_new hb1 HLB.out (by omega))).mono ?_; rintro e v12 ⟨rfl, hk2⟩))
  clear tX00 tX01 tX02 tX03 tAX0 tAX1 tAX2 tAX3
  have hk := ((Kept.refl [] ww10).drew.trans0 hk1).trans0 hk2
  clear hk1 hk2 hb0 hb1
  have z12 := hk.size
  replace nAX0 := kc hk nAX0
  replace nAX1 := kc hk nAX1
  replace nAX2 := kc hk nAX2
  replace nAX3 := kc hk nAX3
  replace nAY0 := kc hk nAY0
  replace nAY1 := kc hk nAY1
  replace nAY2 := kc hk nAY2
  replace nAY3 := kc hk nAY3
  replace HRA := Lib.hid (HRA.out.kept0 hk)
  replace HRB := Lib.hid (HRB.out.kept0 hk)
  replace HRC := Lib.hid (HRC.out.kept0 hk)
  replace HRD := Lib.hid (HRD.out.kept0 hk)
  replace Sx0a := Lib.hid (Sx0a.out.kept0 hk)
  replace Sx0b := Lib.hid (Sx0b.out.kept0 hk)
  replace nX00 := kc hk nX00
  replace nX01 := kc hk nX01
  replace nX02 := kc hk nX02
  replace nX03 := kc hk nX03
  replace Sx1a := Lib.hid (Sx1a.out.kept0 hk)
  replace Sx1b := Lib.hid (Sx1b.out.kept0 hk)
  replace nX10 := kc hk nX10
  replace nX11 := kc hk nX11
  replace nX12 := kc hk nX12
  replace nX13 := kc hk nX13
  replace KT := Lib.hid (KT.out.trans0 hk)
  clear hk
  have tX10 := nX10.out
  have tX11 := nX11.out
  have tX12 := nX12.out
  have tX13 := nX13.out
  have tAY0 := nAY0.out
  have tAY1 := nAY1.out
  have tAY2 := nAY2.out
  have tAY3 := nAY3.out
  go_wp2_with fail
  clear tX10 tX11 tX12 tX13 tAY0 tAY1 tAY2 tAY3
  have tX10 := nX10.out
  have tX11 := nX11.out
  have tX12 := nX12.out
  have tX13 := nX13.out
  have tAY0 := nAY0.out
  have tAY1 := nAY1.out
  have tAY2 := nAY2.out
  have tAY3 := nAY3.out
  go_region_held3 (fun w' => w'.cell? ⟨ww8.heap.size, 0, none⟩ = some (.bool p') ∧ w'.cell? ⟨ww8.heap.size, 1, none⟩ = some (.slice (some ⟨gx1a, 0, none⟩) n' n') ∧ w'.cell? ⟨ww8.heap.size, 2, none⟩ = some (.bool q') ∧ w'.cell? ⟨ww8.heap.size, 3, none⟩ = some (.slice (some ⟨gx1b, 0, none⟩) m' m') ∧ w'.cell? ⟨w.heap.size + 1, 0, none⟩ = some (.bool p') ∧ w'.cell? ⟨w.heap.size + 1, 1, none⟩ = some (.slice a' n' c') ∧ w'.cell? ⟨w.heap.size + 1, 2, none⟩ = some (.bool q') ∧ w'.cell? ⟨w.heap.size + 1, 3, none⟩ = some (.slice b' m' d') ∧ Hid (Kept [] v12 w'))
    ((go_split_ands; (try refine ⟨?_, ?_, ?_, ?_, ?_, ?_, ?_, ?_, ?_⟩) <;> with_reducible first | exact Lib.hid ((Kept.refl _ _).drew) | exact drew_cell (by assumption) | exact Kept.allocH (by assumption) | exact alloc_cell (by assumption) | exact Lib.hid (Kept.trans0 (Hid.out (by assumption)) (by assumption)) | exact Kept.cell (by assumption) (by assumption) (by simp)))
    (first
      | (go_at_call 11; go_split_ands; refine (toSpan_any _ _ _ _ _ _ _ _ _ _ _ (HRC.out.kept0 (Kept.refl [] _).drew) (HRD.out.kept0 (Kept.refl [] _).drew) (by omega) (by omega)).mono ?_; rintro e v13 ⟨ge1a, ge1b, rfl, qe1, oe1, hb0, hb1, hk1⟩; rw [HLC.out]; rw [HLD.out])
      | (go_at_call 13; go_split_ands; refine (eqSpan_yes _ _ _ _ _ _ _ _ _ _ _ _ _ _ _ (((Sx1a.out.kept0 (Kept.refl [] _).drew).kept0 hk1).rd) (rd_new hb0 HLC.out (by omega)) (((Sx1b.out.kept0 (Kept.refl [] _).drew).kept0 hk1).rd) (rd_new hb1 HLD.out (by omega))).mono ?_; rintro e v14 ⟨rfl, hk2⟩))
  clear tX10 tX11 tX12 tX13 tAY0 tAY1 tAY2 tAY3
  have hk := ((Kept.refl [] v12).drew.trans0 hk1).trans0 hk2
  clear hk1 hk2 hb0 hb1
  have z14 := hk.size
  replace nAX0 := kc hk nAX0
  replace nAX1 := kc hk nAX1
  replace nAX2 := kc hk nAX2
  replace nAX3 := kc hk nAX3
  replace nAY0 := kc hk nAY0
  replace nAY1 := kc hk nAY1
  replace nAY2 := kc hk nAY2
  replace nAY3 := kc hk nAY3
  replace HRA := Lib.hid (HRA.out.kept0 hk)
  replace HRB := Lib.hid (HRB.out.kept0 hk)
  replace HRC := Lib.hid (HRC.out.kept0 hk)
  replace HRD := Lib.hid (HRD.out.kept0 hk)
  replace Sx0a := Lib.hid (Sx0a.out.kept0 hk)
  replace Sx0b := Lib.hid (Sx0b.out.kept0 hk)
  replace nX00 := kc hk nX00
  replace nX01 := kc hk nX01
  replace nX02 := kc hk nX02
  replace nX03 := kc hk nX03
  replace Sx1a := Lib.hid (Sx1a.out.kept0 hk)
  replace Sx1b := Lib.hid (Sx1b.out.kept0 hk)
  replace nX10 := kc hk nX10
  replace nX11 := kc hk nX11
  replace nX12 := kc hk nX12
  replace nX13 := kc hk nX13
  replace KT := Lib.hid (KT.out.trans0 hk)
  clear hk
  go_wp2_with fail
  go_ret
  exact ⟨rfl, KT.out⟩

end Go.Proofs.Ytaemfcllodmlkaa
