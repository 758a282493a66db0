/-
  The walk of the law on CompareBigs. No condition but that the arguments' limbs read as lists of numbers.
-/
import Derived.Deep.RegionHeld3
import Derived.Deep.DrawnRows
import Derived.Deep.DeepCutAuto
import Derived.Test.YtgplghjameiciaaBigH
namespace Go.Proofs.Ytgplghjameiciaa
open Go.RowKit
attribute [local go_sem ↓] Go.wp_at_zero Go.wp_at_succ

set_option maxHeartbeats 8000000 in
set_option maxRecDepth 100000 in
theorem FnExactCompareBigs_walk (p : Bool) (a : Option Addr) (n c : Nat) (xs : List Int) (q : Bool) (b : Option Addr) (m d : Nat) (ys : List Int) (w : World) (hA : Rd w a n xs) (hB : Rd w b m ys) :
    Calls Try.prog 11 #[.agg #[.bool p, .slice a n c], .agg #[.bool q, .slice b m d]] w (Ans w (.bool true)) := by
  have hmaxA := hA.2.1
  have HRA := Lib.hid hA
  have HLA := Lib.hid hA.1
  have FRA := Lib.hid hA.lt
  clear hA
  have hmaxB := hB.2.1
  have HRB := Lib.hid hB
  have HLB := Lib.hid hB.1
  have FRB := Lib.hid hB.lt
  clear hB
  by_cases hbig0 : 1048576 < n
  · go_enter Try.func11, Try.ntmps11
    go_wp2_with fail
    have hk0 : Kept [] w ((w.alloc (.cells #[.bool p, .slice a n c] 38)).alloc (.cells #[.bool q, .slice b m d] 38)) := ((Kept.refl [] w).alloc _).alloc _
    refine (szBig_no _ _ _ _ _ _ (by omega) (by omega) hmaxA).mono ?_
    rintro e w1 ⟨rfl, hk⟩
    have HK := Lib.hid (hk0.trans0 hk)
    clear hk hk0
    go_wp2_with fail
    go_ret
    exact ⟨rfl, HK.out⟩
  by_cases hbig1 : 1048576 - n < m
  · go_enter Try.func11, Try.ntmps11
    go_wp2_with fail
    have hk0 : Kept [] w ((w.alloc (.cells #[.bool p, .slice a n c] 38)).alloc (.cells #[.bool q, .slice b m d] 38)) := ((Kept.refl [] w).alloc _).alloc _
    refine (szBig_yes _ _ _ _ _ _ (by omega) (by omega)).mono ?_
    rintro e w1 ⟨rfl, hk⟩
    have t0 := (hk.top (g := w.heap.size + 1) (by simp) (by simp) 0 (v := .bool q) rfl).1
    have t1 := (hk.top (g := w.heap.size + 1) (by simp) (by simp) 1 (v := .slice b m d) rfl).1
    have HK := Lib.hid (hk0.trans0 hk)
    clear hk hk0
    have hng : decide ((1048576 : Int) - (n : Int) < 0) = false := decide_eq_false (by omega)
    have hnp : (0 : Int) ≤ (1048576 : Int) - (n : Int) := by omega
    go_wp2_with fail
    refine (szBig_no _ _ _ _ _ _ (by omega) (by omega) hmaxB).mono ?_
    rintro e w2 ⟨rfl, hk⟩
    have HK2 := Lib.hid (HK.out.trans0 hk)
    clear hk
    go_wp2_with fail
    go_ret
    exact ⟨rfl, HK2.out⟩
  have hsmA : n ≤ 1048576 := by omega
  have hsmB : m ≤ 1048576 := by omega
  have hsm : (m : Int) ≤ 1048576 - (n : Int) := by omega
  have hng : decide ((1048576 : Int) - (n : Int) < 0) = false := decide_eq_false (by omega)
  have hnp : (0 : Int) ≤ (1048576 : Int) - (n : Int) := by omega
  have hng2 : decide ((1048576 : Int) - (n : Int) - (m : Int) < 0) = false := decide_eq_false (by omega)
  have hnp2 : (0 : Int) ≤ (1048576 : Int) - (n : Int) - (m : Int) := by omega
  clear hbig0 hbig1
  go_enter Try.func11, Try.ntmps11
  go_wp2_with fail
  generalize hW : ((w.alloc (.cells #[.bool p, .slice a n c] 38)).alloc (.cells #[.bool q, .slice b m d] 38)) = ww0
  have hk : Kept [] w ww0 := by rw [← hW]; exact ((Kept.refl [] w).alloc _).alloc _
  have hkk : Kept [] ((w.alloc (.cells #[.bool p, .slice a n c] 38)).alloc (.cells #[.bool q, .slice b m d] 38)) ww0 := by rw [hW]; exact Kept.refl _ _
  have zzA : w.heap.size + 1 + 1 = ww0.heap.size := by rw [← hW]; simp
  obtain ⟨⟨nA0, nA1⟩, _⟩ := tp2 hkk.peel (g := w.heap.size) (by simp) (by simp)
  obtain ⟨⟨nB0, nB1⟩, _⟩ := tp2 hkk (g := w.heap.size + 1) (by simp) (by simp)
  clear hkk hW
  have z0 := hk.size
  have KT := Lib.hid hk
  clear hk
  replace HRA := Lib.hid (HRA.out.kept0 KT.out)
  replace HRB := Lib.hid (HRB.out.kept0 KT.out)
  refine (szBig_yes _ _ _ _ _ _ (by omega) (by omega)).mono ?_
  rintro e ww1 ⟨rfl, hk⟩
  have z1 := hk.size
  replace nA0 := kc hk nA0
  replace nA1 := kc hk nA1
  replace nB0 := kc hk nB0
  replace nB1 := kc hk nB1
  replace HRA := Lib.hid (HRA.out.kept0 hk)
  replace HRB := Lib.hid (HRB.out.kept0 hk)
  replace KT := Lib.hid (KT.out.trans0 hk)
  clear hk
  have tB0 := nB0.out
  have tB1 := nB1.out
  go_wp2_with fail
  clear tB0 tB1
  refine (szBig_yes _ _ _ _ _ _ hsm (by omega)).mono ?_
  rintro e ww2 ⟨rfl, hk⟩
  have z2 := hk.size
  replace nA0 := kc hk nA0
  replace nA1 := kc hk nA1
  replace nB0 := kc hk nB0
  replace nB1 := kc hk nB1
  replace HRA := Lib.hid (HRA.out.kept0 hk)
  replace HRB := Lib.hid (HRB.out.kept0 hk)
  replace KT := Lib.hid (KT.out.trans0 hk)
  clear hk
  have tA0 := nA0.out
  have tA1 := nA1.out
  have tB0 := nB0.out
  have tB1 := nB1.out
  go_wp2_with fail
  clear tA0 tA1 tB0 tB1
  have tA0 := nA0.out
  have tA1 := nA1.out
  have tB0 := nB0.out
  have tB1 := nB1.out
  go_region_held3 (fun w' => w'.cell? ⟨w.heap.size, 0, none⟩ = some (.bool p) ∧ w'.cell? ⟨w.heap.size, 1, none⟩ = some (.slice a n c) ∧ w'.cell? ⟨w.heap.size + 1, 0, none⟩ = some (.bool q) ∧ w'.cell? ⟨w.heap.size + 1, 1, none⟩ = some (.slice b m d) ∧ Hid (Kept [] ww2 w'))
    ((go_split_ands; (try refine ⟨?_, ?_, ?_, ?_, ?_⟩) <;> with_reducible first | exact Lib.hid ((Kept.refl _ _).drew) | exact drew_cell (by assumption) | exact Kept.allocH (by assumption) | exact alloc_cell (by assumption) | exact Lib.hid (Kept.trans0 (Hid.out (by assumption)) (by assumption)) | exact Kept.cell (by assumption) (by assumption) (by simp)))
    (first
      | (go_at_call_of 37 (Value.agg #[Value.bool p, Value.slice a n c]); go_split_ands; refine (toBig_any _ _ _ _ _ _ (HRA.out.kept0 (Kept.refl [] _).drew) (by omega)).mono ?_; rintro e v3 ⟨g0, rfl, q0, hb0, hk1⟩; rw [HLA.out])
      | (go_at_call_of 37 (Value.agg #[Value.bool q, Value.slice b m d]); go_split_ands; refine (toBig_any _ _ _ _ _ _ (HRB.out.kept0 ((Kept.refl [] _).drew.trans0 hk1)) (by omega)).mono ?_; rintro e v4 ⟨g1, rfl, q1, hb1, hk2⟩; rw [HLB.out])
      | (go_at_call 48; go_split_ands; refine (sCompareBigs_any _ _ _ _ _ _ _ _ _ _ _ (sl_new (hk2.blk hb0 (by simp)) HLA.out (by omega)) (sl_new hb1 HLB.out (by omega))).mono ?_; rintro e v5 ⟨rfl, hk3⟩))
  clear tA0 tA1 tB0 tB1
  have hk := (((Kept.refl [] ww2).drew.trans0 hk1).trans0 hk2).trans0 hk3
  clear hk1 hk2 hk3 hb0 hb1 q0 q1
  obtain ⟨v, hv⟩ : ∃ v : Int, v = cmpB p xs q ys := ⟨_, rfl⟩
  rw [← hv]
  have HV := Lib.hid hv
  clear hv
  have z5 := hk.size
  replace nA0 := kc hk nA0
  replace nA1 := kc hk nA1
  replace nB0 := kc hk nB0
  replace nB1 := kc hk nB1
  replace HRA := Lib.hid (HRA.out.kept0 hk)
  replace HRB := Lib.hid (HRB.out.kept0 hk)
  replace KT := Lib.hid (KT.out.trans0 hk)
  clear hk
  have tA0 := nA0.out
  have tA1 := nA1.out
  go_wp2_with fail
  clear tA0 tA1
  refine (toBig_any _ _ _ _ _ _ HRA.out (by omega)).mono ?_
  rintro e ww6 ⟨gx0, rfl, qx0, hb, hk⟩
  rw [HLA.out]
  have lx0 := hb.lt
  have Sx0 := Lib.hid (sl_new hb HLA.out (by omega))
  clear hb
  have z6 := hk.size
  replace nA0 := kc hk nA0
  replace nA1 := kc hk nA1
  replace nB0 := kc hk nB0
  replace nB1 := kc hk nB1
  replace HRA := Lib.hid (HRA.out.kept0 hk)
  replace HRB := Lib.hid (HRB.out.kept0 hk)
  replace KT := Lib.hid (KT.out.trans0 hk)
  clear hk
  have tB0 := alloc_cell (o := .cells #[.bool p, .slice (some ⟨gx0, 0, none⟩) n n] 40) nB0.out
  have tB1 := alloc_cell (o := .cells #[.bool p, .slice (some ⟨gx0, 0, none⟩) n n] 40) nB1.out
  go_wp2_with fail
  clear tB0 tB1
  generalize hW : (ww6.alloc (.cells #[.bool p, .slice (some ⟨gx0, 0, none⟩) n n] 40)) = ww7
  have hk : Kept [] ww6 ww7 := by rw [← hW]; exact (Kept.refl [] _).alloc _
  have zzX0 : ww6.heap.size + 1 = ww7.heap.size := by rw [← hW]; simp
  have nX00 := Lib.hid (show ww7.cell? ⟨ww6.heap.size, 0, none⟩ = some (.bool p) by rw [← hW, World.cell?_alloc_new]; rfl)
  have nX01 := Lib.hid (show ww7.cell? ⟨ww6.heap.size, 1, none⟩ = some (.slice (some ⟨gx0, 0, none⟩) n n) by rw [← hW, World.cell?_alloc_new]; rfl)
  clear hW
  have z7 := hk.size
  replace nA0 := kc hk nA0
  replace nA1 := kc hk nA1
  replace nB0 := kc hk nB0
  replace nB1 := kc hk nB1
  replace HRA := Lib.hid (HRA.out.kept0 hk)
  replace HRB := Lib.hid (HRB.out.kept0 hk)
  replace Sx0 := Lib.hid (Sx0.out.kept0 hk)
  replace KT := Lib.hid (KT.out.trans0 hk)
  clear hk
  refine (toBig_any _ _ _ _ _ _ HRB.out (by omega)).mono ?_
  rintro e ww8 ⟨gx1, rfl, qx1, hb, hk⟩
  rw [HLB.out]
  have lx1 := hb.lt
  have Sx1 := Lib.hid (sl_new hb HLB.out (by omega))
  clear hb
  have z8 := hk.size
  replace nA0 := kc hk nA0
  replace nA1 := kc hk nA1
  replace nB0 := kc hk nB0
  replace nB1 := kc hk nB1
  replace HRA := Lib.hid (HRA.out.kept0 hk)
  replace HRB := Lib.hid (HRB.out.kept0 hk)
  replace Sx0 := Lib.hid (Sx0.out.kept0 hk)
  replace nX00 := kc hk nX00
  replace nX01 := kc hk nX01
  replace KT := Lib.hid (KT.out.trans0 hk)
  clear hk
  have tX00 := alloc_cell (o := .cells #[.bool q, .slice (some ⟨gx1, 0, none⟩) m m] 40) nX00.out
  have tX01 := alloc_cell (o := .cells #[.bool q, .slice (some ⟨gx1, 0, none⟩) m m] 40) nX01.out
  go_wp2_with fail
  clear tX00 tX01
  generalize hW : (ww8.alloc (.cells #[.bool q, .slice (some ⟨gx1, 0, none⟩) m m] 40)) = ww9
  have hk : Kept [] ww8 ww9 := by rw [← hW]; exact (Kept.refl [] _).alloc _
  have zzX1 : ww8.heap.size + 1 = ww9.heap.size := by rw [← hW]; simp
  have nX10 := Lib.hid (show ww9.cell? ⟨ww8.heap.size, 0, none⟩ = some (.bool q) by rw [← hW, World.cell?_alloc_new]; rfl)
  have nX11 := Lib.hid (show ww9.cell? ⟨ww8.heap.size, 1, none⟩ = some (.slice (some ⟨gx1, 0, none⟩) m m) by rw [← hW, World.cell?_alloc_new]; rfl)
  clear hW
  have z9 := hk.size
  replace nA0 := kc hk nA0
  replace nA1 := kc hk nA1
  replace nB0 := kc hk nB0
  replace nB1 := kc hk nB1
  replace HRA := Lib.hid (HRA.out.kept0 hk)
  replace HRB := Lib.hid (HRB.out.kept0 hk)
  replace Sx0 := Lib.hid (Sx0.out.kept0 hk)
  replace nX00 := kc hk nX00
  replace nX01 := kc hk nX01
  replace Sx1 := Lib.hid (Sx1.out.kept0 hk)
  replace KT := Lib.hid (KT.out.trans0 hk)
  clear hk
  refine (CompareBigs_any _ _ _ _ _ _ _ _ _ _ _ Sx0.out Sx1.out).mono ?_
  rintro e ww10 ⟨rfl, hk⟩
  rw [← HV.out]
  have z10 := hk.size
  replace nA0 := kc hk nA0
  replace nA1 := kc hk nA1
  replace nB0 := kc hk nB0
  replace nB1 := kc hk nB1
  replace HRA := Lib.hid (HRA.out.kept0 hk)
  replace HRB := Lib.hid (HRB.out.kept0 hk)
  replace Sx0 := Lib.hid (Sx0.out.kept0 hk)
  replace nX00 := kc hk nX00
  replace nX01 := kc hk nX01
  replace Sx1 := Lib.hid (Sx1.out.kept0 hk)
  replace nX10 := kc hk nX10
  replace nX11 := kc hk nX11
  replace KT := Lib.hid (KT.out.trans0 hk)
  clear hk
  have tX00 := nX00.out
  have tX01 := nX01.out
  have tX10 := nX10.out
  have tX11 := nX11.out
  have tA0 := nA0.out
  have tA1 := nA1.out
  have tB0 := nB0.out
  have tB1 := nB1.out
  go_wp2_with fail
  clear tX00 tX01 tX10 tX11 tA0 tA1 tB0 tB1
  have tX00 := nX00.out
  have tX01 := nX01.out
  have tA0 := nA0.out
  have tA1 := nA1.out
  go_region_held3 (fun w' => w'.cell? ⟨ww6.heap.size, 0, none⟩ = some (.bool p) ∧ w'.cell? ⟨ww6.heap.size, 1, none⟩ = some (.slice (some ⟨gx0, 0, none⟩) n n) ∧ w'.cell? ⟨w.heap.size, 0, none⟩ = some (.bool p) ∧ w'.cell? ⟨w.heap.size, 1, none⟩ = some (.slice a n c) ∧ Hid (Kept [] ww10 w'))
    ((go_split_ands; (try refine ⟨?_, ?_, ?_, ?_, ?_⟩) <;> with_reducible first | exact Lib.hid ((Kept.refl _ _).drew) | exact drew_cell (by assumption) | exact Kept.allocH (by assumption) | exact alloc_cell (by assumption) | exact Lib.hid (Kept.trans0 (Hid.out (by assumption)) (by assumption)) | exact Kept.cell (by assumption) (by assumption) (by simp)))
    (first
      | (go_at_call 37; go_split_ands; refine (toBig_any _ _ _ _ _ _ (HRA.out.kept0 (Kept.refl [] _).drew) (by omega)).mono ?_; rintro e v11 ⟨ge0, rfl, qe0, hb, hk1⟩; rw [HLA.out])
      | (go_at_call 40; go_split_ands; refine (eqBig_yes _ _ _ _ _ _ _ _ ((Sx0.out.kept0 (Kept.refl [] _).drew).kept0 hk1).rd (rd_new hb HLA.out (by omega))).mono ?_; rintro e v12 ⟨rfl, hk2⟩))
  clear tX00 tX01 tA0 tA1
  have hk := ((Kept.refl [] ww10).drew.trans0 hk1).trans0 hk2
  clear hk1 hk2 hb
  have z12 := hk.size
  replace nA0 := kc hk nA0
  replace nA1 := kc hk nA1
  replace nB0 := kc hk nB0
  replace nB1 := kc hk nB1
  replace HRA := Lib.hid (HRA.out.kept0 hk)
  replace HRB := Lib.hid (HRB.out.kept0 hk)
  replace Sx0 := Lib.hid (Sx0.out.kept0 hk)
  replace nX00 := kc hk nX00
  replace nX01 := kc hk nX01
  replace Sx1 := Lib.hid (Sx1.out.kept0 hk)
  replace nX10 := kc hk nX10
  replace nX11 := kc hk nX11
  replace KT := Lib.hid (KT.out.trans0 hk)
  clear hk
  have tX10 := nX10.out
  have tX11 := nX11.out
  have tB0 := nB0.out
  have tB1 := nB1.out
  go_wp2_with fail
  clear tX10 tX11 tB0 tB1
  have tX10 := nX10.out
  have tX11 := nX11.out
  have tB0 := nB0.out
  have tB1 := nB1.out
  go_region_held3 (fun w' => w'.cell? ⟨ww8.heap.size, 0, none⟩ = some (.bool q) ∧ w'.cell? ⟨ww8.heap.size, 1, none⟩ = some (.slice (some ⟨gx1, 0, none⟩) m m) ∧ w'.cell? ⟨w.heap.size + 1, 0, none⟩ = some (.bool q) ∧ w'.cell? ⟨w.heap.size + 1, 1, none⟩ = some (.slice b m d) ∧ Hid (Kept [] v12 w'))
    ((go_split_ands; (try refine ⟨?_, ?_, ?_, ?_, ?_⟩) <;> with_reducible first | exact Lib.hid ((Kept.refl _ _).drew) | exact drew_cell (by assumption) | exact Kept.allocH (by assumption) | exact alloc_cell (by assumption) | exact Lib.hid (Kept.trans0 (Hid.out (by assumption)) (by assumption)) | exact Kept.cell (by assumption) (by assumption) (by simp)))
    (first
      | (go_at_call 37; go_split_ands; refine (toBig_any _ _ _ _ _ _ (HRB.out.kept0 (Kept.refl [] _).drew) (by omega)).mono ?_; rintro e v13 ⟨ge1, rfl, qe1, hb, hk1⟩; rw [HLB.out])
      | (go_at_call 40; go_split_ands; refine (eqBig_yes _ _ _ _ _ _ _ _ ((Sx1.out.kept0 (Kept.refl [] _).drew).kept0 hk1).rd (rd_new hb HLB.out (by omega))).mono ?_; rintro e v14 ⟨rfl, hk2⟩))
  clear tX10 tX11 tB0 tB1
  have hk := ((Kept.refl [] v12).drew.trans0 hk1).trans0 hk2
  clear hk1 hk2 hb
  have z14 := hk.size
  replace nA0 := kc hk nA0
  replace nA1 := kc hk nA1
  replace nB0 := kc hk nB0
  replace nB1 := kc hk nB1
  replace HRA := Lib.hid (HRA.out.kept0 hk)
  replace HRB := Lib.hid (HRB.out.kept0 hk)
  replace Sx0 := Lib.hid (Sx0.out.kept0 hk)
  replace nX00 := kc hk nX00
  replace nX01 := kc hk nX01
  replace Sx1 := Lib.hid (Sx1.out.kept0 hk)
  replace nX10 := kc hk nX10
  replace nX11 := kc hk nX11
  replace KT := Lib.hid (KT.out.trans0 hk)
  clear hk
  go_wp2_with fail
  go_ret
  exact ⟨rfl, KT.out⟩

end Go.Proofs.Ytgplghjameiciaa
