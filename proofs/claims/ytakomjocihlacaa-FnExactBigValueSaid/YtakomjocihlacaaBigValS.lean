/-
 Contract of the model's BigValue. Condition: the limbs read as a list of numbers.
-/
import Derived.Deep.RegionHeld3
import Derived.Deep.DrawnRows
import Derived.Deep.DeepCutAuto
import Derived.Test.YtakomjocihlacaaBigV
import Derived.Test.YtakomjocihlacaaBigVal
import Derived.Test.YtakomjocihlacaaBigH
namespace Go.Proofs.Ytakomjocihlacaa
open Go.RowKit

theorem len_word {z : Int} (h1 : -9223372036854775808 ≤ z) (h2 : z ≤ 9223372036854775807) : (mag z).length ≤ 40 := by
 rw [mag_abs]
 exact Nat.le_trans (digits_len 4 (absI z) (by simp only [pw]; unfold absI; split <;> omega)) (by omega)

set_option maxHeartbeats 8000000 in
set_option maxRecDepth 20000 in
theorem sBigValue_any (p : Bool) (a : Option Addr) (n c : Nat) (xs : List Int) (w : World) (h : Sl w a n c xs) :
  Calls Try.prog 5 #[.agg #[.bool p, .slice a n c]] w (Ans w (.agg #[.int .i64 (bvCode p xs), .int .i64 (bvVal p xs)])) := by
 have HS := Lib.hid h
 clear h
 have L1 := Lib.hid (len_word (z := 9223372036854775807) (by decide) (by decide))
 have L2 := Lib.hid (len_word (z := -9223372036854775808) (by decide) (by decide))
 by_cases hz : bigFault p xs = 0
 ·have hok := bigFault_zero hz
  have HN := Lib.hid hok.n40
  have HOK := Lib.hid hok
  by_cases h1 : 9223372036854775807 < sv p xs
  ·have HB := Lib.hid (bv_out hz (Or.inr h1))
   have HC1 := Lib.hid (cmpV_gt h1)
   have HZ := Lib.hid hz
   clear hz hok h1
   go_enter Try.func5, Try.ntmps5
   go_wp2_with fail
   have k0 : Kept [] w ((w.alloc (.cells #[.bool p, .slice a n c] 29)).alloc (.cells #[.int .i64 0, .int .i64 0] 27)) := ((Kept.refl [] w).alloc _).alloc _
   refine (sBigFault_any _ _ _ _ _ _ (HS.out.rd.kept0 k0)).mono ?_
   rintro e w1 ⟨rfl, k1⟩
   rw [HZ.out]
   have c0 := Lib.hid (k1.peel.top (g := w.heap.size) (by simp) (by simp) 0 (v := .bool p) rfl).1
   have c1 := Lib.hid (k1.peel.top (g := w.heap.size) (by simp) (by simp) 1 (v := .slice a n c) rfl).1
   have c2 := Lib.hid (k1.top (g := w.heap.size + 1) (by simp) (by simp) 0 (v := .int .i64 0) rfl).1
   have c3 := Lib.hid (k1.top (g := w.heap.size + 1) (by simp) (by simp) 1 (v := .int .i64 0) rfl).1
   have c4 := Lib.hid (k1.top (g := w.heap.size + 1) (by simp) (by simp) 0 (v := .int .i64 0) rfl).2.1
   have c5 := Lib.hid (k1.top (g := w.heap.size + 1) (by simp) (by simp) 1 (v := .int .i64 0) rfl).2.1
   have K1 := Lib.hid (k0.trans0 k1)
   replace HS := Lib.hid (HS.out.kept0 K1.out)
   clear k0 k1
   have t0 := drew_cell c0.out
   have t1 := drew_cell c1.out
   have kk : Kept [] w1 w1.drew := (Kept.refl [] w1).drew
   go_upto_region 4 with fail
   go_cut [19] (fun s wx => s = .bool true ∧ Hid (Kept [] w1 wx))
   case first =>
    go_region_with (first
     | (go_at_call 13; refine (sBigOf_any _ _ (by omega) (by omega)).mono ?_; intro e v hh; unfold BigV at hh; obtain ⟨b, hh⟩ := hh; obtain ⟨cc, hh, hs, hf, hk⟩ := hh; subst hh; have t0 := hk.cell t0 (by simp); have t1 := hk.cell t1 (by simp); have kk := kk.trans0 hk)
     | (go_at_call 12; refine (l2Compare_any _ _ _ _ _ _ _ _ _ _ _ HN.out (bigOk_of (by first | with_reducible exact L1.out | with_reducible exact L2.out)).n40 (HS.out.kept0 kk) hs).mono ?_; rintro e v ⟨rfl, hk⟩; rw [sv_mag]; (first | rw [HC1.out]); have t0 := hk.cell t0 (by simp); have t1 := hk.cell t1 (by simp); have kk := kk.trans0 hk))
    all_goals
     go_wp2_with fail
     go_meet
     exact ⟨rfl, Lib.hid kk⟩
   case rest =>
   obtain ⟨rfl, hk9⟩ := hcut
   obtain ⟨w3, rfl⟩ : ∃ w' : World, w' = wc := ⟨_, rfl⟩
   clear t0 t1 kk
   have t0 := hk9.out.cell c0.out (by simp)
   have t1 := hk9.out.cell c1.out (by simp)
   have r0 := hk9.out.cell c2.out (by simp)
   have r1 := hk9.out.cell c3.out (by simp)
   have u0 := hk9.out.free' c2.out c4.out (by simp)
   have u1 := hk9.out.free' c3.out c5.out (by simp)
   have K3 := Lib.hid (K1.out.trans0 hk9.out)
   go_wp2_with fail
   obtain ⟨_, s0, s1⟩ := cells2 (.int .i64 7) (.int .i64 0) r0 r1
   refine bodyPost_ret (v := .agg #[.int .i64 7, .int .i64 0]) (by simp [results, Try.results5, go_sem, s0, s1]) rfl ⟨by rw [HB.out.1, HB.out.2], (K3.out.setCell _ _ (by simp)).setCell _ _ (by simp)⟩
  ·obtain ⟨q, hq⟩ : ∃ q, cmpV (sv p xs) 9223372036854775807 = q := ⟨_, rfl⟩
   have hq0 : decide (0 < q) = false := by rw [← hq, cmpV_pos]; exact decide_eq_false h1
   have HC1 := Lib.hid hq
   by_cases h2 : sv p xs < -9223372036854775808
   ·have HB := Lib.hid (bv_out hz (Or.inl h2))
    have HC2 := Lib.hid (cmpV_lt h2)
    have HZ := Lib.hid hz
    clear hz hok h1 h2 hq
    go_enter Try.func5, Try.ntmps5
    go_wp2_with fail
    have k0 : Kept [] w ((w.alloc (.cells #[.bool p, .slice a n c] 29)).alloc (.cells #[.int .i64 0, .int .i64 0] 27)) := ((Kept.refl [] w).alloc _).alloc _
    refine (sBigFault_any _ _ _ _ _ _ (HS.out.rd.kept0 k0)).mono ?_
    rintro e w1 ⟨rfl, k1⟩
    rw [HZ.out]
    have c0 := Lib.hid (k1.peel.top (g := w.heap.size) (by simp) (by simp) 0 (v := .bool p) rfl).1
    have c1 := Lib.hid (k1.peel.top (g := w.heap.size) (by simp) (by simp) 1 (v := .slice a n c) rfl).1
    have c2 := Lib.hid (k1.top (g := w.heap.size + 1) (by simp) (by simp) 0 (v := .int .i64 0) rfl).1
    have c3 := Lib.hid (k1.top (g := w.heap.size + 1) (by simp) (by simp) 1 (v := .int .i64 0) rfl).1
    have c4 := Lib.hid (k1.top (g := w.heap.size + 1) (by simp) (by simp) 0 (v := .int .i64 0) rfl).2.1
    have c5 := Lib.hid (k1.top (g := w.heap.size + 1) (by simp) (by simp) 1 (v := .int .i64 0) rfl).2.1
    have K1 := Lib.hid (k0.trans0 k1)
    replace HS := Lib.hid (HS.out.kept0 K1.out)
    clear k0 k1
    have t0 := drew_cell c0.out
    have t1 := drew_cell c1.out
    have kk : Kept [] w1 w1.drew := (Kept.refl [] w1).drew
    go_upto_region 4 with fail
    go_cut [19] (fun s wx => s = .bool true ∧ Hid (Kept [] w1 wx))
    case first =>
     go_region_with (first
      | (go_at_call 13; refine (sBigOf_any _ _ (by omega) (by omega)).mono ?_; intro e v hh; unfold BigV at hh; obtain ⟨b, hh⟩ := hh; obtain ⟨cc, hh, hs, hf, hk⟩ := hh; subst hh; have t0 := hk.cell t0 (by simp); have t1 := hk.cell t1 (by simp); have kk := kk.trans0 hk)
      | (go_at_call 12; refine (l2Compare_any _ _ _ _ _ _ _ _ _ _ _ HN.out (bigOk_of (by first | with_reducible exact L1.out | with_reducible exact L2.out)).n40 (HS.out.kept0 kk) hs).mono ?_; rintro e v ⟨rfl, hk⟩; rw [sv_mag]; (first | rw [HC1.out] | rw [HC2.out]); have t0 := hk.cell t0 (by simp); have t1 := hk.cell t1 (by simp); have kk := kk.trans0 hk))
     all_goals
      go_wp2_with fail
      go_meet
      exact ⟨rfl, Lib.hid kk⟩
    case rest =>
    obtain ⟨rfl, hk9⟩ := hcut
    obtain ⟨w3, rfl⟩ : ∃ w' : World, w' = wc := ⟨_, rfl⟩
    clear t0 t1 kk
    have t0 := hk9.out.cell c0.out (by simp)
    have t1 := hk9.out.cell c1.out (by simp)
    have r0 := hk9.out.cell c2.out (by simp)
    have r1 := hk9.out.cell c3.out (by simp)
    have u0 := hk9.out.free' c2.out c4.out (by simp)
    have u1 := hk9.out.free' c3.out c5.out (by simp)
    have K3 := Lib.hid (K1.out.trans0 hk9.out)
    go_wp2_with fail
    obtain ⟨_, s0, s1⟩ := cells2 (.int .i64 7) (.int .i64 0) r0 r1
    refine bodyPost_ret (v := .agg #[.int .i64 7, .int .i64 0]) (by simp [results, Try.results5, go_sem, s0, s1]) rfl ⟨by rw [HB.out.1, HB.out.2], (K3.out.setCell _ _ (by simp)).setCell _ _ (by simp)⟩
   ·have hno : ¬ outI (sv p xs) := by unfold outI; omega
    have HB := Lib.hid (bv_ok hz hno)
    have HNO := Lib.hid hno
    obtain ⟨r, hr⟩ : ∃ r, cmpV (sv p xs) (-9223372036854775808) = r := ⟨_, rfl⟩
    have hr0 : decide (r < 0) = false := by rw [← hr, cmpV_neg]; exact decide_eq_false h2
    have HC2 := Lib.hid hr
    have HZ := Lib.hid hz
    clear hz hok h1 h2 hq hr hno
    go_enter Try.func5, Try.ntmps5
    go_wp2_with fail
    have k0 : Kept [] w ((w.alloc (.cells #[.bool p, .slice a n c] 29)).alloc (.cells #[.int .i64 0, .int .i64 0] 27)) := ((Kept.refl [] w).alloc _).alloc _
    refine (sBigFault_any _ _ _ _ _ _ (HS.out.rd.kept0 k0)).mono ?_
    rintro e w1 ⟨rfl, k1⟩
    rw [HZ.out]
    have c0 := Lib.hid (k1.peel.top (g := w.heap.size) (by simp) (by simp) 0 (v := .bool p) rfl).1
    have c1 := Lib.hid (k1.peel.top (g := w.heap.size) (by simp) (by simp) 1 (v := .slice a n c) rfl).1
    have c2 := Lib.hid (k1.top (g := w.heap.size + 1) (by simp) (by simp) 0 (v := .int .i64 0) rfl).1
    have c3 := Lib.hid (k1.top (g := w.heap.size + 1) (by simp) (by simp) 1 (v := .int .i64 0) rfl).1
    have c4 := Lib.hid (k1.top (g := w.heap.size + 1) (by simp) (by simp) 0 (v := .int .i64 0) rfl).2.1
    have c5 := Lib.hid (k1.top (g := w.heap.size + 1) (by simp) (by simp) 1 (v := .int .i64 0) rfl).2.1
    have K1 := Lib.hid (k0.trans0 k1)
    replace HS := Lib.hid (HS.out.kept0 K1.out)
    clear k0 k1
    have t0 := drew_cell c0.out
    have t1 := drew_cell c1.out
    have kk : Kept [] w1 w1.drew := (Kept.refl [] w1).drew
    go_upto_region 4 with fail
    go_cut [19] (fun s wx => s = .bool false ∧ Hid (Kept [] w1 wx))
    case first =>
     go_region_with (first
      | (go_at_call 13; refine (sBigOf_any _ _ (by omega) (by omega)).mono ?_; intro e v hh; unfold BigV at hh; obtain ⟨b, hh⟩ := hh; obtain ⟨cc, hh, hs, hf, hk⟩ := hh; subst hh; have t0 := hk.cell t0 (by simp); have t1 := hk.cell t1 (by simp); have kk := kk.trans0 hk)
      | (go_at_call 12; refine (l2Compare_any _ _ _ _ _ _ _ _ _ _ _ HN.out (bigOk_of (by first | with_reducible exact L1.out | with_reducible exact L2.out)).n40 (HS.out.kept0 kk) hs).mono ?_; rintro e v ⟨rfl, hk⟩; rw [sv_mag]; (first | rw [HC1.out] | rw [HC2.out]); have t0 := hk.cell t0 (by simp); have t1 := hk.cell t1 (by simp); have kk := kk.trans0 hk))
     all_goals
      go_wp2_with fail
      go_meet
      exact ⟨rfl, Lib.hid kk⟩
    case rest =>
    obtain ⟨rfl, hk9⟩ := hcut
    obtain ⟨w3, rfl⟩ : ∃ w' : World, w' = wc := ⟨_, rfl⟩
    clear t0 t1 kk
    have t0 := hk9.out.cell c0.out (by simp)
    have t1 := hk9.out.cell c1.out (by simp)
    have r0 := hk9.out.cell c2.out (by simp)
    have r1 := hk9.out.cell c3.out (by simp)
    have u0 := hk9.out.free' c2.out c4.out (by simp)
    have u1 := hk9.out.free' c3.out c5.out (by simp)
    have K3 := Lib.hid (K1.out.trans0 hk9.out)
    have q0 := Lib.hid r0; have q1 := Lib.hid r1; have q2 := Lib.hid u0; have q3 := Lib.hid u1
    clear r0 r1 u0 u1
    go_wp2_with fail
    refine (l2Int_any _ _ _ _ _ _ (HS.out.kept0 hk9.out) HOK.out HNO.out).mono ?_
    rintro e w4 ⟨rfl, hk⟩
    have r0 := hk.cell q0.out (by simp)
    have r1 := hk.cell q1.out (by simp)
    have u0 := hk.free' q0.out q2.out (by simp)
    have u1 := hk.free' q1.out q3.out (by simp)
    go_wp2_with fail
    obtain ⟨_, s0, s1⟩ := cells2 (.int .i64 0) (.int .i64 (sv p xs)) r0 r1
    refine bodyPost_ret (v := .agg #[.int .i64 0, .int .i64 (sv p xs)]) (by simp [results, Try.results5, go_sem, s0, s1]) rfl ⟨by rw [HB.out.1, HB.out.2], ((K3.out.trans0 hk).setCell _ _ (by simp)).setCell _ _ (by simp)⟩
 ·obtain ⟨e1, e2⟩ := bv_bad hz
  rw [e1, e2]
  obtain ⟨f, hf⟩ : ∃ f, bigFault p xs = f := ⟨_, rfl⟩
  rw [hf] at hz ⊢
  have hne : (f == 0) = false := by rw [beq_eq_false_iff_ne]; exact hz
  have HF := Lib.hid hf
  clear hf hz e1 e2
  have K0 := Lib.hid (show Kept [] w ((w.alloc (.cells #[.bool p, .slice a n c] 29)).alloc (.cells #[.int .i64 0, .int .i64 0] 27)) from ((Kept.refl [] w).alloc _).alloc _)
  go_enter Try.func5, Try.ntmps5
  go_wp2_with fail
  refine (sBigFault_any _ _ _ _ _ _ (HS.out.rd.kept0 K0.out)).mono ?_
  rintro e w1 ⟨rfl, k1⟩
  rw [HF.out]
  obtain ⟨r0, u0, _⟩ := k1.top (g := w.heap.size + 1) (by simp) (by simp) 0 (v := .int .i64 0) rfl
  obtain ⟨r1, u1, _⟩ := k1.top (g := w.heap.size + 1) (by simp) (by simp) 1 (v := .int .i64 0) rfl
  have K1 := Lib.hid (K0.out.trans0 k1)
  clear k1
  go_wp2_with fail
  obtain ⟨_, s0, s1⟩ := cells2 (.int .i64 f) (.int .i64 0) r0 r1
  refine bodyPost_ret (v := .agg #[.int .i64 f, .int .i64 0]) (by simp [results, Try.results5, go_sem, s0, s1]) rfl ⟨rfl, (K1.out.setCell _ _ (by simp)).setCell _ _ (by simp)⟩

end Go.Proofs.Ytakomjocihlacaa
