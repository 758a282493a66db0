/-
  The walk of the law on CompareNats. No condition but that the arguments read as lists of numbers.
-/
import Derived.Test.YtgplghjameiciaaJ2
namespace Go.Proofs.Ytgplghjameiciaa
open Go.RowKit

set_option maxHeartbeats 400000 in
theorem FnExactCompareNats_walk (a : Option Addr) (n c : Nat) (xs : List Int) (b : Option Addr) (m d : Nat) (ys : List Int) (w : World) (h : Rd w a n xs) (h' : Rd w b m ys) :
    Calls Try.prog 7 #[.slice a n c, .slice b m d] w (Ans w (.bool true)) := by
  have hmax := h.2.1
  have hmax' := h'.2.1
  have HR := Lib.hid h
  have HL := Lib.hid h.1
  have HR' := Lib.hid h'
  have HL' := Lib.hid h'.1
  clear h h'
  by_cases hbig : 1048576 < n
  · go_enter Try.func7, Try.ntmps7
    go_wp2_with fail
    go_ret
    exact ⟨rfl, Kept.refl _ _⟩
  by_cases hbig' : 1048576 < m
  · go_enter Try.func7, Try.ntmps7
    go_wp2_with fail
    go_ret
    exact ⟨rfl, Kept.refl _ _⟩
  go_enter Try.func7, Try.ntmps7
  go_wp2_with fail
  refine (toInt64S_any _ _ _ _ _ HR.out (by omega)).mono ?_
  rintro e w1 ⟨g1, rfl, hg1, hb1, hk1⟩
  rw [HL.out]
  have HB1 := Lib.hid hb1
  have HK1 := Lib.hid hk1
  clear hb1 hk1
  go_wp2_with fail
  refine (toInt64S_any _ _ _ _ _ (HR'.out.kept0 HK1.out) (by omega)).mono ?_
  rintro e w2 ⟨g2, rfl, hg2, hb2, hk2⟩
  rw [HL'.out]
  have HB1' := Lib.hid (hk2.blk HB1.out (by simp))
  have HB2 := Lib.hid hb2
  have HK2 := Lib.hid (HK1.out.trans0 hk2)
  clear hb2 hk2
  go_wp2_with fail
  refine (sCompareNats_any _ _ _ _ _ _ _ _ _ (rd_new HB1'.out HL.out (by omega)) (rd_new HB2.out HL'.out (by omega))).mono ?_
  rintro e w3 ⟨rfl, hk3⟩
  have HK3 := Lib.hid (HK2.out.trans0 hk3)
  clear hk3
  obtain ⟨v, hv⟩ : ∃ v, v = (if fault2 xs ys = 0 then cmpV (val xs) (val ys) else 0) := ⟨_, rfl⟩
  rw [← hv]
  have HV := Lib.hid hv
  clear hv
  go_wp2_with fail
  refine (toInt64S_any _ _ _ _ _ (HR.out.kept0 HK3.out) (by omega)).mono ?_
  rintro e w4 ⟨g4, rfl, hg4, hb4, hk4⟩
  rw [HL.out]
  have HB4 := Lib.hid hb4
  have HK4 := Lib.hid (HK3.out.trans0 hk4)
  clear hb4 hk4
  go_wp2_with fail
  refine (toInt64S_any _ _ _ _ _ (HR'.out.kept0 HK4.out) (by omega)).mono ?_
  rintro e w5 ⟨g5, rfl, hg5, hb5, hk5⟩
  rw [HL'.out]
  have HB45 := Lib.hid (hk5.blk HB4.out (by simp))
  have HB5 := Lib.hid hb5
  have HK5 := Lib.hid (HK4.out.trans0 hk5)
  clear hb5 hk5
  go_wp2_with fail
  refine (CompareNats_any _ _ _ _ _ _ _ _ _ (rd_new HB45.out HL.out (by omega)) (rd_new HB5.out HL'.out (by omega))).mono ?_
  rintro e w6 ⟨rfl, hk6⟩
  have HB46 := Lib.hid (hk6.blk HB45.out (by simp))
  have HB56 := Lib.hid (hk6.blk HB5.out (by simp))
  have HK6 := Lib.hid (HK5.out.trans0 hk6)
  clear hk6
  rw [← HV.out]
  go_wp2_with fail
  refine (toInt64S_any _ _ _ _ _ (HR.out.kept0 HK6.out) (by omega)).mono ?_
  rintro e w7 ⟨g7, rfl, hg7, hb7, hk7⟩
  rw [HL.out]
  have HB47 := Lib.hid (hk7.blk HB46.out (by simp))
  have HB57 := Lib.hid (hk7.blk HB56.out (by simp))
  have HB7 := Lib.hid hb7
  have HK7 := Lib.hid (HK6.out.trans0 hk7)
  clear hb7 hk7
  go_wp2_with fail
  refine (eqInt64S_yes _ _ _ _ _ _ _ (rd_new HB47.out HL.out (by omega)) (rd_new HB7.out HL.out (by omega))).mono ?_
  rintro e w8 ⟨rfl, hk8⟩
  have HB58 := Lib.hid (hk8.blk HB57.out (by simp))
  have HK8 := Lib.hid (HK7.out.trans0 hk8)
  clear hk8
  go_wp2_with fail
  refine (toInt64S_any _ _ _ _ _ (HR'.out.kept0 HK8.out) (by omega)).mono ?_
  rintro e w9 ⟨g9, rfl, hg9, hb9, hk9⟩
  rw [HL'.out]
  have HB59 := Lib.hid (hk9.blk HB58.out (by simp))
  have HB9 := Lib.hid hb9
  have HK9 := Lib.hid (HK8.out.trans0 hk9)
  clear hb9 hk9
  go_wp2_with fail
  refine (eqInt64S_yes _ _ _ _ _ _ _ (rd_new HB59.out HL'.out (by omega)) (rd_new HB9.out HL'.out (by omega))).mono ?_
  rintro e w10 ⟨rfl, hk10⟩
  have HK10 := Lib.hid (HK9.out.trans0 hk10)
  clear hk10
  go_wp2_with fail
  go_ret
  exact ⟨rfl, HK10.out⟩

end Go.Proofs.Ytgplghjameiciaa
