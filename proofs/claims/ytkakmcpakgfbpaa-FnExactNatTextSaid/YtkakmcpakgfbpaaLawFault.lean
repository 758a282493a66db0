/-
  The walks of the laws on NatFault. No condition but that the arguments read as lists of numbers.
-/
import Derived.Test.YtkakmcpakgfbpaaFault
namespace Go.Proofs.Ytkakmcpakgfbpaa
open Go.RowKit

theorem rd_new {w : World} {g : Nat} {xs : List Int} {n : Nat} (h : Blk w g xs) (hn : xs.length = n) (hm : n ≤ 2000000) : Rd w (some ⟨g, 0, none⟩) n xs := by
  subst hn; exact (Sl.ofBlk h (by omega)).rd

theorem sl_new {w : World} {g : Nat} {xs : List Int} {n : Nat} (h : Blk w g xs) (hn : xs.length = n) (hm : n ≤ 2000000) : Sl w (some ⟨g, 0, none⟩) n n xs := by
  subst hn; exact Sl.ofBlk h (by omega)

set_option maxHeartbeats 400000 in
theorem FnExactNatFault_walk (a : Option Addr) (n c : Nat) (xs : List Int) (w : World) (h : Rd w a n xs) :
    Calls Try.prog 5 #[.slice a n c] w (Ans w (.bool true)) := by
  have hmax := h.2.1
  have HR := Lib.hid h
  have HL := Lib.hid h.1
  clear h
  by_cases hbig : 1048576 < n
  · go_enter Try.func5, Try.ntmps5
    go_wp2_with fail
    go_ret
    exact ⟨rfl, Kept.refl _ _⟩
  · go_enter Try.func5, Try.ntmps5
    go_wp2_with fail
    refine (toInt64S_any _ _ _ _ _ HR.out (by omega)).mono ?_
    rintro e w1 ⟨g1, rfl, hg1, hb1, hk1⟩
    rw [HL.out]
    have HB1 := Lib.hid hb1
    have HK1 := Lib.hid hk1
    clear hb1 hk1
    go_wp2_with fail
    refine (sNatFault_any _ _ _ _ _ (rd_new HB1.out HL.out (by omega))).mono ?_
    rintro e w2 ⟨rfl, hk2⟩
    have HK2 := Lib.hid (HK1.out.trans0 hk2)
    clear hk2
    go_wp2_with fail
    refine (toInt64S_any _ _ _ _ _ (HR.out.kept0 HK2.out) (by omega)).mono ?_
    rintro e w3 ⟨g3, rfl, hg3, hb3, hk3⟩
    rw [HL.out]
    have HB3 := Lib.hid hb3
    have HK3 := Lib.hid (HK2.out.trans0 hk3)
    clear hb3 hk3
    go_wp2_with fail
    refine (NatFault_any _ _ _ _ _ (rd_new HB3.out HL.out (by omega))).mono ?_
    rintro e w4 ⟨rfl, hk4⟩
    have HB4 := Lib.hid (hk4.blk HB3.out (by simp))
    have HK4 := Lib.hid (HK3.out.trans0 hk4)
    clear hk4
    generalize natFault xs = v
    go_wp2_with fail
    refine (toInt64S_any _ _ _ _ _ (HR.out.kept0 HK4.out) (by omega)).mono ?_
    rintro e w5 ⟨g5, rfl, hg5, hb5, hk5⟩
    rw [HL.out]
    have HB5 := Lib.hid hb5
    have HB5' := Lib.hid (hk5.blk HB4.out (by simp))
    have HK5 := Lib.hid (HK4.out.trans0 hk5)
    clear hb5 hk5
    go_wp2_with fail
    refine (eqInt64S_yes _ _ _ _ _ _ _ (rd_new HB5'.out HL.out (by omega)) (rd_new HB5.out HL.out (by omega))).mono ?_
    rintro e w6 ⟨rfl, hk6⟩
    have HK6 := Lib.hid (HK5.out.trans0 hk6)
    clear hk6
    go_wp2_with fail
    go_ret
    exact ⟨rfl, HK6.out⟩

end Go.Proofs.Ytkakmcpakgfbpaa
