/-
  The walk of the law on PointsFault. No condition but that the argument reads as a list of points.
-/
import Derived.Test.YtacmdeokaacijaaPtM
namespace Go.Proofs.Ytacmdeokaacijaa
open Go.RowKit

set_option maxHeartbeats 400000 in
theorem szPointS_in (a : Option Addr) (n c : Nat) (w : World) (hm : n ≤ 1048576) :
    Calls Try.prog 8 #[.slice a n c, .int .i64 1048576] w (Ans w (.int .i64 (1048576 - n))) := by
  go_enter Try.func8, Try.ntmps8
  go_wp2
  go_ret
  exact ⟨rfl, Kept.refl _ _⟩
set_option maxHeartbeats 400000 in
theorem szPointS_out (a : Option Addr) (n c : Nat) (w : World) (hm : 1048576 < n) (hmax : n ≤ 9223372036854775807) :
    Calls Try.prog 8 #[.slice a n c, .int .i64 1048576] w (Ans w (.int .i64 (-1))) := by
  go_enter Try.func8, Try.ntmps8
  go_wp2
  go_ret
  exact ⟨rfl, Kept.refl _ _⟩

set_option maxHeartbeats 400000 in
theorem FnExactPointsFault_walk (a : Option Addr) (n c : Nat) (xs : List Int) (w : World) (hmax : n ≤ 9223372036854775807) (h : n ≤ 1048576 → Rd w a (n * 2) xs) :
    Calls Try.prog 4 #[.slice a n c] w (Ans w (.bool true)) := by
  by_cases hbig : 1048576 < n
  · clear h
    go_enter Try.func4, Try.ntmps4
    go_wp2_with fail
    refine (szPointS_out _ _ _ _ hbig hmax).mono ?_
    rintro e w1 ⟨rfl, h1⟩
    go_wp2_with fail
    go_ret
    exact ⟨rfl, h1⟩
  · have hn : n ≤ 1048576 := by omega
    have HR := Lib.hid (h hn)
    clear h hbig hmax
    go_enter Try.func4, Try.ntmps4
    go_wp2_with fail
    refine (szPointS_in _ _ _ _ hn).mono ?_
    rintro e w0 ⟨rfl, h0⟩
    have HK0 := Lib.hid h0
    clear h0
    go_wp2_with fail
    refine (toPointS_any _ _ _ _ _ (HR.out.kept0 HK0.out) (by omega)).mono ?_
    rintro e w1 ⟨g1, rfl, hg1, hb1, hk1⟩
    have HB1 := Lib.hid hb1
    have HK1 := Lib.hid (HK0.out.trans0 hk1)
    clear hb1 hk1
    go_wp2_with fail
    refine (sPointsFault_any _ _ _ _ _ (rd_newP HB1.out HR.out.1 (by omega))).mono ?_
    rintro e w2 ⟨rfl, hk2⟩
    have HK2 := Lib.hid (HK1.out.trans0 hk2)
    clear hk2
    go_wp2_with fail
    refine (toPointS_any _ _ _ _ _ (HR.out.kept0 HK2.out) (by omega)).mono ?_
    rintro e w3 ⟨g3, rfl, hg3, hb3, hk3⟩
    have HB3 := Lib.hid hb3
    have HK3 := Lib.hid (HK2.out.trans0 hk3)
    clear hb3 hk3
    go_wp2_with fail
    refine (PointsFault_any _ _ _ _ _ (rd_newP HB3.out HR.out.1 (by omega))).mono ?_
    rintro e w4 ⟨rfl, hk4⟩
    have HB4 := Lib.hid (hk4.blk HB3.out (by simp))
    have HK4 := Lib.hid (HK3.out.trans0 hk4)
    clear hk4
    generalize ptsFault xs n = v
    go_wp2_with fail
    refine (toPointS_any _ _ _ _ _ (HR.out.kept0 HK4.out) (by omega)).mono ?_
    rintro e w5 ⟨g5, rfl, hg5, hb5, hk5⟩
    have HB5 := Lib.hid hb5
    have HB5' := Lib.hid (hk5.blk HB4.out (by simp))
    have HK5 := Lib.hid (HK4.out.trans0 hk5)
    clear hb5 hk5
    go_wp2_with fail
    refine (eqPointS_yes _ _ _ _ _ _ _ (rd_newP HB5'.out HR.out.1 (by omega)) (rd_newP HB5.out HR.out.1 (by omega))).mono ?_
    rintro e w6 ⟨rfl, hk6⟩
    have HK6 := Lib.hid (HK5.out.trans0 hk6)
    clear hk6
    go_wp2_with fail
    go_ret
    exact ⟨rfl, HK6.out⟩

end Go.Proofs.Ytacmdeokaacijaa
