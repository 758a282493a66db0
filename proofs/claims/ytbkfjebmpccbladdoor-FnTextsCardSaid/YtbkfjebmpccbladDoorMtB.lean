/-
  Contract of the program's MetreText. Condition: the library's table of powers of ten lies as its text lays it.
-/
import Derived.Test.YtbkfjebmpccbladDoorMtA
import Derived.Test.YtbkfjebmpccbladDoorDecT
namespace Go.Proofs.YtbkfjebmpccbladDoor
open Go.RowKit

theorem decimalText_six (n : Int) (w : World) (hn0 : -9223372036854775807 ≤ n) (hn1 : n ≤ 9223372036854775807) (hp : Pow10 w) :
    Calls Tryd.prog 17 #[.int .i64 n, .int .i64 1000000] w (Ans w (.string (strB (decTx 1000000 six n)))) :=
  decimalText_any ten_six n w hn0 hn1 hp

set_option maxHeartbeats 2000000 in
theorem MetreText_any (n : Int) (w : World) (hp : Pow10 w) : Calls Tryd.prog 6 #[.int .i64 n] w (Ans w (.agg #[.int .i64 (metreC n), .string (metreS n)])) := by
  have HP := Lib.hid hp
  clear hp
  obtain ⟨b, hb⟩ : ∃ b, inTold n = b := ⟨_, rfl⟩
  have HB := Lib.hid (ord_xyz (x := -9000000000000000) (y := n) (z := 9000000000000000) b hb.symm)
  cases b
  · have hv := Lib.hid (metre_no hb)
    clear hb
    go_enter Tryd.func6, Tryd.ntmps6
    go_wp2_with fail
    refine (inOrder_any _ _ _ _ _ (rd_threeK _ _ _ _ (by simp)) _ HB.out).mono ?_
    rintro e w1 ⟨rfl, h1⟩
    have K1 := Lib.hid h1.peel
    obtain ⟨⟨c0, c1⟩, f0, f1⟩ := textBoxM K1.out
    clear h1
    go_wp2_with fail
    obtain ⟨_, s0, s1⟩ := cells2 (.int .i64 3) (.string ⟨#[]⟩) c0 c1
    refine bodyPost_ret (v := .agg #[.int .i64 3, .string ⟨#[]⟩]) (by simp [results, Tryd.results6, go_sem, s0, s1]) rfl ⟨by rw [hv.out.1, hv.out.2], ?_⟩
    exact (K1.out.peel.setCell _ _ (by simp)).setCell _ _ (by simp)
  · have hv := Lib.hid (metre_yes hb)
    have hn : -9000000000000000 ≤ n ∧ n ≤ 9000000000000000 := of_decide_eq_true hb
    have hn0 : -9223372036854775807 ≤ n := by omega
    have hn1 : n ≤ 9223372036854775807 := by omega
    clear hb hn
    obtain ⟨T, hT⟩ : ∃ T, strB (decTx 1000000 six n) = T := ⟨_, rfl⟩
    have HT := Lib.hid hT
    rw [hT] at hv
    clear hT
    go_enter Tryd.func6, Tryd.ntmps6
    go_wp2_with fail
    refine (inOrder_any _ _ _ _ _ (rd_threeK _ _ _ _ (by simp)) _ HB.out).mono ?_
    rintro e w1 ⟨rfl, h1⟩
    have K1 := Lib.hid h1.peel
    clear h1
    go_wp2_with fail
    refine (decimalText_six n _ hn0 hn1 (HP.out.kept K1.out.peel)).mono ?_
    rintro e w2 ⟨rfl, h2⟩
    rw [HT.out]
    have K2 := Lib.hid (K1.out.trans0 h2)
    clear h2
    obtain ⟨⟨c0, c1⟩, f0, f1⟩ := textBoxM K2.out
    go_wp2_with fail
    obtain ⟨_, s0, s1⟩ := cells2 (.int .i64 0) (.string T) c0 c1
    refine bodyPost_ret (v := .agg #[.int .i64 0, .string T]) (by simp [results, Tryd.results6, go_sem, s0, s1]) rfl ⟨by rw [hv.out.1, hv.out.2], ?_⟩
    exact (K2.out.peel.setCell _ _ (by simp)).setCell _ _ (by simp)

end Go.Proofs.YtbkfjebmpccbladDoor
