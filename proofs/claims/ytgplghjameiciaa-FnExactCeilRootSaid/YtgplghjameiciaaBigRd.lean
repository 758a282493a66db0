/-
  Contract of the model's CeilRoot. Condition: the limbs lie in a block of numbers.
-/
import Derived.Test.YtgplghjameiciaaBigRc
namespace Go.Proofs.Ytgplghjameiciaa
open Go.RowKit

set_option maxHeartbeats 2000000 in
theorem sCeilRoot_any (p : Bool) (a : Option Addr) (n c : Nat) (xs : List Int) (w : World) (h : Sl w a n c xs) :
    Calls Try.prog 56 #[.agg #[.bool p, .slice a n c]] w (BigR w (rootB csq p xs)) := by
  have HS := Lib.hid h
  clear h
  have k0 : Kept [] w ((w.alloc (.cells #[.bool p, .slice a n c] 40)).alloc (.cells #[.int .i64 0, .bool false, .slice none 0 0] 42)) := ((Kept.refl [] w).alloc _).alloc _
  have K0 := Lib.hid k0
  clear k0
  unfold rootB
  by_cases hz : bigFault p xs = 0
  · rw [if_pos hz]
    have hz' := Lib.hid hz
    have HX := Lib.hid (bigFault_zero hz).n40
    clear hz
    cases p
    · rw [if_neg Bool.false_ne_true]
      go_enter Try.func56, Try.ntmps56
      go_wp2_with fail
      refine (l2Roots_any _ _ _ _ _ _ (HS.out.rd.kept0 K0.out)).mono ?_
      rintro e w1 ⟨rfl, hk⟩
      rw [if_pos hz'.out, if_neg Bool.false_ne_true]
      have c00 := (hk.peel.top (g := w.heap.size) (by simp) (by simp) 0 (v := .bool false) rfl).1
      have c01 := (hk.peel.top (g := w.heap.size) (by simp) (by simp) 1 (v := .slice a n c) rfl).1
      obtain ⟨rc0, rf0, hsz⟩ := hk.top (g := w.heap.size + 1) (by simp) (by simp) 0 (v := .int .i64 0) rfl
      obtain ⟨rc1, rf1, hsz⟩ := hk.top (g := w.heap.size + 1) (by simp) (by simp) 1 (v := .bool false) rfl
      obtain ⟨rc2, rf2, hsz⟩ := hk.top (g := w.heap.size + 1) (by simp) (by simp) 2 (v := .slice none 0 0) rfl
      have HK := Lib.hid (K0.out.trans0 hk)
      have hk1s := hk.size
      simp only [World.size_alloc] at hk1s
      clear hk
      go_wp2_with fail
      refine (l2CeilRoot_any _ _ _ _ _ (HS.out.kept0 HK.out) HX.out).mono ?_
      rintro e w2 ⟨a2, x2, rfl, hs2, hf2, hk2⟩
      have hf2 := hf2.mono (B' := w.heap.size + 1 + 1) (by omega)
      have g0 := hk2.cell (p := ⟨w.heap.size + 1, 0, none⟩) rc0 (by simp)
      have g1 := hk2.cell (p := ⟨w.heap.size + 1, 1, none⟩) rc1 (by simp)
      have g2 := hk2.cell (p := ⟨w.heap.size + 1, 2, none⟩) rc2 (by simp)
      have e0 := hk2.free' (p := ⟨w.heap.size + 1, 0, none⟩) rc0 rf0 (by simp)
      have e1 := hk2.free' (p := ⟨w.heap.size + 1, 1, none⟩) rc1 rf1 (by simp)
      have e2 := hk2.free' (p := ⟨w.heap.size + 1, 2, none⟩) rc2 rf2 (by simp)
      have HS2 := Lib.hid hs2
      have HF2 := Lib.hid hf2
      have HK2 := Lib.hid (HK.out.trans0 hk2)
      obtain ⟨zs, hzs⟩ : ∃ zs, zs = digits (csq (val xs)) := ⟨_, rfl⟩
      rw [← hzs] at HS2 HF2 ⊢
      have HZS := Lib.hid hzs
      clear hzs hs2 hf2 hk2
      go_wp2_with fail
      have hbig := l2Big_any false a2 zs.length x2 (csq (val xs)) w2 ((csq_le (canon_nonneg HX.out.canon).1).1) (by rw [HZS.out])
      refine hbig.mono ?_
      rintro e w3 ⟨rfl, hk3⟩
      have g0 := hk3.cell (p := ⟨w.heap.size + 1, 0, none⟩) g0 (by simp)
      have g1 := hk3.cell (p := ⟨w.heap.size + 1, 1, none⟩) g1 (by simp)
      have g2 := hk3.cell (p := ⟨w.heap.size + 1, 2, none⟩) g2 (by simp)
      have e0 := hk3.free' (p := ⟨w.heap.size + 1, 0, none⟩) (by assumption) e0 (by simp)
      have e1 := hk3.free' (p := ⟨w.heap.size + 1, 1, none⟩) (by assumption) e1 (by simp)
      have e2 := hk3.free' (p := ⟨w.heap.size + 1, 2, none⟩) (by assumption) e2 (by simp)
      have hneg : isNeg (sg false (csq (val xs))) = false := isNeg_no ((csq_le (canon_nonneg HX.out.canon).1).1)
      rw [hneg]
      have HS2 := Lib.hid (HS2.out.kept0 hk3)
      have HK2 := Lib.hid (HK2.out.trans0 hk3)
      clear hk3 hbig hneg
      obtain ⟨ea, eb, ec⟩ := cells3' (.int .i64 0) (.bool false) (.slice a2 zs.length x2) g0 g1 g2
      go_wp2_with fail
      exact bodyPost_ret (v := .agg #[.int .i64 0, .bool false, .slice a2 zs.length x2]) (by simp [results, Try.results56, go_sem, ea, eb, ec]) rfl (by rw [← HZS.out]; exact bigR_fin2 (r := ⟨0, false, zs⟩) HS2.out HF2.out HK2.out)
    · rw [if_pos rfl]
      go_enter Try.func56, Try.ntmps56
      go_wp2_with fail
      refine (l2Roots_any _ _ _ _ _ _ (HS.out.rd.kept0 K0.out)).mono ?_
      rintro e w1 ⟨rfl, hk⟩
      rw [if_pos hz'.out, if_pos rfl]
      have c00 := (hk.peel.top (g := w.heap.size) (by simp) (by simp) 0 (v := .bool true) rfl).1
      have c01 := (hk.peel.top (g := w.heap.size) (by simp) (by simp) 1 (v := .slice a n c) rfl).1
      obtain ⟨rc0, rf0, hsz⟩ := hk.top (g := w.heap.size + 1) (by simp) (by simp) 0 (v := .int .i64 0) rfl
      obtain ⟨rc1, rf1, hsz⟩ := hk.top (g := w.heap.size + 1) (by simp) (by simp) 1 (v := .bool false) rfl
      obtain ⟨rc2, rf2, hsz⟩ := hk.top (g := w.heap.size + 1) (by simp) (by simp) 2 (v := .slice none 0 0) rfl
      have HK := Lib.hid (K0.out.trans0 hk)
      clear hk
      obtain ⟨ea, eb, ec⟩ := cells3' (.int .i64 3) (.bool false) (.slice none 0 0) rc0 rc1 rc2
      go_wp2_with fail
      exact bodyPost_ret (v := .agg #[.int .i64 3, .bool false, .slice none 0 0]) (by simp [results, Try.results56, go_sem, ea, eb, ec]) rfl (bigR_fin2 (r := noBig 3) (a := none) (c := 0) (Sl.nil _) (fun h => by simp [noBig] at h) HK.out)
  · rw [if_neg hz]
    generalize hf : bigFault p xs = f at *
    have hne : (f == 0) = false := by rw [beq_eq_false_iff_ne]; exact hz
    have HF := Lib.hid hf
    have hfz := Lib.hid hz
    clear hf hz
    go_enter Try.func56, Try.ntmps56
    go_wp2_with fail
    refine (l2Roots_any _ _ _ _ _ _ (HS.out.rd.kept0 K0.out)).mono ?_
    rintro e w1 ⟨rfl, hk⟩
    rw [HF.out, if_neg hfz.out]
    have c00 := (hk.peel.top (g := w.heap.size) (by simp) (by simp) 0 (v := .bool p) rfl).1
    have c01 := (hk.peel.top (g := w.heap.size) (by simp) (by simp) 1 (v := .slice a n c) rfl).1
    obtain ⟨rc0, rf0, hsz⟩ := hk.top (g := w.heap.size + 1) (by simp) (by simp) 0 (v := .int .i64 0) rfl
    obtain ⟨rc1, rf1, hsz⟩ := hk.top (g := w.heap.size + 1) (by simp) (by simp) 1 (v := .bool false) rfl
    obtain ⟨rc2, rf2, hsz⟩ := hk.top (g := w.heap.size + 1) (by simp) (by simp) 2 (v := .slice none 0 0) rfl
    have HK := Lib.hid (K0.out.trans0 hk)
    clear hk
    obtain ⟨ea, eb, ec⟩ := cells3' (.int .i64 f) (.bool false) (.slice none 0 0) rc0 rc1 rc2
    go_wp2_with fail
    exact bodyPost_ret (v := .agg #[.int .i64 f, .bool false, .slice none 0 0]) (by simp [results, Try.results56, go_sem, ea, eb, ec]) rfl (bigR_fin2 (r := noBig f) (a := none) (c := 0) (Sl.nil _) (fun h => by simp [noBig] at h) HK.out)

end Go.Proofs.Ytgplghjameiciaa
