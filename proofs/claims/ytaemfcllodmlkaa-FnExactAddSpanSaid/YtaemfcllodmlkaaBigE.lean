/-
  Contracts of AddBigs, SubBigs, MulBigs, the program's and the model's. Condition: the limbs lie in blocks of numbers.
-/
import Derived.Test.YtaemfcllodmlkaaBigD
import Derived.Test.YtaemfcllodmlkaaSMul
namespace Go.Proofs.Ytaemfcllodmlkaa
open Go.RowKit
attribute [local go_sem ↓] Go.wp_at_zero Go.wp_at_succ

theorem sv_not (q : Bool) (ys : List Int) : sv (!q) ys = - sv q ys := sg_not
theorem mag_sv {q : Bool} {ys : List Int} (h : Canon ys) : mag (sv q ys) = ys := by unfold sv; rw [mag_sg (canon_nonneg h).1, digits_val h]
theorem mag_neg (z : Int) : mag (-z) = mag z := by
  rcases Int.lt_or_le z 0 with h | h
  · rw [mag_yes h, mag_no (by omega)]
  · by_cases e : z = 0
    · subst e; rfl
    · rw [mag_yes (z := -z) (by omega), mag_no h, Int.neg_neg]
theorem sv_isNeg {q : Bool} {ys : List Int} (h : Canon ys) : sv (isNeg (- sv q ys)) ys = - sv q ys := by
  have := sv_mag (- sv q ys)
  rwa [mag_neg, mag_sv h] at this
/-- What l2Whole hands on lies where the limbs lay. -/
theorem fr_of_fit {B : Nat} {z : Int} {a b : Option Addr} (h : Fr B a (mag z).length) (hb : 0 < (fitB z).limbs.length → b = a) : Fr B b (fitB z).limbs.length := fun hn x hx => by
  rw [hb hn] at hx
  by_cases h40 : 40 < (mag z).length
  · rw [fitB_many h40] at hn; simp [noBig] at hn
  · rw [fitB_ok h40] at hn; exact h hn x hx

set_option maxHeartbeats 2000000 in
theorem AddBigs_any (p q : Bool) (a b : Option Addr) (n c m d : Nat) (xs ys : List Int) (w : World) (h : Sl w a n c xs) (h' : Sl w b m d ys) :
    Calls Try.prog 42 #[.agg #[.bool p, .slice a n c], .agg #[.bool q, .slice b m d]] w (BigR w (addB p xs q ys)) := by
  have HS := Lib.hid h
  have HS' := Lib.hid h'
  clear h h'
  have k0 : Kept [] w (((w.alloc (.cells #[.bool p, .slice a n c] 29)).alloc (.cells #[.bool q, .slice b m d] 29)).alloc (.cells #[.int .i64 0, .bool false, .slice none 0 0] 55)) := (((Kept.refl [] w).alloc _).alloc _).alloc _
  have K0 := Lib.hid k0
  clear k0
  unfold addB
  by_cases hz : bigFault2 p xs q ys = 0
  · rw [twoB_zero hz]
    have hz' := Lib.hid hz
    obtain ⟨hx, hy⟩ := bigFault2_zero hz
    have HX := Lib.hid hx.n40
    have HY := Lib.hid hy.n40
    have HBX := Lib.hid hx
    have HBY := Lib.hid hy
    clear hx hy hz
    go_enter Try.func42, Try.ntmps42
    go_wp2_with fail
    refine (firstBigFault_two _ _ _ _ _ _ _ _ _ _ _ _ (by simp) (HS.out.rd.kept0 K0.out) (HS'.out.rd.kept0 K0.out)).mono ?_
    rintro e w1 ⟨rfl, hk⟩
    rw [hz'.out]
    have c00 := (hk.peel.peel.top (g := w.heap.size) (by simp) (by simp) 0 (v := .bool p) rfl).1
    have c01 := (hk.peel.peel.top (g := w.heap.size) (by simp) (by simp) 1 (v := .slice a n c) rfl).1
    have c10 := (hk.peel.top (g := w.heap.size + 1) (by simp) (by simp) 0 (v := .bool q) rfl).1
    have c11 := (hk.peel.top (g := w.heap.size + 1) (by simp) (by simp) 1 (v := .slice b m d) rfl).1
    obtain ⟨rc0, rf0, hsz⟩ := hk.top (g := w.heap.size + 1 + 1) (by simp) (by simp) 0 (v := .int .i64 0) rfl
    obtain ⟨rc1, rf1, hsz⟩ := hk.top (g := w.heap.size + 1 + 1) (by simp) (by simp) 1 (v := .bool false) rfl
    obtain ⟨rc2, rf2, hsz⟩ := hk.top (g := w.heap.size + 1 + 1) (by simp) (by simp) 2 (v := .slice none 0 0) rfl
    have HK := Lib.hid (K0.out.trans0 hk)
    clear hk
    go_wp2_with fail
    refine (sumOfBigs_any _ _ _ _ _ _ _ _ _ _ _ HX.out HY.out (HS.out.kept0 HK.out) (HS'.out.kept0 HK.out)).mono ?_
    rintro e w2 ⟨a2, x2, rfl, hs2, hf2, hk2⟩
    obtain ⟨r, hr⟩ : ∃ r, r = fitB (sv p xs + sv q ys) := ⟨_, rfl⟩
    rw [← hr] at hs2 hf2 ⊢
    have HR := Lib.hid hr
    have HS2 := Lib.hid hs2
    have HF2 := Lib.hid hf2
    have HK2 := Lib.hid (HK.out.trans0 hk2)
    have g0 := hk2.cell (p := ⟨w.heap.size + 1 + 1, 0, none⟩) rc0 (by simp)
    have g1 := hk2.cell (p := ⟨w.heap.size + 1 + 1, 1, none⟩) rc1 (by simp)
    have g2 := hk2.cell (p := ⟨w.heap.size + 1 + 1, 2, none⟩) rc2 (by simp)
    have e0 := hk2.free' (p := ⟨w.heap.size + 1 + 1, 0, none⟩) rc0 rf0 (by simp)
    have e1 := hk2.free' (p := ⟨w.heap.size + 1 + 1, 1, none⟩) rc1 rf1 (by simp)
    have e2 := hk2.free' (p := ⟨w.heap.size + 1 + 1, 2, none⟩) rc2 rf2 (by simp)
    obtain ⟨ea, eb, ec⟩ := cells3' (.int .i64 r.code) (.bool r.neg) (.slice a2 r.limbs.length x2) g0 g1 g2
    clear hr hs2 hf2 hk2
    go_wp2_with fail
    exact bodyPost_ret (v := .agg #[.int .i64 r.code, .bool r.neg, .slice a2 r.limbs.length x2]) (by simp [results, Try.results42, go_sem, ea, eb, ec]) rfl (by rw [← HR.out]; exact bigR_fin (w0 := w1) (g := w.heap.size + 1 + 1) (by omega) HS2.out HF2.out hsz HK2.out)
  · rw [twoB_not hz]
    generalize hf : bigFault2 p xs q ys = f at *
    have hne : (f == 0) = false := by rw [beq_eq_false_iff_ne]; exact hz
    have HF := Lib.hid hf
    clear hf hz
    go_enter Try.func42, Try.ntmps42
    go_wp2_with fail
    refine (firstBigFault_two _ _ _ _ _ _ _ _ _ _ _ _ (by simp) (HS.out.rd.kept0 K0.out) (HS'.out.rd.kept0 K0.out)).mono ?_
    rintro e w1 ⟨rfl, hk⟩
    rw [HF.out]
    obtain ⟨rc0, rf0, hsz⟩ := hk.top (g := w.heap.size + 1 + 1) (by simp) (by simp) 0 (v := .int .i64 0) rfl
    obtain ⟨rc1, rf1, hsz⟩ := hk.top (g := w.heap.size + 1 + 1) (by simp) (by simp) 1 (v := .bool false) rfl
    obtain ⟨rc2, rf2, hsz⟩ := hk.top (g := w.heap.size + 1 + 1) (by simp) (by simp) 2 (v := .slice none 0 0) rfl
    have HK := Lib.hid (K0.out.trans0 hk)
    clear hk
    obtain ⟨ea, eb, ec⟩ := cells3' (.int .i64 f) (.bool false) (.slice none 0 0) rc0 rc1 rc2
    go_wp2_with fail
    exact bodyPost_ret (v := .agg #[.int .i64 f, .bool false, .slice none 0 0]) (by simp [results, Try.results42, go_sem, ea, eb, ec]) rfl (bigR_fin (w0 := w1) (r := noBig f) (a := none) (c := 0) (g := w.heap.size + 1 + 1) (by omega) (Sl.nil _) (fun h => by simp [noBig] at h) hsz HK.out)

set_option maxHeartbeats 2000000 in
theorem SubBigs_any (p q : Bool) (a b : Option Addr) (n c m d : Nat) (xs ys : List Int) (w : World) (h : Sl w a n c xs) (h' : Sl w b m d ys) :
    Calls Try.prog 46 #[.agg #[.bool p, .slice a n c], .agg #[.bool q, .slice b m d]] w (BigR w (subB p xs q ys)) := by
  have HS := Lib.hid h
  have HS' := Lib.hid h'
  clear h h'
  have k0 : Kept [] w (((w.alloc (.cells #[.bool p, .slice a n c] 29)).alloc (.cells #[.bool q, .slice b m d] 29)).alloc (.cells #[.int .i64 0, .bool false, .slice none 0 0] 55)) := (((Kept.refl [] w).alloc _).alloc _).alloc _
  have K0 := Lib.hid k0
  clear k0
  unfold subB
  by_cases hz : bigFault2 p xs q ys = 0
  · rw [twoB_zero hz]
    have hz' := Lib.hid hz
    obtain ⟨hx, hy⟩ := bigFault2_zero hz
    have HX := Lib.hid hx.n40
    have HY := Lib.hid hy.n40
    have HBX := Lib.hid hx
    have HBY := Lib.hid hy
    rw [show sv p xs - sv q ys = sv p xs + sv (!q) ys by rw [sv_not]; omega]
    clear hx hy hz
    go_enter Try.func46, Try.ntmps46
    go_wp2_with fail
    refine (firstBigFault_two _ _ _ _ _ _ _ _ _ _ _ _ (by simp) (HS.out.rd.kept0 K0.out) (HS'.out.rd.kept0 K0.out)).mono ?_
    rintro e w1 ⟨rfl, hk⟩
    rw [hz'.out]
    have c00 := (hk.peel.peel.top (g := w.heap.size) (by simp) (by simp) 0 (v := .bool p) rfl).1
    have c01 := (hk.peel.peel.top (g := w.heap.size) (by simp) (by simp) 1 (v := .slice a n c) rfl).1
    have c10 := (hk.peel.top (g := w.heap.size + 1) (by simp) (by simp) 0 (v := .bool q) rfl).1
    have c11 := (hk.peel.top (g := w.heap.size + 1) (by simp) (by simp) 1 (v := .slice b m d) rfl).1
    obtain ⟨rc0, rf0, hsz⟩ := hk.top (g := w.heap.size + 1 + 1) (by simp) (by simp) 0 (v := .int .i64 0) rfl
    obtain ⟨rc1, rf1, hsz⟩ := hk.top (g := w.heap.size + 1 + 1) (by simp) (by simp) 1 (v := .bool false) rfl
    obtain ⟨rc2, rf2, hsz⟩ := hk.top (g := w.heap.size + 1 + 1) (by simp) (by simp) 2 (v := .slice none 0 0) rfl
    have HK := Lib.hid (K0.out.trans0 hk)
    clear hk
    go_wp2_with fail
    refine (sumOfBigs_any _ _ _ _ _ _ _ _ _ _ _ HX.out HY.out (HS.out.kept0 HK.out) (HS'.out.kept0 HK.out)).mono ?_
    rintro e w2 ⟨a2, x2, rfl, hs2, hf2, hk2⟩
    obtain ⟨r, hr⟩ : ∃ r, r = fitB (sv p xs + sv (!q) ys) := ⟨_, rfl⟩
    rw [← hr] at hs2 hf2 ⊢
    have HR := Lib.hid hr
    have HS2 := Lib.hid hs2
    have HF2 := Lib.hid hf2
    have HK2 := Lib.hid (HK.out.trans0 hk2)
    have g0 := hk2.cell (p := ⟨w.heap.size + 1 + 1, 0, none⟩) rc0 (by simp)
    have g1 := hk2.cell (p := ⟨w.heap.size + 1 + 1, 1, none⟩) rc1 (by simp)
    have g2 := hk2.cell (p := ⟨w.heap.size + 1 + 1, 2, none⟩) rc2 (by simp)
    have e0 := hk2.free' (p := ⟨w.heap.size + 1 + 1, 0, none⟩) rc0 rf0 (by simp)
    have e1 := hk2.free' (p := ⟨w.heap.size + 1 + 1, 1, none⟩) rc1 rf1 (by simp)
    have e2 := hk2.free' (p := ⟨w.heap.size + 1 + 1, 2, none⟩) rc2 rf2 (by simp)
    obtain ⟨ea, eb, ec⟩ := cells3' (.int .i64 r.code) (.bool r.neg) (.slice a2 r.limbs.length x2) g0 g1 g2
    clear hr hs2 hf2 hk2
    go_wp2_with fail
    exact bodyPost_ret (v := .agg #[.int .i64 r.code, .bool r.neg, .slice a2 r.limbs.length x2]) (by simp [results, Try.results46, go_sem, ea, eb, ec]) rfl (by rw [← HR.out]; exact bigR_fin (w0 := w1) (g := w.heap.size + 1 + 1) (by omega) HS2.out HF2.out hsz HK2.out)
  · rw [twoB_not hz]
    generalize hf : bigFault2 p xs q ys = f at *
    have hne : (f == 0) = false := by rw [beq_eq_false_iff_ne]; exact hz
    have HF := Lib.hid hf
    clear hf hz
    go_enter Try.func46, Try.ntmps46
    go_wp2_with fail
    refine (firstBigFault_two _ _ _ _ _ _ _ _ _ _ _ _ (by simp) (HS.out.rd.kept0 K0.out) (HS'.out.rd.kept0 K0.out)).mono ?_
    rintro e w1 ⟨rfl, hk⟩
    rw [HF.out]
    obtain ⟨rc0, rf0, hsz⟩ := hk.top (g := w.heap.size + 1 + 1) (by simp) (by simp) 0 (v := .int .i64 0) rfl
    obtain ⟨rc1, rf1, hsz⟩ := hk.top (g := w.heap.size + 1 + 1) (by simp) (by simp) 1 (v := .bool false) rfl
    obtain ⟨rc2, rf2, hsz⟩ := hk.top (g := w.heap.size + 1 + 1) (by simp) (by simp) 2 (v := .slice none 0 0) rfl
    have HK := Lib.hid (K0.out.trans0 hk)
    clear hk
    obtain ⟨ea, eb, ec⟩ := cells3' (.int .i64 f) (.bool false) (.slice none 0 0) rc0 rc1 rc2
    go_wp2_with fail
    exact bodyPost_ret (v := .agg #[.int .i64 f, .bool false, .slice none 0 0]) (by simp [results, Try.results46, go_sem, ea, eb, ec]) rfl (bigR_fin (w0 := w1) (r := noBig f) (a := none) (c := 0) (g := w.heap.size + 1 + 1) (by omega) (Sl.nil _) (fun h => by simp [noBig] at h) hsz HK.out)

set_option maxHeartbeats 3200000 in
theorem l2Sub_any (p q : Bool) (a b : Option Addr) (n c m d : Nat) (xs ys : List Int) (w : World) (hx : Nat40 xs) (hy : Nat40 ys) (h : Sl w a n c xs) (h' : Sl w b m d ys) :
    Calls Try.prog 53 #[.agg #[.bool p, .slice a n c], .agg #[.bool q, .slice b m d]] w (BigV w.heap.size w (sv p xs - sv q ys)) := by
  have HS := Lib.hid h
  have HS' := Lib.hid h'
  have HX := Lib.hid hx
  have HY := Lib.hid hy
  have hm : mag (sv q ys) = ys := mag_sv hy.canon
  have hv : sg q (val (mag (sv q ys))) = sv q ys := by rw [hm]; rfl
  have hl : (mag (sv q ys)).length = m := by rw [hm]; exact h'.1
  have hr : sv p xs + sv (isNeg (- sv q ys)) ys = sv p xs - sv q ys := by rw [sv_isNeg hy.canon]; omega
  have HV := Lib.hid hv
  have HL := Lib.hid hl
  have HRR := Lib.hid hr
  rw [← hr]
  clear h h' hx hy hm hv hl hr
  go_enter Try.func53, Try.ntmps53
  go_wp2_with fail
  generalize hW : (((w.alloc (.cells #[.bool p, .slice a n c] 29)).alloc (.cells #[.bool q, .slice b m d] 29)).alloc (.cells #[.bool false, .slice none 0 0] 29)) = W
  have k0 : Kept [] (((w.alloc (.cells #[.bool p, .slice a n c] 29)).alloc (.cells #[.bool q, .slice b m d] 29)).alloc (.cells #[.bool false, .slice none 0 0] 29)) W := by rw [hW]; exact Kept.refl _ _
  have c00 := (k0.peel.peel.top (g := w.heap.size) (by simp) (by simp) 0 (v := .bool p) rfl).1
  have c01 := (k0.peel.peel.top (g := w.heap.size) (by simp) (by simp) 1 (v := .slice a n c) rfl).1
  have c10 := (k0.peel.top (g := w.heap.size + 1) (by simp) (by simp) 0 (v := .bool q) rfl).1
  have c11 := (k0.peel.top (g := w.heap.size + 1) (by simp) (by simp) 1 (v := .slice b m d) rfl).1
  obtain ⟨rc0, rf0, hsz⟩ := k0.top (g := w.heap.size + 1 + 1) (by simp) (by simp) 0 (v := .bool false) rfl
  obtain ⟨rc1, rf1, hsz⟩ := k0.top (g := w.heap.size + 1 + 1) (by simp) (by simp) 1 (v := .slice none 0 0) rfl
  have K0 := Lib.hid k0.peel.peel.peel
  clear k0 hW
  go_region_held3 (fun w' => w'.cell? ⟨w.heap.size, 0, none⟩ = some (.bool p) ∧ w'.cell? ⟨w.heap.size, 1, none⟩ = some (.slice a n c) ∧ w'.cell? ⟨w.heap.size + 1, 0, none⟩ = some (.bool q) ∧ w'.cell? ⟨w.heap.size + 1, 1, none⟩ = some (.slice b m d) ∧ Hid (Kept [w.heap.size + 1 + 1] W w'))
    ((go_split_ands; (try refine ⟨?_, ?_, ?_, ?_, ?_⟩) <;> with_reducible first | exact Lib.hid ((Kept.refl _ _).drew) | exact drew_cell (by assumption) | exact Kept.set2 (by assumption) | exact cell_set2 (by assumption) (by simp <;> omega) | exact Lib.hid (Kept.trans0 (Hid.out (by assumption)) (by assumption)) | exact Kept.cell (by assumption) (by assumption) (by simp)))
    (first
      | (go_at_call 67; go_split_ands; refine (l2Neg_any _ _ _ _ _ _ HV.out HL.out).mono ?_; rintro e w1 ⟨rfl, hk1⟩)
      | (go_at_call 58; go_split_ands; refine (l2Add_any _ _ _ _ _ _ _ _ _ _ _ HX.out HY.out (HS.out.kept0 (K0.out.drew.trans0 hk1)) (HS'.out.kept0 (K0.out.drew.trans0 hk1))).mono ?_; rintro e w2 ⟨a2, x2, rfl, hs2, hf2', hk3⟩; have hk2 := hk1.trans0 hk3; have hf2 := hf2'.mono (show W.heap.size ≤ w1.heap.size from hk1.size); have g0 := hk2.cell (p := ⟨w.heap.size + 1 + 1, 0, none⟩) rc0 (by simp); have g1 := hk2.cell (p := ⟨w.heap.size + 1 + 1, 1, none⟩) rc1 (by simp); have e0 := hk2.free' (p := ⟨w.heap.size + 1 + 1, 0, none⟩) rc0 rf0 (by simp); have e1 := hk2.free' (p := ⟨w.heap.size + 1 + 1, 1, none⟩) rc1 rf1 (by simp)))
  have HS2 := Lib.hid hs2
  have HF2 := Lib.hid hf2
  have HK2 := Lib.hid (K0.out.drew.trans0 hk2)
  obtain ⟨z, hz⟩ : ∃ z, z = sv p xs + sv (isNeg (- sv q ys)) ys := ⟨_, rfl⟩
  rw [← hz] at HS2 HF2 ⊢
  have HZ := Lib.hid hz
  obtain ⟨_, eb, ec⟩ := cells2 (.bool (isNeg z)) (.slice a2 (mag z).length x2) g0 g1
  clear hz hs2 hf2 hk2
  go_wp2_with fail
  exact bodyPost_ret (v := .agg #[.bool (isNeg z), .slice a2 (mag z).length x2]) (by simp [results, Try.results53, go_sem, eb, ec]) rfl (by rw [← HZ.out]; exact bigV_fin (w0 := W) (g := w.heap.size + 1 + 1) (by omega) HS2.out HF2.out hsz HK2.out)

end Go.Proofs.Ytaemfcllodmlkaa
