/-
  Contracts of AddBigs, SubBigs, MulBigs, the program's and the model's. Condition: the limbs lie in blocks of numbers.
-/
import Derived.Test.YtlhiahhpmjiioaaBigD
import Derived.Test.YtlhiahhpmjiioaaSMul
namespace Go.Proofs.Ytlhiahhpmjiioaa
open Go.RowKit
attribute [local go_sem ↓] Go.wp_at_zero Go.wp_at_succ

theorem sv_not (q : Bool) (ys : List Int) : sv (!q) ys = - sv q ys := sg_not
theorem mag_sv {q : Bool} {ys : List Int} (h : Canon ys) : mag (sv q ys) = ys := by unfold sv; rw [mag_sg (canon_nonneg h).1, digits_val h]
theorem mag_neg (z : Int) : mag (-z) = mag z := by
  rcases Int.lt_or_le z 0 with h | h
  · rw [mag_yes h, mag_no (by omega)]
  · by_cases e : z = 0
    · subst e; rfl
    · rw [mag_yes (z := -z) (by omega), mag_no h, Int.neg_neg]
theorem sv_isNeg {q : Bool} {ys : List Int} (h : Canon ys) : sv (isNeg (- sv q ys)) ys = - sv q ys := by
  have := sv_mag (- sv q ys)
  rwa [mag_neg, mag_sv h] at this
/-- What l2Whole hands on lies where the limbs lay. -/
theorem fr_of_fit {B : Nat} {z : Int} {a b : Option Addr} (h : Fr B a (mag z).length) (hb : 0 < (fitB z).limbs.length → b = a) : Fr B b (fitB z).limbs.length := fun hn x hx => by
  rw [hb hn] at hx
  by_cases h40 : 40 < (mag z).length
  · rw [fitB_many h40] at hn; simp [noBig] at hn
  · rw [fitB_ok h40] at hn; exact h hn x hx

set_option maxHeartbeats 3200000 in
theorem l2Sub_any (p q : Bool) (a b : Option Addr) (n c m d : Nat) (xs ys : List Int) (w : World) (hx : Nat40 xs) (hy : Nat40 ys) (h : Sl w a n c xs) (h' : Sl w b m d ys) :
    Calls Try.prog 29 #[.agg #[.bool p, .slice a n c], .agg #[.bool q, .slice b m d]] w (BigV w.heap.size w (sv p xs - sv q ys)) := by
  have HS := Lib.hid h
  have HS' := Lib.hid h'
  have HX := Lib.hid hx
  have HY := Lib.hid hy
  have hm : mag (sv q ys) = ys := mag_sv hy.canon
  have hv : sg q (val (mag (sv q ys))) = sv q ys := by rw [hm]; rfl
  have hl : (mag (sv q ys)).length = m := by rw [hm]; exact h'.1
  have hr : sv p xs + sv (isNeg (- sv q ys)) ys = sv p xs - sv q ys := by rw [sv_isNeg hy.canon]; omega
  have HV := Lib.hid hv
  have HL := Lib.hid hl
  have HRR := Lib.hid hr
  rw [← hr]
  clear h h' hx hy hm hv hl hr
  go_enter Try.func29, Try.ntmps29
  go_wp2_with fail
  generalize hW : (((w.alloc (.cells #[.bool p, .slice a n c] 26)).alloc (.cells #[.bool q, .slice b m d] 26)).alloc (.cells #[.bool false, .slice none 0 0] 26)) = W
  have k0 : Kept [] (((w.alloc (.cells #[.bool p, .slice a n c] 26)).alloc (.cells #[.bool q, .slice b m d] 26)).alloc (.cells #[.bool false, .slice none 0 0] 26)) W := by rw [hW]; exact Kept.refl _ _
  have c00 := (k0.peel.peel.top (g := w.heap.size) (by simp) (by simp) 0 (v := .bool p) rfl).1
  have c01 := (k0.peel.peel.top (g := w.heap.size) (by simp) (by simp) 1 (v := .slice a n c) rfl).1
  have c10 := (k0.peel.top (g := w.heap.size + 1) (by simp) (by simp) 0 (v := .bool q) rfl).1
  have c11 := (k0.peel.top (g := w.heap.size + 1) (by simp) (by simp) 1 (v := .slice b m d) rfl).1
  obtain ⟨rc0, rf0, hsz⟩ := k0.top (g := w.heap.size + 1 + 1) (by simp) (by simp) 0 (v := .bool false) rfl
  obtain ⟨rc1, rf1, hsz⟩ := k0.top (g := w.heap.size + 1 + 1) (by simp) (by simp) 1 (v := .slice none 0 0) rfl
  have K0 := Lib.hid k0.peel.peel.peel
  clear k0 hW
  go_region_held3 (fun w' => w'.cell? ⟨w.heap.size, 0, none⟩ = some (.bool p) ∧ w'.cell? ⟨w.heap.size, 1, none⟩ = some (.slice a n c) ∧ w'.cell? ⟨w.heap.size + 1, 0, none⟩ = some (.bool q) ∧ w'.cell? ⟨w.heap.size + 1, 1, none⟩ = some (.slice b m d) ∧ Hid (Kept [w.heap.size + 1 + 1] W w'))
    ((go_split_ands; (try refine ⟨?_, ?_, ?_, ?_, ?_⟩) <;> with_reducible first | exact Lib.hid ((Kept.refl _ _).drew) | exact drew_cell (by assumption) | exact Kept.set2 (by assumption) | exact cell_set2 (by assumption) (by simp <;> omega) | exact Lib.hid (Kept.trans0 (Hid.out (by assumption)) (by assumption)) | exact Kept.cell (by assumption) (by assumption) (by simp)))
    (first
      | (go_at_call 50; go_split_ands; refine (l2Neg_any _ _ _ _ _ _ HV.out HL.out).mono ?_; rintro e w1 ⟨rfl, hk1⟩)
      | (go_at_call 30; go_split_ands; refine (l2Add_any _ _ _ _ _ _ _ _ _ _ _ HX.out HY.out (HS.out.kept0 (K0.out.drew.trans0 hk1)) (HS'.out.kept0 (K0.out.drew.trans0 hk1))).mono ?_; rintro e w2 ⟨a2, x2, rfl, hs2, hf2', hk3⟩; have hk2 := hk1.trans0 hk3; have hf2 := hf2'.mono (show W.heap.size ≤ w1.heap.size from hk1.size); have g0 := hk2.cell (p := ⟨w.heap.size + 1 + 1, 0, none⟩) rc0 (by simp); have g1 := hk2.cell (p := ⟨w.heap.size + 1 + 1, 1, none⟩) rc1 (by simp); have e0 := hk2.free' (p := ⟨w.heap.size + 1 + 1, 0, none⟩) rc0 rf0 (by simp); have e1 := hk2.free' (p := ⟨w.heap.size + 1 + 1, 1, none⟩) rc1 rf1 (by simp)))
  have HS2 := Lib.hid hs2
  have HF2 := Lib.hid hf2
  have HK2 := Lib.hid (K0.out.drew.trans0 hk2)
  obtain ⟨z, hz⟩ : ∃ z, z = sv p xs + sv (isNeg (- sv q ys)) ys := ⟨_, rfl⟩
  rw [← hz] at HS2 HF2 ⊢
  have HZ := Lib.hid hz
  obtain ⟨_, eb, ec⟩ := cells2 (.bool (isNeg z)) (.slice a2 (mag z).length x2) g0 g1
  clear hz hs2 hf2 hk2
  go_wp2_with fail
  exact bodyPost_ret (v := .agg #[.bool (isNeg z), .slice a2 (mag z).length x2]) (by simp [results, Try.results29, go_sem, eb, ec]) rfl (by rw [← HZ.out]; exact bigV_fin (w0 := W) (g := w.heap.size + 1 + 1) (by omega) HS2.out HF2.out hsz HK2.out)

end Go.Proofs.Ytlhiahhpmjiioaa
