/-
  Contracts of BigOf, both sides. Condition: the number is an int64.
-/
import Derived.Test.YtlhiahhpmjiioaaNatOf
import Derived.Test.YtlhiahhpmjiioaaSRoot
import Derived.Test.YtlhiahhpmjiioaaBigF
import Derived.Handy
namespace Go.Proofs.Ytlhiahhpmjiioaa
open Go.RowKit

def absI (x : Int) : Int := if x < 0 then -x else x
theorem mag_abs (x : Int) : mag x = digits (absI x) := rfl
theorem mag4 {x : Int} (hx : x ≤ 9223372036854775807) (hx2 : -9223372036854775808 ≤ x) : (mag x).length ≤ 4 := by rw [mag_abs]; exact digits_len 4 (absI x) (by simp only [pw]; unfold absI; split <;> omega)
theorem quo_neg {z : Int} (h : 0 ≤ z) : (-z).tdiv 65536 = -(z / 65536) ∧ (-z).tmod 65536 = -(z % 65536) := by
  constructor
  · rw [Int.neg_tdiv, Int.tdiv_eq_ediv_of_nonneg h]
  · rw [Int.neg_tmod, Int.tmod_eq_emod_of_nonneg h]
theorem quo_cases (y : Int) : (0 ≤ y ∧ y.tdiv 65536 = y / 65536 ∧ y.tmod 65536 = y % 65536) ∨ (y < 0 ∧ y.tdiv 65536 = -(-y / 65536) ∧ y.tmod 65536 = -(-y % 65536)) := by
  by_cases h : 0 ≤ y
  · exact .inl ⟨h, Int.tdiv_eq_ediv_of_nonneg h, Int.tmod_eq_emod_of_nonneg h⟩
  · have := quo_neg (z := -y) (by omega)
    rw [Int.neg_neg] at this
    exact .inr ⟨by omega, this.1, this.2⟩
theorem quoIn {y : Int} (h1 : y ≤ 9223372036854775807) (h2 : -9223372036854775808 ≤ y) : -9223372036854775808 ≤ y.tdiv 65536 ∧ y.tdiv 65536 ≤ 9223372036854775807 := by
  rcases quo_cases y with ⟨h, e, _⟩ | ⟨h, e, _⟩ <;> rw [e] <;> omega
theorem absQuo (y : Int) : absI (y.tdiv 65536) = absI y / 65536 := by
  unfold absI
  rcases quo_cases y with ⟨h, e, _⟩ | ⟨h, e, _⟩ <;> rw [e]
  · rw [if_neg (by omega), if_neg (by omega)]
  · rw [if_pos h]; split <;> omega
theorem bigDigit {y : Int} (h1 : y ≤ 9223372036854775807) (h2 : -9223372036854775808 ≤ y) : max (y.tmod 65536) (wrap64 (-y.tmod 65536)) = absI y % 65536 := by
  have e : wrap64 (-y.tmod 65536) = -y.tmod 65536 := by
    rcases quo_cases y with ⟨h, _, e⟩ | ⟨h, _, e⟩ <;> rw [e] <;> unfold wrap64 <;> omega
  rw [e]
  unfold absI
  rcases quo_cases y with ⟨h, _, e⟩ | ⟨h, _, e⟩ <;> rw [e]
  · rw [if_neg (by omega)]; omega
  · rw [if_pos h]; omega

set_option maxHeartbeats 1000000 in
set_option maxRecDepth 10000 in
theorem sBigOf_any (x : Int) (w : World) (hx : x ≤ 9223372036854775807) (hx2 : -9223372036854775808 ≤ x) :
    Calls Try.prog 21 #[.int .i64 x] w (BigV w.heap.size w x) := by
  by_cases hneg : x < 0
  · go_enter Try.func21, Try.ntmps21
    go_wp2_with fail
    refine (l1Nat_any _ _ (by omega)).mono ?_
    rintro e w1 ⟨v, rfl, hO, hK⟩
    obtain ⟨a, c, rfl, hS, hF⟩ := hO.sl
    obtain ⟨hc0, hf0, hsz⟩ := hK.top (g := w.heap.size) (by simp) (by simp) 0 (v := .bool false) rfl
    obtain ⟨hc1, hf1, hsz⟩ := hK.top (g := w.heap.size) (by simp) (by simp) 1 (v := .slice none 0 0) rfl
    go_wp2_with fail
    have HS1 := Lib.hid hS
    have HF1 := Lib.hid hF
    have h1c : Canon [1] := ⟨by omega, by omega, trivial, fun _ => by omega⟩
    refine (l1Add_any _ _ _ _ _ _ _ [1] _ ((hS.kept0 ((Kept.refl [] w1).alloc _)).rd) (rd_row1 w1 rfl) (canon_digits' _) h1c (by have := digits_len 4 (-(x + 1)) (by simp only [pw]; omega); omega) (by omega)).mono ?_
    rintro e w2 ⟨v, rfl, hO2, hK2⟩
    rw [val_digits' (by omega), show -(x + 1) + val [1] = -x by show -(x + 1) + (1 + 65536 * 0) = -x; omega] at hO2
    obtain ⟨a2, c2, rfl, hS2, hF2⟩ := hO2.sl
    have hcc : Kept [] w1 w2 := ((Kept.refl [] w1).alloc _).trans0 hK2
    have hc0 := hcc.cell hc0 (by simp)
    have hc1 := hcc.cell hc1 (by simp)
    have hf0 := hcc.free' (by assumption) hf0 (by simp)
    have hf1 := hcc.free' (by assumption) hf1 (by simp)
    go_wp2_with fail
    have hbig := l2Big_any true a2 (digits (-x)).length c2 (-x) w2 (by omega) rfl
    refine hbig.mono ?_
    rintro e w3 ⟨rfl, hk3⟩
    have hc0 := hk3.cell hc0 (by simp)
    have hc1 := hk3.cell hc1 (by simp)
    have hf0 := hk3.free' (by assumption) hf0 (by simp)
    have hf1 := hk3.free' (by assumption) hf1 (by simp)
    rw [show isNeg (sg true (-x)) = true from isNeg_yes (by rw [sg_true]; omega)]
    rw [← mag_yes (by omega)] at hS2 hF2 ⊢
    have HS2 := Lib.hid (hS2.kept0 hk3)
    have HK2 := Lib.hid (((((Kept.refl [] w).alloc _).trans0 hK).trans0 hcc).trans0 hk3)
    have hz := hcc.size
    have HF2 := Lib.hid (hF2.mono (B' := w.heap.size + 1) (by simp; omega))
    clear hk3 hbig hS hF hO hK hS2 hF2 hO2 hK2 hcc
    obtain ⟨zs, hzs⟩ : ∃ zs, zs = mag x := ⟨_, rfl⟩
    rw [← hzs]
    have HZ := Lib.hid hzs
    clear hzs
    obtain ⟨ea, eb⟩ := cells2 (.bool true) (.slice a2 zs.length c2) hc0 hc1
    go_wp2_with fail
    exact bodyPost_ret (v := .agg #[.bool true, .slice a2 zs.length c2]) (by simp [results, Try.results21, go_sem, eb]) rfl (by rw [HZ.out, ← isNeg_yes (show x < 0 by omega)]; exact bigV_fin (g := w.heap.size) (w0 := (w.alloc (.cells #[.bool false, .slice none 0 0] 26))) (by omega) HS2.out (by simpa using HF2.out) (by simp) HK2.out)
  · go_enter Try.func21, Try.ntmps21
    go_wp2_with fail
    refine (l1Nat_any _ _ hx).mono ?_
    rintro e w1 ⟨v, rfl, hO, hK⟩
    obtain ⟨a, c, rfl, hS, hF⟩ := hO.sl
    obtain ⟨hc0, hf0, hsz⟩ := hK.top (g := w.heap.size) (by simp) (by simp) 0 (v := .bool false) rfl
    obtain ⟨hc1, hf1, hsz⟩ := hK.top (g := w.heap.size) (by simp) (by simp) 1 (v := .slice none 0 0) rfl
    go_wp2_with fail
    have hbig := l2Big_any false a (digits x).length c x w1 (by omega) rfl
    refine hbig.mono ?_
    rintro e w3 ⟨rfl, hk3⟩
    have hc0 := hk3.cell hc0 (by simp)
    have hc1 := hk3.cell hc1 (by simp)
    have hf0 := hk3.free' (by assumption) hf0 (by simp)
    have hf1 := hk3.free' (by assumption) hf1 (by simp)
    rw [isNeg_no (show 0 ≤ sg false x by rw [sg_false]; omega)]
    rw [← mag_no (by omega)] at hS hF ⊢
    have HS2 := Lib.hid (hS.kept0 hk3)
    have HK2 := Lib.hid ((((Kept.refl [] w).alloc _).trans0 hK).trans0 hk3)
    have HF2 := Lib.hid hF
    clear hk3 hbig hS hF hO hK
    obtain ⟨zs, hzs⟩ : ∃ zs, zs = mag x := ⟨_, rfl⟩
    rw [← hzs]
    have HZ := Lib.hid hzs
    clear hzs
    obtain ⟨ea, eb⟩ := cells2 (.bool false) (.slice a zs.length c) hc0 hc1
    go_wp2_with fail
    exact bodyPost_ret (v := .agg #[.bool false, .slice a zs.length c]) (by simp [results, Try.results21, go_sem, eb]) rfl (by rw [HZ.out, ← isNeg_no (show 0 ≤ x by omega)]; exact bigV_fin (g := w.heap.size) (w0 := (w.alloc (.cells #[.bool false, .slice none 0 0] 26))) (by omega) HS2.out HF2.out (by simp) HK2.out)

end Go.Proofs.Ytlhiahhpmjiioaa
