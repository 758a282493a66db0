/-
  Contracts of BigOf, both sides. Condition: the number is an int64.
-/
import Derived.Test.YtgplghjameiciaaNatOf
import Derived.Test.YtgplghjameiciaaSRoot
import Derived.Test.YtgplghjameiciaaBigF
import Derived.Handy
namespace Go.Proofs.Ytgplghjameiciaa
open Go.RowKit

def absI (x : Int) : Int := if x < 0 then -x else x
theorem mag_abs (x : Int) : mag x = digits (absI x) := rfl
theorem mag4 {x : Int} (hx : x ≤ 9223372036854775807) (hx2 : -9223372036854775808 ≤ x) : (mag x).length ≤ 4 := by rw [mag_abs]; exact digits_len 4 (absI x) (by simp only [pw]; unfold absI; split <;> omega)
theorem quo_neg {z : Int} (h : 0 ≤ z) : (-z).tdiv 65536 = -(z / 65536) ∧ (-z).tmod 65536 = -(z % 65536) := by
  constructor
  · rw [Int.neg_tdiv, Int.tdiv_eq_ediv_of_nonneg h]
  · rw [Int.neg_tmod, Int.tmod_eq_emod_of_nonneg h]
theorem quo_cases (y : Int) : (0 ≤ y ∧ y.tdiv 65536 = y / 65536 ∧ y.tmod 65536 = y % 65536) ∨ (y < 0 ∧ y.tdiv 65536 = -(-y / 65536) ∧ y.tmod 65536 = -(-y % 65536)) := by
  by_cases h : 0 ≤ y
  · exact .inl ⟨h, Int.tdiv_eq_ediv_of_nonneg h, Int.tmod_eq_emod_of_nonneg h⟩
  · have := quo_neg (z := -y) (by omega)
    rw [Int.neg_neg] at this
    exact .inr ⟨by omega, this.1, this.2⟩
theorem quoIn {y : Int} (h1 : y ≤ 9223372036854775807) (h2 : -9223372036854775808 ≤ y) : -9223372036854775808 ≤ y.tdiv 65536 ∧ y.tdiv 65536 ≤ 9223372036854775807 := by
  rcases quo_cases y with ⟨h, e, _⟩ | ⟨h, e, _⟩ <;> rw [e] <;> omega
theorem absQuo (y : Int) : absI (y.tdiv 65536) = absI y / 65536 := by
  unfold absI
  rcases quo_cases y with ⟨h, e, _⟩ | ⟨h, e, _⟩ <;> rw [e]
  · rw [if_neg (by omega), if_neg (by omega)]
  · rw [if_pos h]; split <;> omega
theorem bigDigit {y : Int} (h1 : y ≤ 9223372036854775807) (h2 : -9223372036854775808 ≤ y) : max (y.tmod 65536) (wrap64 (-y.tmod 65536)) = absI y % 65536 := by
  have e : wrap64 (-y.tmod 65536) = -y.tmod 65536 := by
    rcases quo_cases y with ⟨h, _, e⟩ | ⟨h, _, e⟩ <;> rw [e] <;> unfold wrap64 <;> omega
  rw [e]
  unfold absI
  rcases quo_cases y with ⟨h, _, e⟩ | ⟨h, _, e⟩ <;> rw [e]
  · rw [if_neg (by omega)]; omega
  · rw [if_pos h]; omega

set_option maxHeartbeats 1000000 in
set_option maxRecDepth 10000 in
theorem BigOf_any (x : Int) (w : World) (hx : x ≤ 9223372036854775807) (hx2 : -9223372036854775808 ≤ x) :
    Calls Try.prog 95 #[.int .i64 x] w (BigV w.heap.size w x) := by
  have hlen : (mag x).length ≤ 4 := by rw [mag_abs]; exact digits_len 4 (absI x) (by simp only [pw]; unfold absI; split <;> omega)
  have HLEN := Lib.hid hlen
  clear hlen
  go_enter Try.func95, Try.ntmps95
  go_wp2
  go_loopw [4, 3] (fun i v wr => ∃ (y : Int) (xs : List Int), i = .int .i64 y ∧ y ≤ 9223372036854775807 ∧ -9223372036854775808 ≤ y ∧ Hid (xs ++ mag y = mag x) ∧ Hid (Ow (w.heap.size + 1) wr v xs) ∧ Hid (Kept [] (w.alloc (.cells #[.bool false, .slice none 0 0] 40)) wr)) (fun i _ _ => (absI (intOf i)).toNat)
  case atStart =>
    exact ⟨x, [], rfl, hx, hx2, rfl, Ow.nil _ _, Kept.refl [] _⟩
  case round =>
    obtain ⟨y, xs, rfl, hy, hy2, hD, hO, hK⟩ := hrel
    by_cases h0 : y = 0
    · subst h0
      have hx2 : Hid (xs = mag x) := by
        have := hD.out
        rw [mag_zero, List.append_nil] at this
        exact this
      obtain ⟨a, c, rfl, hS, hF⟩ := hO.out.sl
      obtain ⟨hc0, hf0, hsz⟩ := hK.out.top (g := w.heap.size) (by simp) (by simp) 0 (v := .bool false) rfl
      obtain ⟨hc1, hf1, hsz⟩ := hK.out.top (g := w.heap.size) (by simp) (by simp) 1 (v := .slice none 0 0) rfl
      obtain ⟨ea, eb⟩ := cells2 (.bool (decide (x < 0))) (.slice a xs.length c) hc0 hc1
      go_wp2
      exact bodyPost_ret (v := .agg #[.bool (isNeg x), .slice a xs.length c]) (by simp [results, Try.results95, go_sem, eb, isNeg]) rfl (by rw [hx2.out] at *; exact bigV_fin (g := w.heap.size) (w0 := (w.alloc (.cells #[.bool false, .slice none 0 0] 40))) (by omega) hS (by simpa using hF) (by simp) (((Kept.refl [] w).alloc _).trans0 hK.out))
    · have hD2 : Hid ((xs ++ [absI y % 65536]) ++ digits (absI y / 65536) = mag x) := by
        have := hD.out
        rw [mag_abs y, digits_pos (show 0 < absI y by unfold absI; split <;> omega)] at this
        show (xs ++ [absI y % 65536]) ++ digits (absI y / 65536) = mag x
        rw [← this]; simp
      have hxl : xs.length ≤ 4 := by
        have := HLEN.out
        rw [← hD.out] at this
        simp at this; omega
      have hsz : w.heap.size + 1 ≤ wr.heap.size := by have := hK.out.size; simpa using this
      go_wp2_with (at_builtin; refine app1 rfl _ _ rfl (w.heap.size + 1) u3 xs rfl (hO.out.alloc _) wr.heap.size (max (y.tmod 65536) (wrap64 (-y.tmod 65536))) rfl (by simp) (by omega) (by simp; omega) ?_)
      intro v' w1 hO2 hG
      rw [bigDigit hy hy2] at hO2
      have HO2 := Lib.hid hO2
      have HK2 : Hid (Kept [] (w.alloc (.cells #[.bool false, .slice none 0 0] 40)) w1) := kept_grown (hK.out.alloc _) (hO.out.alloc _) hG (by simp)
      clear hO2 hG
      go_wp2
      have hq := absQuo y
      go_roundw
      case rel => exact ⟨y.tdiv 65536, xs ++ [absI y % 65536], rfl, (quoIn hy hy2).2, (quoIn hy hy2).1, by rw [mag_abs (y.tdiv 65536), hq]; exact hD2, HO2.out, HK2⟩
      case measure => rw [show absI (intOf (.int .i64 (y.tdiv 65536))) = absI y / 65536 from hq, show absI (intOf (.int .i64 y)) = absI y from rfl]; have : 0 < absI y := (by unfold absI; split <;> omega); omega

end Go.Proofs.Ytgplghjameiciaa
