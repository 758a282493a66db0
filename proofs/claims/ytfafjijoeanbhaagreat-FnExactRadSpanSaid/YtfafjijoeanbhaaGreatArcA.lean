/-
  Joined texts.
-/
import Derived.Deep.RegionHeld3
import Derived.Deep.DrawnRows
import Derived.Deep.DeepCutAuto
import Derived.Test.YtfafjijoeanbhaaGreatJ5
import Derived.Test.YtfafjijoeanbhaaGreatJ2
import Derived.Handy
import Derived.Test.YtfafjijoeanbhaaGreatMulA
import Derived.Test.YtfafjijoeanbhaaGreatSpanG
import Derived.Test.YtfafjijoeanbhaaGreatSpanF
import Derived.Test.YtfafjijoeanbhaaGreatPlainC
import Derived.Test.YtfafjijoeanbhaaGreatMulB
import Derived.Test.YtfafjijoeanbhaaGreatMulC
import Derived.Test.YtfafjijoeanbhaaGreatSpanI
import Derived.Test.YtfafjijoeanbhaaGreatNatOf
import Derived.Test.YtfafjijoeanbhaaGreatJ4
import Derived.Test.YtfafjijoeanbhaaGreatBigF
import Derived.Test.YtfafjijoeanbhaaGreatSpanM
namespace Go.Proofs.YtfafjijoeanbhaaGreat
open Go.RowKit

theorem isPrecision_ans (P : Int) (w : World) : Calls Tryz.prog 46 #[.int .i64 P] w (Ans w (.bool (isP P))) := by
 refine (isPrecision_same P w).mono fun e w' h => ?_
 obtain ⟨rfl, rfl⟩ := h
 exact ⟨rfl, Kept.refl _ _⟩

end Go.Proofs.YtfafjijoeanbhaaGreat
namespace Go.Proofs.YtfafjijoeanbhaaGreat
open Go.RowKit

/-- A call that answers a span's result without a code, told by numbers, its ends in new memory. -/
def SpanRZ (w : World) (z1 z2 : Int) (e : Ending) (w' : World) : Prop :=
 ∃ a c b d, e = .returned (.agg #[.int .i64 0, .bool (isNeg z1), .slice a (mag z1).length c, .bool (isNeg z2), .slice b (mag z2).length d]) ∧ Sl w' a (mag z1).length c (mag z1) ∧ Sl w' b (mag z2).length d (mag z2) ∧
  Fr w.heap.size a (mag z1).length ∧ Fr w.heap.size b (mag z2).length ∧ Kept [] w w'
theorem spanRZ_of {w w' : World} {z1 z2 : Int} {e : Ending} (h : SpanR w ⟨0, z1, z2⟩ e w') : SpanRZ w z1 z2 e w' := by
 obtain ⟨a, c, b, d, he, s1, s2, f1, f2, _, hk⟩ := h
 exact ⟨a, c, b, d, he, s1, s2, f1, f2, hk⟩
theorem field_span (v0 v1 v2 v3 v4 : Value) (w : World) : Sem.run Tryz.prog (Instr.field 28 (.agg #[v0, v1, v2, v3, v4]) 1) w = .ok (.agg #[v1, v2, v3, v4]) w := by kernel_rfl
theorem field_end0 (v1 v2 v3 v4 : Value) (w : World) : Sem.run Tryz.prog (Instr.field 26 (.agg #[v1, v2, v3, v4]) 0) w = .ok (.agg #[v1, v2]) w := by kernel_rfl
theorem field_end1 (v1 v2 v3 v4 : Value) (w : World) : Sem.run Tryz.prog (Instr.field 26 (.agg #[v1, v2, v3, v4]) 1) w = .ok (.agg #[v3, v4]) w := by kernel_rfl
theorem toNat_of (k : Nat) : ((k : Int)).toNat = k := rfl
theorem mulS_zz {k : Nat} {x y z : Z2} (hP : isP (k : Int) = true) (fx : Fit2 x) (fy : Fit2 y) (fz : Fit2 z) (hz : z = mul2 k x y) :
  mulS (k : Int) (isNeg x.lo) (mag x.lo) (isNeg x.hi) (mag x.hi) (isNeg y.lo) (mag y.lo) (isNeg y.hi) (mag y.hi) = ⟨0, z.lo, z.hi⟩ := by
 unfold mulS mulLow mulHigh
 rw [askS_ok hP (fit_fault2 fx fy)]
 simp only [sv_mag, outZ_f, outZ_c, toNat_of]
 subst hz
 exact fit_S fz
theorem sq_low {x : Z2} : sqLow (isNeg x.lo) (mag x.lo) (isNeg x.hi) (mag x.hi) = sqL x := by
 unfold sqLow hasZ sqL
 simp only [sv_mag]
 by_cases h : x.lo ≤ 0 ∧ 0 ≤ x.hi
 ·rw [if_pos h, if_pos (by rw [isNeg_no h.2]; simpa using h.1)]
 ·rw [if_neg h, if_neg]
  intro e
  refine h ?_
  by_cases h2 : x.hi < 0
  ·rw [isNeg_yes h2] at e; simp at e
  ·rw [isNeg_no (by omega)] at e; exact ⟨by simpa using e, by omega⟩
theorem sqS_zz {k : Nat} {x z : Z2} (hP : isP (k : Int) = true) (fx : Fit2 x) (fz : Fit2 z) (hz : z = sq2 k x) :
  sqS (k : Int) (isNeg x.lo) (mag x.lo) (isNeg x.hi) (mag x.hi) = ⟨0, z.lo, z.hi⟩ := by
 unfold sqS sqHigh
 rw [askS_ok hP (fit_fault fx), sq_low]
 simp only [sv_mag, outZ_f, outZ_c, toNat_of]
 subst hz
 exact fit_S fz
theorem addS_zz {x y z : Z2} (fx : Fit2 x) (fy : Fit2 y) (fz : Fit2 z) (hz : z = add2 x y) :
  addS (isNeg x.lo) (mag x.lo) (isNeg x.hi) (mag x.hi) (isNeg y.lo) (mag y.lo) (isNeg y.hi) (mag y.hi) = ⟨0, z.lo, z.hi⟩ := by
 unfold addS
 rw [twoS_zero (fit_fault2 fx fy)]
 simp only [sv_mag]
 subst hz
 exact fit_S fz
theorem subS_zz {x y z : Z2} (fx : Fit2 x) (fy : Fit2 y) (fz : Fit2 z) (hz : z = sub2 x y) :
  subS (isNeg x.lo) (mag x.lo) (isNeg x.hi) (mag x.hi) (isNeg y.lo) (mag y.lo) (isNeg y.hi) (mag y.hi) = ⟨0, z.lo, z.hi⟩ := by
 unfold subS
 rw [twoS_zero (fit_fault2 fx fy)]
 simp only [sv_mag]
 subst hz
 exact fit_S fz
theorem fit_ok {x : Z2} (h : Fit2 x) : SpanOk (isNeg x.lo) (mag x.lo) (isNeg x.hi) (mag x.hi) := spanFault_zero (fit_fault h)
theorem MulSpan_zz (k : Nat) (x1 x2 : Int) (a b : Option Addr) (c d : Nat) (y1 y2 : Int) (a' b' : Option Addr) (c' d' : Nat) (z1 z2 : Int) (w : World) (h1 : Sl w a (mag x1).length c (mag x1)) (h2 : Sl w b (mag x2).length d (mag x2)) (h3 : Sl w a' (mag y1).length c' (mag y1)) (h4 : Sl w b' (mag y2).length d' (mag y2)) (hP : isP (k : Int) = true) (fx : Fit2 ⟨x1, x2⟩) (fy : Fit2 ⟨y1, y2⟩) (fz : Fit2 ⟨z1, z2⟩) (hz : (⟨z1, z2⟩ : Z2) = mul2 k ⟨x1, x2⟩ ⟨y1, y2⟩) :
  Calls Tryz.prog 94 #[.int .i64 (k : Int), .agg #[.bool (isNeg x1), .slice a (mag x1).length c, .bool (isNeg x2), .slice b (mag x2).length d], .agg #[.bool (isNeg y1), .slice a' (mag y1).length c', .bool (isNeg y2), .slice b' (mag y2).length d']] w (SpanRZ w z1 z2) := by
 have h := MulSpan_any (k : Int) (isNeg x1) (isNeg x2) a b _ c _ d (mag x1) (mag x2) (isNeg y1) (isNeg y2) a' b' _ c' _ d' (mag y1) (mag y2) w h1 h2 h3 h4
 rw [mulS_zz (x := ⟨x1, x2⟩) (y := ⟨y1, y2⟩) (z := ⟨z1, z2⟩) hP fx fy fz hz] at h
 exact h.mono fun e w' h => spanRZ_of h

theorem SquareSpan_zz (k : Nat) (x1 x2 : Int) (a b : Option Addr) (c d : Nat) (z1 z2 : Int) (w : World) (h1 : Sl w a (mag x1).length c (mag x1)) (h2 : Sl w b (mag x2).length d (mag x2)) (hP : isP (k : Int) = true) (fx : Fit2 ⟨x1, x2⟩) (fz : Fit2 ⟨z1, z2⟩) (hz : (⟨z1, z2⟩ : Z2) = sq2 k ⟨x1, x2⟩) :
  Calls Tryz.prog 120 #[.int .i64 (k : Int), .agg #[.bool (isNeg x1), .slice a (mag x1).length c, .bool (isNeg x2), .slice b (mag x2).length d]] w (SpanRZ w z1 z2) := by
 have h := SquareSpan_any (k : Int) (isNeg x1) (isNeg x2) a b _ c _ d (mag x1) (mag x2) w h1 h2
 rw [sqS_zz (x := ⟨x1, x2⟩) (z := ⟨z1, z2⟩) hP fx fz hz] at h
 exact h.mono fun e w' h => spanRZ_of h

theorem AddSpan_zz (x1 x2 : Int) (a b : Option Addr) (c d : Nat) (y1 y2 : Int) (a' b' : Option Addr) (c' d' : Nat) (z1 z2 : Int) (w : World) (h1 : Sl w a (mag x1).length c (mag x1)) (h2 : Sl w b (mag x2).length d (mag x2)) (h3 : Sl w a' (mag y1).length c' (mag y1)) (h4 : Sl w b' (mag y2).length d' (mag y2)) (fx : Fit2 ⟨x1, x2⟩) (fy : Fit2 ⟨y1, y2⟩) (fz : Fit2 ⟨z1, z2⟩) (hz : (⟨z1, z2⟩ : Z2) = add2 ⟨x1, x2⟩ ⟨y1, y2⟩) :
  Calls Tryz.prog 104 #[.agg #[.bool (isNeg x1), .slice a (mag x1).length c, .bool (isNeg x2), .slice b (mag x2).length d], .agg #[.bool (isNeg y1), .slice a' (mag y1).length c', .bool (isNeg y2), .slice b' (mag y2).length d']] w (SpanRZ w z1 z2) := by
 have h := AddSpan_any (isNeg x1) (isNeg x2) a b _ c _ d (mag x1) (mag x2) (isNeg y1) (isNeg y2) a' b' _ c' _ d' (mag y1) (mag y2) w h1 h2 h3 h4
 rw [addS_zz (x := ⟨x1, x2⟩) (y := ⟨y1, y2⟩) (z := ⟨z1, z2⟩) fx fy fz hz] at h
 exact h.mono fun e w' h => spanRZ_of h

theorem SubSpan_zz (x1 x2 : Int) (a b : Option Addr) (c d : Nat) (y1 y2 : Int) (a' b' : Option Addr) (c' d' : Nat) (z1 z2 : Int) (w : World) (h1 : Sl w a (mag x1).length c (mag x1)) (h2 : Sl w b (mag x2).length d (mag x2)) (h3 : Sl w a' (mag y1).length c' (mag y1)) (h4 : Sl w b' (mag y2).length d' (mag y2)) (fx : Fit2 ⟨x1, x2⟩) (fy : Fit2 ⟨y1, y2⟩) (fz : Fit2 ⟨z1, z2⟩) (hz : (⟨z1, z2⟩ : Z2) = sub2 ⟨x1, x2⟩ ⟨y1, y2⟩) :
  Calls Tryz.prog 65 #[.agg #[.bool (isNeg x1), .slice a (mag x1).length c, .bool (isNeg x2), .slice b (mag x2).length d], .agg #[.bool (isNeg y1), .slice a' (mag y1).length c', .bool (isNeg y2), .slice b' (mag y2).length d']] w (SpanRZ w z1 z2) := by
 have h := SubSpan_any (isNeg x1) (isNeg x2) a b _ c _ d (mag x1) (mag x2) (isNeg y1) (isNeg y2) a' b' _ c' _ d' (mag y1) (mag y2) w h1 h2 h3 h4
 rw [subS_zz (x := ⟨x1, x2⟩) (y := ⟨y1, y2⟩) (z := ⟨z1, z2⟩) fx fy fz hz] at h
 exact h.mono fun e w' h => spanRZ_of h

theorem MulBigs_n (x n z : Int) (a b : Option Addr) (c d : Nat) (w : World) (h : Sl w a (mag x).length c (mag x)) (h' : Sl w b (mag n).length d (mag n)) (lx : (mag x).length ≤ 20) (ln : (mag n).length ≤ 20) (hz : z = x * n) :
  Calls Tryz.prog 119 #[.agg #[.bool (isNeg x), .slice a (mag x).length c], .agg #[.bool (isNeg n), .slice b (mag n).length d]] w (BigZ w z) := by
 have h1 := (bigOk_of (z := x) (by omega)).n40; have h2 := (bigOk_of (z := n) (by omega)).n40
 refine MulBigs_z _ _ _ _ _ _ _ _ _ _ z w h h' (bigOk_of (by omega)) (bigOk_of (by omega)) ?_ (by rw [sv_mag, sv_mag]; exact hz)
 have := mul_len (p := isNeg x) (q := isNeg n) h1 h2 lx ln
 rw [sv_mag, sv_mag] at this; rw [hz]; exact this
theorem divs_n {n : Int} (hn : 0 < n) : isNeg n = false ∧ val (mag n) = n ∧ (mag n).length ≠ 0 := by
 refine ⟨isNeg_no (by omega), by rw [val_mag, if_neg (by omega)], fun e => ?_⟩
 have h1 : mag n = [] := List.eq_nil_of_length_eq_zero e
 have h2 : val (mag n) = n := by rw [val_mag, if_neg (by omega)]
 rw [h1] at h2; simp [val] at h2; omega
theorem FloorDiv_n (x n z : Int) (a b : Option Addr) (c d : Nat) (w : World) (h : Sl w a (mag x).length c (mag x)) (h' : Sl w b (mag n).length d (mag n)) (lx : (mag x).length ≤ 20) (ln : (mag n).length ≤ 20) (hn : 0 < n) (hz : z = x / n) :
  Calls Tryz.prog 111 #[.agg #[.bool (isNeg x), .slice a (mag x).length c], .agg #[.bool (isNeg n), .slice b (mag n).length d]] w (BigZ w z) := by
 obtain ⟨e1, e2, e3⟩ := divs_n hn
 refine FloorDiv_z _ _ _ _ _ _ _ _ _ _ z w h h' (bigOk_of (by omega)) (bigOk_of (by omega)) e3 (by omega) ?_
 rw [e1, e2, divZ_f hn]; exact hz
theorem CeilDiv_n (x n z : Int) (a b : Option Addr) (c d : Nat) (w : World) (h : Sl w a (mag x).length c (mag x)) (h' : Sl w b (mag n).length d (mag n)) (lx : (mag x).length ≤ 20) (ln : (mag n).length ≤ 20) (hn : 0 < n) (hz : z = cdiv x n) :
  Calls Tryz.prog 112 #[.agg #[.bool (isNeg x), .slice a (mag x).length c], .agg #[.bool (isNeg n), .slice b (mag n).length d]] w (BigZ w z) := by
 obtain ⟨e1, e2, e3⟩ := divs_n hn
 refine CeilDiv_z _ _ _ _ _ _ _ _ _ _ z w h h' (bigOk_of (by omega)) (bigOk_of (by omega)) e3 (by omega) ?_
 rw [e1, e2, divZ_c hn]; exact hz
theorem SubBigs_n (x y z : Int) (a b : Option Addr) (c d : Nat) (w : World) (h : Sl w a (mag x).length c (mag x)) (h' : Sl w b (mag y).length d (mag y)) (lx : (mag x).length ≤ 20) (ly : (mag y).length ≤ 20) (hz : z = x - y) :
  Calls Tryz.prog 118 #[.agg #[.bool (isNeg x), .slice a (mag x).length c], .agg #[.bool (isNeg y), .slice b (mag y).length d]] w (BigZ w z) :=
 SubBigs_z _ _ _ _ _ _ _ _ _ _ z w h h' (bigOk_of (by omega)) (bigOk_of (by omega)) lx ly (by rw [sv_mag, sv_mag]; exact hz)
theorem SubBigs_0 (y z : Int) (b : Option Addr) (d : Nat) (w : World) (h' : Sl w b (mag y).length d (mag y)) (ly : (mag y).length ≤ 20) (hz : z = -y) :
  Calls Tryz.prog 118 #[.agg #[.bool false, .slice none 0 0], .agg #[.bool (isNeg y), .slice b (mag y).length d]] w (BigZ w z) := by
 have h := SubBigs_n 0 y z none b 0 d w (by rw [mag_zero]; exact Sl.nil _) h' (by rw [mag_zero]; simp) ly (by omega)
 rw [isNeg_zero, mag_zero] at h; exact h
theorem small_len {n : Int} (h : -9223372036854775808 ≤ n) (h' : n ≤ 9223372036854775807) : (mag n).length ≤ 20 := len20 (M := 9223372036854775808) (by omega) (by omega) (by omega)
end Go.Proofs.YtfafjijoeanbhaaGreat
namespace Go.Proofs.YtfafjijoeanbhaaGreat
open Go.RowKit

def absI (x : Int) : Int := if x < 0 then -x else x
theorem mag_abs (x : Int) : mag x = digits (absI x) := rfl
theorem quo_neg {z : Int} (h : 0 ≤ z) : (-z).tdiv 65536 = -(z / 65536) ∧ (-z).tmod 65536 = -(z % 65536) := by
 constructor
 ·rw [Int.neg_tdiv, Int.tdiv_eq_ediv_of_nonneg h]
 ·rw [Int.neg_tmod, Int.tmod_eq_emod_of_nonneg h]
theorem quo_cases (y : Int) : (0 ≤ y ∧ y.tdiv 65536 = y / 65536 ∧ y.tmod 65536 = y % 65536) ∨ (y < 0 ∧ y.tdiv 65536 = -(-y / 65536) ∧ y.tmod 65536 = -(-y % 65536)) := by
 by_cases h : 0 ≤ y
 ·exact .inl ⟨h, Int.tdiv_eq_ediv_of_nonneg h, Int.tmod_eq_emod_of_nonneg h⟩
 ·have := quo_neg (z := -y) (by omega)
  rw [Int.neg_neg] at this
  exact .inr ⟨by omega, this.1, this.2⟩
theorem quoIn {y : Int} (h1 : y ≤ 9223372036854775807) (h2 : -9223372036854775808 ≤ y) : -9223372036854775808 ≤ y.tdiv 65536 ∧ y.tdiv 65536 ≤ 9223372036854775807 := by
 rcases quo_cases y with ⟨h, e, _⟩ | ⟨h, e, _⟩ <;> rw [e] <;> omega
theorem absQuo (y : Int) : absI (y.tdiv 65536) = absI y / 65536 := by
 unfold absI
 rcases quo_cases y with ⟨h, e, _⟩ | ⟨h, e, _⟩ <;> rw [e]
 ·rw [if_neg (by omega), if_neg (by omega)]
 ·rw [if_pos h]; split <;> omega
theorem bigDigit {y : Int} (h1 : y ≤ 9223372036854775807) (h2 : -9223372036854775808 ≤ y) : max (y.tmod 65536) (wrap64 (-y.tmod 65536)) = absI y % 65536 := by
 have e : wrap64 (-y.tmod 65536) = -y.tmod 65536 := by
  rcases quo_cases y with ⟨h, _, e⟩ | ⟨h, _, e⟩ <;> rw [e] <;> unfold wrap64 <;> omega
 rw [e]
 unfold absI
 rcases quo_cases y with ⟨h, _, e⟩ | ⟨h, _, e⟩ <;> rw [e]
 ·rw [if_neg (by omega)]; omega
 ·rw [if_pos h]; omega

set_option maxHeartbeats 1000000 in
set_option maxRecDepth 10000 in
theorem BigOf_any (x : Int) (w : World) (hx : x ≤ 9223372036854775807) (hx2 : -9223372036854775808 ≤ x) :
  Calls Tryz.prog 64 #[.int .i64 x] w (BigV w.heap.size w x) := by
 have hlen : (mag x).length ≤ 4 := by rw [mag_abs]; exact digits_len 4 (absI x) (by simp only [pw]; unfold absI; split <;> omega)
 have HLEN := Lib.hid hlen
 clear hlen
 go_enter Tryz.func64, Tryz.ntmps64
 go_wp2
 go_loopw [4, 3] (fun i v wr => ∃ (y : Int) (xs : List Int), i = .int .i64 y ∧ y ≤ 9223372036854775807 ∧ -9223372036854775808 ≤ y ∧ Hid (xs ++ mag y = mag x) ∧ Hid (Ow (w.heap.size + 1) wr v xs) ∧ Hid (Kept [] (w.alloc (.cells #[.bool false, .slice none 0 0] 24)) wr)) (fun i _ _ => (absI (intOf i)).toNat)
 case atStart =>
  exact ⟨x, [], rfl, hx, hx2, rfl, Ow.nil _ _, Kept.refl [] _⟩
 case round =>
  obtain ⟨y, xs, rfl, hy, hy2, hD, hO, hK⟩ := hrel
  by_cases h0 : y = 0
  ·subst h0
   have hx2 : Hid (xs = mag x) := by
    have := hD.out
    rw [mag_zero, List.append_nil] at this
    exact this
   obtain ⟨a, c, rfl, hS, hF⟩ := hO.out.sl
   obtain ⟨hc0, hf0, hsz⟩ := hK.out.top (g := w.heap.size) (by simp) (by simp) 0 (v := .bool false) rfl
   obtain ⟨hc1, hf1, hsz⟩ := hK.out.top (g := w.heap.size) (by simp) (by simp) 1 (v := .slice none 0 0) rfl
   obtain ⟨ea, eb⟩ := cells2 (.bool (decide (x < 0))) (.slice a xs.length c) hc0 hc1
   go_wp2
   exact bodyPost_ret (v := .agg #[.bool (isNeg x), .slice a xs.length c]) (by simp [results, Tryz.results64, go_sem, eb, isNeg]) rfl (by rw [hx2.out] at *; exact bigV_fin (g := w.heap.size) (w0 := (w.alloc (.cells #[.bool false, .slice none 0 0] 24))) (by omega) hS (by simpa using hF) (by simp) (((Kept.refl [] w).alloc _).trans0 hK.out))
  ·have hD2 : Hid ((xs ++ [absI y % 65536]) ++ digits (absI y / 65536) = mag x) := by
    have := hD.out
    rw [mag_abs y, digits_pos (show 0 < absI y by unfold absI; split <;> omega)] at this
    show (xs ++ [absI y % 65536]) ++ digits (absI y / 65536) = mag x
    rw [← this]; simp
   have hxl : xs.length ≤ 4 := by
    have := HLEN.out
    rw [← hD.out] at this
    simp at this; omega
   have hsz : w.heap.size + 1 ≤ wr.heap.size := by have := hK.out.size; simpa using this
   go_wp2_with (at_builtin; refine app1 rfl _ _ rfl (w.heap.size + 1) u3 xs rfl (hO.out.alloc _) wr.heap.size (max (y.tmod 65536) (wrap64 (-y.tmod 65536))) rfl (by simp) (by omega) (by simp; omega) ?_)
   intro v' w1 hO2 hG
   rw [bigDigit hy hy2] at hO2
   have HO2 := Lib.hid hO2
   have HK2 : Hid (Kept [] (w.alloc (.cells #[.bool false, .slice none 0 0] 24)) w1) := kept_grown (hK.out.alloc _) (hO.out.alloc _) hG (by simp)
   clear hO2 hG
   go_wp2
   have hq := absQuo y
   go_roundw
   case rel => exact ⟨y.tdiv 65536, xs ++ [absI y % 65536], rfl, (quoIn hy hy2).2, (quoIn hy hy2).1, by rw [mag_abs (y.tdiv 65536), hq]; exact hD2, HO2.out, HK2⟩
   case measure => rw [show absI (intOf (.int .i64 (y.tdiv 65536))) = absI y / 65536 from hq, show absI (intOf (.int .i64 y)) = absI y from rfl]; have : 0 < absI y := (by unfold absI; split <;> omega); omega

set_option maxHeartbeats 1000000 in
set_option maxRecDepth 10000 in
theorem sBigOf_any (x : Int) (w : World) (hx : x ≤ 9223372036854775807) (hx2 : -9223372036854775808 ≤ x) :
  Calls Tryz.prog 90 #[.int .i64 x] w (BigV w.heap.size w x) := by
 by_cases hneg : x < 0
 ·go_enter Tryz.func90, Tryz.ntmps90
  go_wp2_with fail
  refine (l1Nat_any _ _ (by omega)).mono ?_
  rintro e w1 ⟨v, rfl, hO, hK⟩
  obtain ⟨a, c, rfl, hS, hF⟩ := hO.sl
  obtain ⟨hc0, hf0, hsz⟩ := hK.top (g := w.heap.size) (by simp) (by simp) 0 (v := .bool false) rfl
  obtain ⟨hc1, hf1, hsz⟩ := hK.top (g := w.heap.size) (by simp) (by simp) 1 (v := .slice none 0 0) rfl
  go_wp2_with fail
  have HS1 := Lib.hid hS
  have HF1 := Lib.hid hF
  have h1c : Canon [1] := ⟨by omega, by omega, trivial, fun _ => by omega⟩
  refine (l1Add_any _ _ _ _ _ _ _ [1] _ ((hS.kept0 ((Kept.refl [] w1).alloc _)).rd) (rd_row1 w1 rfl) (canon_digits' _) h1c (by have := digits_len 4 (-(x + 1)) (by simp only [pw]; omega); omega) (by omega)).mono ?_
  rintro e w2 ⟨v, rfl, hO2, hK2⟩
  rw [val_digits' (by omega), show -(x + 1) + val [1] = -x by show -(x + 1) + (1 + 65536 * 0) = -x; omega] at hO2
  obtain ⟨a2, c2, rfl, hS2, hF2⟩ := hO2.sl
  have hcc : Kept [] w1 w2 := ((Kept.refl [] w1).alloc _).trans0 hK2
  have hc0 := hcc.cell hc0 (by simp)
  have hc1 := hcc.cell hc1 (by simp)
  have hf0 := hcc.free' (by assumption) hf0 (by simp)
  have hf1 := hcc.free' (by assumption) hf1 (by simp)
  go_wp2_with fail
  have hbig := l2Big_any true a2 (digits (-x)).length c2 (-x) w2 (by omega) rfl
  refine hbig.mono ?_
  rintro e w3 ⟨rfl, hk3⟩
  have hc0 := hk3.cell hc0 (by simp)
  have hc1 := hk3.cell hc1 (by simp)
  have hf0 := hk3.free' (by assumption) hf0 (by simp)
  have hf1 := hk3.free' (by assumption) hf1 (by simp)
  rw [show isNeg (sg true (-x)) = true from isNeg_yes (by rw [sg_true]; omega)]
  rw [← mag_yes (by omega)] at hS2 hF2 ⊢
  have HS2 := Lib.hid (hS2.kept0 hk3)
  have HK2 := Lib.hid (((((Kept.refl [] w).alloc _).trans0 hK).trans0 hcc).trans0 hk3)
  have hz := hcc.size
  have HF2 := Lib.hid (hF2.mono (B' := w.heap.size + 1) (by simp; omega))
  clear hk3 hbig hS hF hO hK hS2 hF2 hO2 hK2 hcc
  obtain ⟨zs, hzs⟩ : ∃ zs, zs = mag x := ⟨_, rfl⟩
  rw [← hzs]
  have HZ := Lib.hid hzs
  clear hzs
  obtain ⟨ea, eb⟩ := cells2 (.bool true) (.slice a2 zs.length c2) hc0 hc1
  go_wp2_with fail
  exact bodyPost_ret (v := .agg #[.bool true, .slice a2 zs.length c2]) (by simp [results, Tryz.results90, go_sem, eb]) rfl (by rw [HZ.out, ← isNeg_yes (show x < 0 by omega)]; exact bigV_fin (g := w.heap.size) (w0 := (w.alloc (.cells #[.bool false, .slice none 0 0] 24))) (by omega) HS2.out (by simpa using HF2.out) (by simp) HK2.out)
 ·go_enter Tryz.func90, Tryz.ntmps90
  go_wp2_with fail
  refine (l1Nat_any _ _ hx).mono ?_
  rintro e w1 ⟨v, rfl, hO, hK⟩
  obtain ⟨a, c, rfl, hS, hF⟩ := hO.sl
  obtain ⟨hc0, hf0, hsz⟩ := hK.top (g := w.heap.size) (by simp) (by simp) 0 (v := .bool false) rfl
  obtain ⟨hc1, hf1, hsz⟩ := hK.top (g := w.heap.size) (by simp) (by simp) 1 (v := .slice none 0 0) rfl
  go_wp2_with fail
  have hbig := l2Big_any false a (digits x).length c x w1 (by omega) rfl
  refine hbig.mono ?_
  rintro e w3 ⟨rfl, hk3⟩
  have hc0 := hk3.cell hc0 (by simp)
  have hc1 := hk3.cell hc1 (by simp)
  have hf0 := hk3.free' (by assumption) hf0 (by simp)
  have hf1 := hk3.free' (by assumption) hf1 (by simp)
  rw [isNeg_no (show 0 ≤ sg false x by rw [sg_false]; omega)]
  rw [← mag_no (by omega)] at hS hF ⊢
  have HS2 := Lib.hid (hS.kept0 hk3)
  have HK2 := Lib.hid ((((Kept.refl [] w).alloc _).trans0 hK).trans0 hk3)
  have HF2 := Lib.hid hF
  clear hk3 hbig hS hF hO hK
  obtain ⟨zs, hzs⟩ : ∃ zs, zs = mag x := ⟨_, rfl⟩
  rw [← hzs]
  have HZ := Lib.hid hzs
  clear hzs
  obtain ⟨ea, eb⟩ := cells2 (.bool false) (.slice a zs.length c) hc0 hc1
  go_wp2_with fail
  exact bodyPost_ret (v := .agg #[.bool false, .slice a zs.length c]) (by simp [results, Tryz.results90, go_sem, eb]) rfl (by rw [HZ.out, ← isNeg_no (show 0 ≤ x by omega)]; exact bigV_fin (g := w.heap.size) (w0 := (w.alloc (.cells #[.bool false, .slice none 0 0] 24))) (by omega) HS2.out HF2.out (by simp) HK2.out)

end Go.Proofs.YtfafjijoeanbhaaGreat
namespace Go.Proofs.YtfafjijoeanbhaaGreat
open Go.RowKit

/-- A call that answers a big that is the number z, whose limbs lie below B. -/
def BigO (B : Nat) (w : World) (z : Int) (e : Ending) (w' : World) : Prop :=
 ∃ a c, e = .returned (.agg #[.bool (isNeg z), .slice a (mag z).length c]) ∧ Sl w' a (mag z).length c (mag z) ∧ (0 < (mag z).length → ∀ x, a = some x → x.block < B) ∧ Kept [] w w'
theorem bigO_of {B : Nat} {w w' : World} {l : List BE} {b : BE} {e : Ending} (hb : b ∈ l) (ho : OkB w l) (hB : ∀ b ∈ l, 0 < b.len → ∀ x, b.ptr = some x → x.block < B) (h : Val w b.val e w') : BigO B w b.z e w' := by
 obtain ⟨rfl, hk⟩ := h
 obtain ⟨hs, hok⟩ := ho b hb
 have h1 : isNeg b.z = b.neg := hok.isNeg
 have h2 : mag b.z = b.limbs := hok.mag
 have h3 := hs.1
 refine ⟨b.ptr, b.cap, ?_, ?_, ?_, hk⟩
 ·rw [h1, h2, h3]; rfl
 ·rw [h2, h3]; exact hs.kept0 hk
 ·rw [h2, h3]; exact hB b hb
theorem leastOf_isAbove_old (B : Nat) (g : Nat) (p q : Bool) (a b : Option Addr) (n c m d : Nat) (xs ys : List Int) (z : Int) (w : World) (h : RowB w g [⟨p, a, n, c, xs⟩, ⟨q, b, m, d, ys⟩]) (h1 : Sl w a n c xs) (h2 : Sl w b m d ys) (hx : BigOk p xs) (hy : BigOk q ys) (f1 : 0 < n → ∀ x, a = some x → x.block < B) (f2 : 0 < m → ∀ x, b = some x → x.block < B) (hz : z = maxZ (sv p xs) (sv q ys)) :
  Calls Tryz.prog 152 #[.func (.func 130) #[] #[], .slice (some ⟨g, 0, none⟩) 2 2] w (BigO B w z) := by
 have e := leastOf_isAbove g ⟨p, a, n, c, xs⟩ [⟨q, b, m, d, ys⟩] w h (okB2 h1 h2 hx hy) (by simp)
 have hm : pickF gtZ ⟨p, a, n, c, xs⟩ [⟨q, b, m, d, ys⟩] ∈ [(⟨p, a, n, c, xs⟩ : BE), ⟨q, b, m, d, ys⟩] := by
  rcases pick_mem gtZ [⟨q, b, m, d, ys⟩] ⟨p, a, n, c, xs⟩ with h | h
  ·rw [h]; exact List.mem_cons_self
  ·exact List.mem_cons_of_mem _ h
 have hz' : z = (pickF gtZ ⟨p, a, n, c, xs⟩ [⟨q, b, m, d, ys⟩]).z := by rw [pick2_gt]; exact hz
 subst hz'
 refine e.mono fun e9 w9 h9 => bigO_of hm (okB2 h1 h2 hx hy) (fun u hu => ?_) h9
 rcases List.mem_cons.1 hu with rfl | hu
 ·exact f1
 ·rcases List.mem_cons.1 hu with rfl | hu
  ·exact f2
  ·cases hu
end Go.Proofs.YtfafjijoeanbhaaGreat
namespace Go.Proofs.YtfafjijoeanbhaaGreat
open Go.RowKit

/-- A call that answers a span, told by numbers, wherever its ends lie. -/
def SpanN (w : World) (o1 o2 : Int) (e : Ending) (w' : World) : Prop :=
 ∃ a c b d, e = .returned (.agg #[.bool (isNeg o1), .slice a (mag o1).length c, .bool (isNeg o2), .slice b (mag o2).length d]) ∧ Sl w' a (mag o1).length c (mag o1) ∧ Sl w' b (mag o2).length d (mag o2) ∧ Kept [] w w'
attribute [local go_sem ↓] field_big field_span field_end0 field_end1

theorem bigOk_abs {x : Int} (h : (mag x).length ≤ 20) : BigOk false (mag x) := by
 have h1 : mag (abZ x) = mag x := by
  unfold abZ; split
  ·exact mag_neg x
  ·rfl
 have h2 := bigOk_of (z := abZ x) (by rw [h1]; omega)
 rw [isNeg_no (abZ_nonneg x), h1] at h2
 exact h2
theorem away_le {x1 x2 : Int} {n : Nat} (h1 : (mag x1).length ≤ n) (h2 : (mag x2).length ≤ n) : (mag (away2 ⟨x1, x2⟩)).length ≤ n := by
 have e : ∀ z : Int, mag (abZ z) = mag z := fun z => by
  unfold abZ; split
  ·exact mag_neg z
  ·rfl
 unfold away2 maxZ
 split
 ·rw [e]; exact h2
 ·rw [e]; exact h1

end Go.Proofs.YtfafjijoeanbhaaGreat
