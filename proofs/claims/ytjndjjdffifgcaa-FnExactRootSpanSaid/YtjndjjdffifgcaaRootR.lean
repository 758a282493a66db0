/-
  Several of my texts in one, each as it was: SRoot, BigOf, BigR, BigRc, BigRd, BigRi. No condition but theirs.
-/
import Derived.Test.YtjndjjdffifgcaaRoot
import Derived.Test.YtjndjjdffifgcaaSDivN
import Derived.Test.YtjndjjdffifgcaaBigG
import Derived.Test.YtjndjjdffifgcaaNatOf
import Derived.Test.YtjndjjdffifgcaaBigF
import Derived.Handy
namespace Go.Proofs.Ytjndjjdffifgcaa

open Go.RowKit

theorem l1Div_dig (a b : Option Addr) (n c m d : Nat) (x y : Int) (w : World) (h : Sl w a n c (digits x)) (h' : Rd w b m (digits y)) (hx : 0 ≤ x) (hy : 0 < y) (hxl : (digits x).length ≤ 900) (hyl : (digits y).length ≤ 900) :
    Calls Try.prog 130 #[.slice a n c, .slice b m d] w (DivT w (digits (x / y)) (digits (x % y))) := by
  have := l1Div_any a b n c m d (digits x) (digits y) w h h' (canon_digits' x) (canon_digits' y) (by have := h.1; omega) (by have := h'.1; have := digits_len_pos hy; omega) (by have := h'.1; omega)
  rwa [val_digits' hx, val_digits' (Int.le_of_lt hy)] at this
theorem l1Add_dig (a b : Option Addr) (n c m d : Nat) (x y : Int) (w : World) (h : Rd w a n (digits x)) (h' : Rd w b m (digits y)) (hx : 0 ≤ x) (hy : 0 ≤ y) (hxl : (digits x).length ≤ 900) (hyl : (digits y).length ≤ 900) :
    Calls Try.prog 122 #[.slice a n c, .slice b m d] w (SlR w (digits (x + y))) := by
  have := l1Add_any a b n c m d (digits x) (digits y) w h h' (canon_digits' x) (canon_digits' y) (by have := h.1; omega) (by have := h'.1; omega)
  rwa [val_digits' hx, val_digits' hy] at this
theorem l1Short_dig (a : Option Addr) (n c : Nat) (x d : Int) (w : World) (h : Rd w a n (digits x)) (hx : 0 ≤ x) (hxl : (digits x).length ≤ 900) (hd : 1 ≤ d ∧ d ≤ 65536) :
    Calls Try.prog 137 #[.slice a n c, .int .i64 d] w (ShortR w x d) := by
  have := l1Short_any a n c (digits x) d w h (canon_limbs (canon_digits' x)) (by have := h.1; omega) hd
  rwa [val_digits' hx] at this
theorem l1Compare_dig (a b : Option Addr) (n c m d : Nat) (x y : Int) (w : World) (h : Rd w a n (digits x)) (h' : Rd w b m (digits y)) (hx : 0 ≤ x) (hy : 0 ≤ y) (hxl : (digits x).length ≤ 40) (hyl : (digits y).length ≤ 40) :
    Calls Try.prog 123 #[.slice a n c, .slice b m d] w (Ans w (.int .i64 (cmpV x y))) := by
  have := l1Compare_any a b n c m d (digits x) (digits y) w h h' (nat40_of_canon (canon_digits' x) hxl) (nat40_of_canon (canon_digits' y) hyl)
  rwa [val_digits' hx, val_digits' hy] at this

set_option maxHeartbeats 2000000 in
set_option maxRecDepth 100000 in
theorem l2Root_any (a : Option Addr) (n c : Nat) (xs : List Int) (w : World) (h : Sl w a n c xs) (hx : Nat40 xs) :
    Calls Try.prog 114 #[.slice a n c] w (RootR w (val xs)) := by
  have hl := h.1
  have hmax := h.rd.2.1
  by_cases hn : n = 0
  · subst hn
    have hx0 : xs = [] := List.eq_nil_of_length_eq_zero hl
    subst hx0
    have e : isq (val []) = 0 := rfl
    unfold RootR
    rw [e, digits_zero (by omega)]
    clear h hx hl
    go_enter Try.func114, Try.ntmps114
    go_wp2
    go_ret
    exact ⟨_, 0, rfl, ⟨rfl, Nat.le_refl _, by omega, fun _ => rfl, Or.inl rfl⟩, fun h => by simp at h, (Kept.refl [] w).alloc _⟩
  · have hxd : xs = digits (val xs) := (digits_val hx.canon).symm
    have hv0 : 0 < val xs := (canon_nonneg hx.canon).2 (fun e => hn (by rw [← hl, e]; rfl))
    have hroot := isq_root (v := val xs) (by omega)
    have hlen := hx.len
    have hvn : val xs < pw n := by have := (show AllLimbs xs from hx.limb).val.2; rwa [hl] at this
    have hn40 : n ≤ 40 := by omega
    have hn' : ((n : Int) == 0) = false := by rw [beq_eq_false_iff_ne]; omega
    obtain ⟨v, hv⟩ : ∃ v, v = val xs := ⟨_, rfl⟩
    rw [← hv] at hv0 hroot hvn ⊢
    have HRT := Lib.hid hroot
    have hrp := root_pos hroot hv0
    have HSD : Hid (Sl w a n c (digits v)) := by show Sl w a n c (digits v); rw [hv, ← hxd]; exact h
    have hdl : (digits v).length ≤ 40 := by rw [hv, ← hxd]; exact hlen
    obtain ⟨r, hr⟩ : ∃ r, r = isq v := ⟨_, rfl⟩
    have HRQ := Lib.hid hr
    rw [← hr] at hrp
    obtain ⟨q, hq⟩ : ∃ q, q = (n + 1) / 2 := ⟨_, rfl⟩
    have hst : r < pw q := by
      rw [hr]
      refine root_lt hroot (by have := pw_pos q; omega) ?_
      rw [← pw_add]
      have := pw_mono n (q + q) (by omega)
      omega
    have hqe : ((n : Int) + 1) / 2 = (q : Int) := by omega
    have hq20 : q ≤ 20 := by omega
    have hpd : digits (pw q) = List.replicate q 0 ++ [1] := by
      rw [← digits_val (canon_pow q (y := 1) (by omega)), val_pow, Int.mul_one]
    have hpl : (digits (pw q)).length = q + 1 := by rw [hpd]; simp
    obtain ⟨i0, hi, hz0, hz1, hz2⟩ := info_parts Try.info64
    have hmk := fun (w : World) => run_make_row (P := Try.prog) 22 2 i0 (.int .i64 0) Try.underlying22 hi hz0 hz1 rfl .i64 .i64 (q + 1) (by rw [hz2]; omega) (by omega) w
    have hcast : ((q + 1 : Nat) : Int) = (q : Int) + 1 := by omega
    simp only [hcast] at hmk
    have hb0 := Blk.new w (List.replicate (q + 1) 0)
    rw [← made_zeros] at hb0
    have hset := hb0.set q 1
    rw [set_pow, ← hpd] at hset
    have HSET := Lib.hid hset
    have hc0 := hb0.cell (j := q) (by simp)
    have hf0 := hb0.frozen q
    have HST := Lib.hid hst
    have HPL := Lib.hid hpl
    have hp20 : pw q ≤ pw 20 := pw_mono _ _ hq20
    have HP0 := Lib.hid hp20
    clear h hx hl hxd hroot hlen hv hr hvn hq hst hpd hpl hcast hset hb0 hi hz0 hz1 hz2 hp20
    go_enter Try.func114, Try.ntmps114
    go_wp2_with fail
    generalize hW : (w.alloc (.cells ((madeCells #[.int .i64 0] (q + 1)).setIfInBounds q (.int .i64 1)) 2)) = W
    have hb1 := HSET.out
    rw [World.setCell_alloc_at _ _ _ _ _ rfl, hW] at hb1
    have hk1 : Kept [] w W := by rw [← hW]; exact (Kept.refl [] _).alloc _
    have HB1 := Lib.hid hb1
    have HK1 := Lib.hid hk1
    have hm20 : pw 20 ≤ pw 21 := pw_mono _ _ (by omega)
    clear hb1 hk1 hW hc0 hf0 hmk hqe
    go_loopg [3] (pw q).toNat (fun gk s wr => ∃ (x : Int) (a3 : Option Addr) (c3 : Nat), s = .slice a3 (digits x).length c3 ∧ r ≤ x ∧ Hid (x ≤ pw q) ∧ x.toNat ≤ gk ∧ Hid (Sl wr a3 (digits x).length c3 (digits x)) ∧ Hid (Fr w.heap.size a3 (digits x).length) ∧ Hid (Kept [] w wr))
    case atStart =>
      refine ⟨pw q, some ⟨w.heap.size, 0, none⟩, q + 1, by rw [HPL.out], ?_, Int.le_refl _, Nat.le_refl _, ?_, fun _ x hx => ?_, HK1.out⟩
      · have := HST.out; omega
      · have := Sl.ofBlkC (c := q + 1) HB1.out (by rw [HPL.out]; omega) (by omega); exact this
      · cases hx; exact Nat.le_refl _
    case round =>
      obtain ⟨x, a3, c3, rfl, hrx, hxk, hgk, hS, hF, hK⟩ := hrel
      have hx0 : 0 < x := by omega
      have hxp : x ≤ pw 20 := Int.le_trans hxk.out HP0.out
      have e21 : pw 21 = 65536 * pw 20 := rfl
      have hp20 := pw_pos 20
      have hp40 : pw 21 ≤ pw 40 := pw_mono _ _ (by omega)
      have hxl : (digits x).length ≤ 40 := by have := digits_len 21 x (by omega); omega
      have hq0 : 0 ≤ v / x := Int.ediv_nonneg (by omega) (by omega)
      have hql := newton_le HRT.out hx0 (by rw [← HRQ.out]; exact hrx)
      have hqd : (digits (v / x)).length ≤ 40 := by have := digits_len 21 (v / x) (by omega); omega
      obtain ⟨u, hu⟩ : ∃ u, u = v / x := ⟨_, rfl⟩
      rw [← hu] at hq0 hql hqd
      obtain ⟨y, hy⟩ : ∃ y, y = (x + u) / 2 := ⟨_, rfl⟩
      have hry : r ≤ y := by rw [hy, hu, HRQ.out]; exact newton_ge HRT.out hx0
      have hsp : x + u < pw 40 := by omega
      have hsl : (digits (x + u)).length ≤ 40 := digits_len 40 _ hsp
      have hyl : (digits y).length ≤ 40 := by have := digits_len_mono (u := y) (v := x + u) (by omega); omega
      have hstop : x ≤ y → x = r := fun hle => by rw [HRQ.out]; exact newton_stop HRT.out hx0 (by rw [← HRQ.out]; exact hrx) (by rw [← hu, ← hy]; exact hle)
      have HSTOP := Lib.hid hstop
      have HQ := Lib.hid hu
      have HY := Lib.hid hy
      have hxpos : 0 ≤ x := by omega
      have hs0 : 0 ≤ x + u := by omega
      have hy0 : 0 ≤ y := by omega
      clear hstop hu hy hsp e21 hp20 hp40 hxp hm20 hql
      go_wp2_with fail
      refine (l1Div_dig _ _ _ _ _ _ _ _ _ (HSD.out.kept0 hK.out) hS.out.rd (Int.le_of_lt hv0) hx0 (by omega) (by omega)).mono ?_
      rintro e w2 ⟨a4, c4, a5, c5, rfl, hs4, _, _, _, hk⟩
      rw [← HQ.out]
      rw [← HQ.out] at hs4
      have HS4 := Lib.hid hs4
      have HK2 := Lib.hid (hK.out.trans0 hk)
      have HS2 := Lib.hid (hS.out.kept0 hk)
      clear hs4 hk
      go_wp2_with fail
      refine (l1Add_dig _ _ _ _ _ _ _ _ _ HS2.out.rd HS4.out.rd hxpos hq0 (by omega) (by omega)).mono ?_
      rintro e w3 ⟨v6, rfl, ho6, hk⟩
      obtain ⟨a6, c6, rfl, hs6, _⟩ := ho6.sl
      have HS6 := Lib.hid hs6
      have HK3 := Lib.hid (HK2.out.trans0 hk)
      have HS3 := Lib.hid (HS2.out.kept0 hk)
      clear hs6 hk ho6
      go_wp2_with fail
      refine (l1Short_dig _ _ _ (x + u) 2 _ HS6.out.rd hs0 (by omega) (by omega)).mono ?_
      rintro e w5 ⟨v7, rfl, ho7, hk⟩
      rw [← HY.out] at ho7
      obtain ⟨a7, c7, rfl, hs7, hf7⟩ := ho7.sl
      have HS7 := Lib.hid hs7
      have HF7 := Lib.hid (hf7.mono HK3.out.size)
      have HK5 := Lib.hid (HK3.out.trans0 hk)
      have HS5 := Lib.hid (HS3.out.kept0 hk)
      clear hs7 hf7 hk ho7
      go_wp2_with fail
      refine (l1Compare_dig _ _ _ _ _ _ _ _ _ HS7.out.rd HS5.out.rd hy0 hxpos hyl hxl).mono ?_
      rintro e w6 ⟨rfl, hk⟩
      have HS8 := Lib.hid (HS7.out.kept0 hk)
      have HS9 := Lib.hid (HS5.out.kept0 hk)
      have HK6 := Lib.hid (HK5.out.trans0 hk)
      clear hk
      by_cases hlt : y < x
      · rw [cmpV_lt hlt]
        go_wp2_with fail
        go_roundg (y.toNat)
        case measure => omega
        case rel => exact ⟨y, a7, c7, rfl, hry, Lib.hid (Int.le_trans (Int.le_of_lt hlt) hxk.out), Nat.le_refl _, HS8, HF7, HK6⟩
      · obtain ⟨cv, hcv⟩ : ∃ cv, cv = cmpV y x := ⟨_, rfl⟩
        have hcn : 0 ≤ cv := by rw [hcv]; unfold cmpV; rw [if_neg hlt]; split <;> omega
        rw [← hcv]
        have hxr : x = r := HSTOP.out (by omega)
        have HXR := Lib.hid hxr
        clear hcv hxr
        go_wp2_with fail
        go_ret
        refine ⟨a3, c3, ?_, ?_, ?_, HK6.out⟩
        · rw [← HRQ.out, ← HXR.out]; rfl
        · rw [← HRQ.out, ← HXR.out]; exact HS9.out
        · rw [← HRQ.out, ← HXR.out]; exact hF.out

open Go.RowKit

def absI (x : Int) : Int := if x < 0 then -x else x
theorem mag_abs (x : Int) : mag x = digits (absI x) := rfl
theorem mag4 {x : Int} (hx : x ≤ 9223372036854775807) (hx2 : -9223372036854775808 ≤ x) : (mag x).length ≤ 4 := by rw [mag_abs]; exact digits_len 4 (absI x) (by simp only [pw]; unfold absI; split <;> omega)
theorem quo_neg {z : Int} (h : 0 ≤ z) : (-z).tdiv 65536 = -(z / 65536) ∧ (-z).tmod 65536 = -(z % 65536) := by
  constructor
  · rw [Int.neg_tdiv, Int.tdiv_eq_ediv_of_nonneg h]
  · rw [Int.neg_tmod, Int.tmod_eq_emod_of_nonneg h]
theorem quo_cases (y : Int) : (0 ≤ y ∧ y.tdiv 65536 = y / 65536 ∧ y.tmod 65536 = y % 65536) ∨ (y < 0 ∧ y.tdiv 65536 = -(-y / 65536) ∧ y.tmod 65536 = -(-y % 65536)) := by
  by_cases h : 0 ≤ y
  · exact .inl ⟨h, Int.tdiv_eq_ediv_of_nonneg h, Int.tmod_eq_emod_of_nonneg h⟩
  · have := quo_neg (z := -y) (by omega)
    rw [Int.neg_neg] at this
    exact .inr ⟨by omega, this.1, this.2⟩
theorem quoIn {y : Int} (h1 : y ≤ 9223372036854775807) (h2 : -9223372036854775808 ≤ y) : -9223372036854775808 ≤ y.tdiv 65536 ∧ y.tdiv 65536 ≤ 9223372036854775807 := by
  rcases quo_cases y with ⟨h, e, _⟩ | ⟨h, e, _⟩ <;> rw [e] <;> omega
theorem absQuo (y : Int) : absI (y.tdiv 65536) = absI y / 65536 := by
  unfold absI
  rcases quo_cases y with ⟨h, e, _⟩ | ⟨h, e, _⟩ <;> rw [e]
  · rw [if_neg (by omega), if_neg (by omega)]
  · rw [if_pos h]; split <;> omega
theorem bigDigit {y : Int} (h1 : y ≤ 9223372036854775807) (h2 : -9223372036854775808 ≤ y) : max (y.tmod 65536) (wrap64 (-y.tmod 65536)) = absI y % 65536 := by
  have e : wrap64 (-y.tmod 65536) = -y.tmod 65536 := by
    rcases quo_cases y with ⟨h, _, e⟩ | ⟨h, _, e⟩ <;> rw [e] <;> unfold wrap64 <;> omega
  rw [e]
  unfold absI
  rcases quo_cases y with ⟨h, _, e⟩ | ⟨h, _, e⟩ <;> rw [e]
  · rw [if_neg (by omega)]; omega
  · rw [if_pos h]; omega

set_option maxHeartbeats 1000000 in
set_option maxRecDepth 10000 in
theorem BigOf_any (x : Int) (w : World) (hx : x ≤ 9223372036854775807) (hx2 : -9223372036854775808 ≤ x) :
    Calls Try.prog 118 #[.int .i64 x] w (BigV w.heap.size w x) := by
  have hlen : (mag x).length ≤ 4 := by rw [mag_abs]; exact digits_len 4 (absI x) (by simp only [pw]; unfold absI; split <;> omega)
  have HLEN := Lib.hid hlen
  clear hlen
  go_enter Try.func118, Try.ntmps118
  go_wp2
  go_loopw [4, 3] (fun i v wr => ∃ (y : Int) (xs : List Int), i = .int .i64 y ∧ y ≤ 9223372036854775807 ∧ -9223372036854775808 ≤ y ∧ Hid (xs ++ mag y = mag x) ∧ Hid (Ow (w.heap.size + 1) wr v xs) ∧ Hid (Kept [] (w.alloc (.cells #[.bool false, .slice none 0 0] 29)) wr)) (fun i _ _ => (absI (intOf i)).toNat)
  case atStart =>
    exact ⟨x, [], rfl, hx, hx2, rfl, Ow.nil _ _, Kept.refl [] _⟩
  case round =>
    obtain ⟨y, xs, rfl, hy, hy2, hD, hO, hK⟩ := hrel
    by_cases h0 : y = 0
    · subst h0
      have hx2 : Hid (xs = mag x) := by
        have := hD.out
        rw [mag_zero, List.append_nil] at this
        exact this
      obtain ⟨a, c, rfl, hS, hF⟩ := hO.out.sl
      obtain ⟨hc0, hf0, hsz⟩ := hK.out.top (g := w.heap.size) (by simp) (by simp) 0 (v := .bool false) rfl
      obtain ⟨hc1, hf1, hsz⟩ := hK.out.top (g := w.heap.size) (by simp) (by simp) 1 (v := .slice none 0 0) rfl
      obtain ⟨ea, eb⟩ := cells2 (.bool (decide (x < 0))) (.slice a xs.length c) hc0 hc1
      go_wp2
      exact bodyPost_ret (v := .agg #[.bool (isNeg x), .slice a xs.length c]) (by simp [results, Try.results118, go_sem, eb, isNeg]) rfl (by rw [hx2.out] at *; exact bigV_fin (g := w.heap.size) (w0 := (w.alloc (.cells #[.bool false, .slice none 0 0] 29))) (by omega) hS (by simpa using hF) (by simp) (((Kept.refl [] w).alloc _).trans0 hK.out))
    · have hD2 : Hid ((xs ++ [absI y % 65536]) ++ digits (absI y / 65536) = mag x) := by
        have := hD.out
        rw [mag_abs y, digits_pos (show 0 < absI y by unfold absI; split <;> omega)] at this
        show (xs ++ [absI y % 65536]) ++ digits (absI y / 65536) = mag x
        rw [← this]; simp
      have hxl : xs.length ≤ 4 := by
        have := HLEN.out
        rw [← hD.out] at this
        simp at this; omega
      have hsz : w.heap.size + 1 ≤ wr.heap.size := by have := hK.out.size; simpa using this
      go_wp2_with (at_builtin; refine app1 rfl _ _ rfl (w.heap.size + 1) u3 xs rfl (hO.out.alloc _) wr.heap.size (max (y.tmod 65536) (wrap64 (-y.tmod 65536))) rfl (by simp) (by omega) (by simp; omega) ?_)
      intro v' w1 hO2 hG
      rw [bigDigit hy hy2] at hO2
      have HO2 := Lib.hid hO2
      have HK2 : Hid (Kept [] (w.alloc (.cells #[.bool false, .slice none 0 0] 29)) w1) := kept_grown (hK.out.alloc _) (hO.out.alloc _) hG (by simp)
      clear hO2 hG
      go_wp2
      have hq := absQuo y
      go_roundw
      case rel => exact ⟨y.tdiv 65536, xs ++ [absI y % 65536], rfl, (quoIn hy hy2).2, (quoIn hy hy2).1, by rw [mag_abs (y.tdiv 65536), hq]; exact hD2, HO2.out, HK2⟩
      case measure => rw [show absI (intOf (.int .i64 (y.tdiv 65536))) = absI y / 65536 from hq, show absI (intOf (.int .i64 y)) = absI y from rfl]; have : 0 < absI y := by unfold absI; split <;> omega
                      omega

open Go.RowKit

/-- The square root, rounded up. -/
def csq (v : Int) : Int := if isq v * isq v < v then isq v + 1 else isq v
def rootB (f : Int → Int) (p : Bool) (xs : List Int) : BV := if bigFault p xs = 0 then (if p = true then noBig 3 else ⟨0, false, digits (f (val xs))⟩) else noBig (bigFault p xs)
theorem isq_le {v : Int} (h : 0 ≤ v) : 0 ≤ isq v ∧ isq v ≤ v := by
  have hr := isq_root h
  refine ⟨hr.pos, ?_⟩
  rcases (by have := hr.pos; omega : isq v = 0 ∨ 1 ≤ isq v) with e | e
  · omega
  · have h1 : isq v * 1 ≤ isq v * isq v := Int.mul_le_mul_of_nonneg_left e hr.pos
    have := hr.low; omega
theorem csq_le {v : Int} (h : 0 ≤ v) : 0 ≤ csq v ∧ csq v ≤ v := by
  have h1 := isq_le h
  have hr := isq_root h
  unfold csq
  split
  · rename_i hlt
    rcases (by omega : isq v = 0 ∨ 1 ≤ isq v) with e | e
    · rw [e] at hlt ⊢; simp at hlt; omega
    · have h3 : isq v * 1 ≤ isq v * isq v := Int.mul_le_mul_of_nonneg_left e hr.pos
      omega
  · exact h1
theorem rootB_len {f : Int → Int} (hf : ∀ v, 0 ≤ v → 0 ≤ f v ∧ f v ≤ v) (p : Bool) (xs : List Int) : (rootB f p xs).limbs.length ≤ 40 := by
  unfold rootB
  by_cases hz : bigFault p xs = 0
  · rw [if_pos hz]
    by_cases hp : p = true
    · rw [if_pos hp]; exact Nat.zero_le _
    · rw [if_neg hp]
      have hx := (bigFault_zero hz).n40
      have h0 := (canon_nonneg hx.canon).1
      have := digits_len_mono (hf _ h0).2
      rw [digits_val hx.canon] at this
      have := hx.len
      show (digits (f (val xs))).length ≤ 40
      omega
  · rw [if_neg hz]; exact Nat.zero_le _
/-- A big answer, stored into the result's block, which is the second one of the call. -/
theorem bigR_fin2 {w w1 : World} {r : BV} {a : Option Addr} {c : Nat} (hS : Sl w1 a r.limbs.length c r.limbs) (hF : Fr (w.heap.size + 1 + 1) a r.limbs.length) (hk : Kept [] w w1) :
    BigR w r (.returned (.agg #[.int .i64 r.code, .bool r.neg, .slice a r.limbs.length c])) (((w1.setCell ⟨w.heap.size + 1, 0, none⟩ (.int .i64 r.code)).setCell ⟨w.heap.size + 1, 1, none⟩ (.bool r.neg)).setCell ⟨w.heap.size + 1, 2, none⟩ (.slice a r.limbs.length c)) :=
  ⟨a, c, rfl, hS.kept ((((Kept.refl [w.heap.size + 1] w1).setCell _ _ (by simp)).setCell _ _ (by simp)).setCell _ _ (by simp)) (fun hn x hx => by have := hF hn x hx; simp; omega), hF.mono (by omega),
    ((hk.setCell _ _ (by simp)).setCell _ _ (by simp)).setCell _ _ (by simp)⟩

set_option maxHeartbeats 2000000 in
theorem FloorRoot_any (p : Bool) (a : Option Addr) (n c : Nat) (xs : List Int) (w : World) (h : Sl w a n c xs) :
    Calls Try.prog 92 #[.agg #[.bool p, .slice a n c]] w (BigR w (rootB isq p xs)) := by
  have HS := Lib.hid h
  clear h
  have k0 : Kept [] w ((w.alloc (.cells #[.bool p, .slice a n c] 29)).alloc (.cells #[.int .i64 0, .bool false, .slice none 0 0] 61)) := ((Kept.refl [] w).alloc _).alloc _
  have K0 := Lib.hid k0
  clear k0
  unfold rootB
  by_cases hz : bigFault p xs = 0
  · rw [if_pos hz]
    have hz' := Lib.hid hz
    have HX := Lib.hid (bigFault_zero hz).n40
    clear hz
    cases p
    · rw [if_neg Bool.false_ne_true]
      go_enter Try.func92, Try.ntmps92
      go_wp2_with fail
      refine (BigFault_any _ _ _ _ _ _ (HS.out.rd.kept0 K0.out)).mono ?_
      rintro e w1 ⟨rfl, hk⟩
      rw [hz'.out]
      have c00 := (hk.peel.top (g := w.heap.size) (by simp) (by simp) 0 (v := .bool false) rfl).1
      have c01 := (hk.peel.top (g := w.heap.size) (by simp) (by simp) 1 (v := .slice a n c) rfl).1
      obtain ⟨rc0, rf0, hsz⟩ := hk.top (g := w.heap.size + 1) (by simp) (by simp) 0 (v := .int .i64 0) rfl
      obtain ⟨rc1, rf1, hsz⟩ := hk.top (g := w.heap.size + 1) (by simp) (by simp) 1 (v := .bool false) rfl
      obtain ⟨rc2, rf2, hsz⟩ := hk.top (g := w.heap.size + 1) (by simp) (by simp) 2 (v := .slice none 0 0) rfl
      have HK := Lib.hid (K0.out.trans0 hk)
      have hk1s := hk.size
      simp only [World.size_alloc] at hk1s
      clear hk
      go_wp2_with fail
      refine (rootOfNat_any _ _ _ _ _ (HS.out.rd.kept0 HK.out) HX.out).mono ?_
      rintro e w2 ⟨a2, x2, rfl, hs2, hf2, hk2⟩
      have hf2 := hf2.mono (B' := w.heap.size + 1 + 1) (by omega)
      have g0 := hk2.cell (p := ⟨w.heap.size + 1, 0, none⟩) rc0 (by simp)
      have g1 := hk2.cell (p := ⟨w.heap.size + 1, 1, none⟩) rc1 (by simp)
      have g2 := hk2.cell (p := ⟨w.heap.size + 1, 2, none⟩) rc2 (by simp)
      have e0 := hk2.free' (p := ⟨w.heap.size + 1, 0, none⟩) rc0 rf0 (by simp)
      have e1 := hk2.free' (p := ⟨w.heap.size + 1, 1, none⟩) rc1 rf1 (by simp)
      have e2 := hk2.free' (p := ⟨w.heap.size + 1, 2, none⟩) rc2 rf2 (by simp)
      have HS2 := Lib.hid hs2
      have HF2 := Lib.hid hf2
      have HK2 := Lib.hid (HK.out.trans0 hk2)
      obtain ⟨zs, hzs⟩ : ∃ zs, zs = digits (isq (val xs)) := ⟨_, rfl⟩
      rw [← hzs] at HS2 HF2 ⊢
      have HZS := Lib.hid hzs
      clear hzs hs2 hf2 hk2
      obtain ⟨ea, eb, ec⟩ := cells3' (.int .i64 0) (.bool false) (.slice a2 zs.length x2) g0 g1 g2
      go_wp2_with fail
      exact bodyPost_ret (v := .agg #[.int .i64 0, .bool false, .slice a2 zs.length x2]) (by simp [results, Try.results92, go_sem, ea, eb, ec]) rfl (by rw [← HZS.out]; exact bigR_fin2 (r := ⟨0, false, zs⟩) HS2.out HF2.out HK2.out)
    · rw [if_pos rfl]
      go_enter Try.func92, Try.ntmps92
      go_wp2_with fail
      refine (BigFault_any _ _ _ _ _ _ (HS.out.rd.kept0 K0.out)).mono ?_
      rintro e w1 ⟨rfl, hk⟩
      rw [hz'.out]
      have c00 := (hk.peel.top (g := w.heap.size) (by simp) (by simp) 0 (v := .bool true) rfl).1
      have c01 := (hk.peel.top (g := w.heap.size) (by simp) (by simp) 1 (v := .slice a n c) rfl).1
      obtain ⟨rc0, rf0, hsz⟩ := hk.top (g := w.heap.size + 1) (by simp) (by simp) 0 (v := .int .i64 0) rfl
      obtain ⟨rc1, rf1, hsz⟩ := hk.top (g := w.heap.size + 1) (by simp) (by simp) 1 (v := .bool false) rfl
      obtain ⟨rc2, rf2, hsz⟩ := hk.top (g := w.heap.size + 1) (by simp) (by simp) 2 (v := .slice none 0 0) rfl
      have HK := Lib.hid (K0.out.trans0 hk)
      clear hk
      obtain ⟨ea, eb, ec⟩ := cells3' (.int .i64 3) (.bool false) (.slice none 0 0) rc0 rc1 rc2
      go_wp2_with fail
      exact bodyPost_ret (v := .agg #[.int .i64 3, .bool false, .slice none 0 0]) (by simp [results, Try.results92, go_sem, ea, eb, ec]) rfl (bigR_fin2 (r := noBig 3) (a := none) (c := 0) (Sl.nil _) (fun h => by simp [noBig] at h) HK.out)
  · rw [if_neg hz]
    generalize hf : bigFault p xs = f at *
    have hne : (f == 0) = false := by rw [beq_eq_false_iff_ne]; exact hz
    have HF := Lib.hid hf
    have hfz := Lib.hid hz
    clear hf hz
    go_enter Try.func92, Try.ntmps92
    go_wp2_with fail
    refine (BigFault_any _ _ _ _ _ _ (HS.out.rd.kept0 K0.out)).mono ?_
    rintro e w1 ⟨rfl, hk⟩
    rw [HF.out]
    have c00 := (hk.peel.top (g := w.heap.size) (by simp) (by simp) 0 (v := .bool p) rfl).1
    have c01 := (hk.peel.top (g := w.heap.size) (by simp) (by simp) 1 (v := .slice a n c) rfl).1
    obtain ⟨rc0, rf0, hsz⟩ := hk.top (g := w.heap.size + 1) (by simp) (by simp) 0 (v := .int .i64 0) rfl
    obtain ⟨rc1, rf1, hsz⟩ := hk.top (g := w.heap.size + 1) (by simp) (by simp) 1 (v := .bool false) rfl
    obtain ⟨rc2, rf2, hsz⟩ := hk.top (g := w.heap.size + 1) (by simp) (by simp) 2 (v := .slice none 0 0) rfl
    have HK := Lib.hid (K0.out.trans0 hk)
    clear hk
    obtain ⟨ea, eb, ec⟩ := cells3' (.int .i64 f) (.bool false) (.slice none 0 0) rc0 rc1 rc2
    go_wp2_with fail
    exact bodyPost_ret (v := .agg #[.int .i64 f, .bool false, .slice none 0 0]) (by simp [results, Try.results92, go_sem, ea, eb, ec]) rfl (bigR_fin2 (r := noBig f) (a := none) (c := 0) (Sl.nil _) (fun h => by simp [noBig] at h) HK.out)

open Go.RowKit

def CRootR (w : World) (v : Int) (e : Ending) (w' : World) : Prop := ∃ a c, e = .returned (.slice a (digits (csq v)).length c) ∧ Sl w' a (digits (csq v)).length c (digits (csq v)) ∧ Fr w.heap.size a (digits (csq v)).length ∧ Kept [] w w'

theorem isq_len {xs : List Int} (hx : Nat40 xs) : (digits (isq (val xs))).length ≤ 40 := by
  have h0 := (canon_nonneg hx.canon).1
  have := digits_len_mono (isq_le h0).2
  rw [digits_val hx.canon] at this
  have := hx.len
  omega

set_option maxHeartbeats 2000000 in
/-- The model's root, rounded up; the limbs lie in memory of the call's own. -/
theorem l2CeilRoot_any (a : Option Addr) (n c : Nat) (xs : List Int) (w : World) (h : Sl w a n c xs) (hx : Nat40 xs) :
    Calls Try.prog 115 #[.slice a n c] w (CRootR w (val xs)) := by
  have h0 := (canon_nonneg hx.canon).1
  have hr0 := (isq_le h0).1
  have hrv := (isq_le h0).2
  have hrl := isq_len hx
  have hsl : isq (val xs) * isq (val xs) ≤ val xs := (isq_root h0).low
  have hsq0 : 0 ≤ isq (val xs) * isq (val xs) := Int.mul_nonneg hr0 hr0
  have hql : (digits (isq (val xs) * isq (val xs))).length ≤ 40 := by
    have := digits_len_mono hsl
    rw [digits_val hx.canon] at this
    have := hx.len
    omega
  have HS := Lib.hid h
  have HX := Lib.hid hx
  have HQL := Lib.hid hql
  have HRL := Lib.hid hrl
  clear h hx hql hrl
  go_enter Try.func115, Try.ntmps115
  go_wp2_with fail
  refine (l2Root_any _ _ _ _ _ HS.out HX.out).mono ?_
  rintro e w1 ⟨a1, c1, rfl, hs1, hf1, hk1⟩
  have HS1 := Lib.hid hs1
  have HF1 := Lib.hid hf1
  have HK1 := Lib.hid hk1
  clear hs1 hf1 hk1
  go_wp2_with fail
  refine (l1Mul_any _ _ _ _ _ _ _ _ _ HS1.out.rd HS1.out.rd (canon_limbs (canon_digits' _)) (canon_limbs (canon_digits' _)) (by have := HRL.out; omega) (by have := HRL.out; omega)).mono ?_
  rintro e w2 ⟨v2, rfl, hO2, hk2⟩
  rw [val_digits' hr0] at hO2
  obtain ⟨a2, c2, rfl, hs2, hf2⟩ := hO2.sl
  have HS2 := Lib.hid hs2
  have HK2 := Lib.hid hk2
  clear hs2 hf2 hO2 hk2
  go_wp2_with fail
  refine (l1Compare_any _ _ _ _ _ _ _ _ _ HS2.out.rd (HS.out.kept0 (HK1.out.trans0 HK2.out)).rd (nat40_of_canon (canon_digits' _) HQL.out) HX.out).mono ?_
  rintro e w3 ⟨rfl, hk3⟩
  have HK3 := Lib.hid hk3
  clear hk3
  rw [val_digits' hsq0]
  by_cases hlt : isq (val xs) * isq (val xs) < val xs
  · have hc : cmpV (isq (val xs) * isq (val xs)) (val xs) = -1 := by unfold cmpV; rw [if_pos hlt]
    have hcs : csq (val xs) = isq (val xs) + 1 := by unfold csq; rw [if_pos hlt]
    have HCS := Lib.hid hcs
    rw [hc]
    clear hc hcs
    go_wp2_with fail
    refine (l1Add_any _ _ _ _ _ _ _ [1] _ ((HS1.out.kept0 ((HK2.out.trans0 HK3.out).trans0 ((Kept.refl [] w3).alloc _))).rd) (rd_row1 w3 rfl) (canon_digits' _) ⟨by omega, by omega, trivial, fun _ => by omega⟩ (by have := HRL.out; omega) (by omega)).mono ?_
    rintro e w4 ⟨v4, rfl, hO4, hk4⟩
    rw [val_digits' hr0, show isq (val xs) + val [1] = csq (val xs) by rw [HCS.out]; rfl] at hO4
    obtain ⟨a4, c4, rfl, hs4, hf4⟩ := hO4.sl
    have z1 := HK1.out.size
    have z2 := HK2.out.size
    have z3 := HK3.out.size
    have HS4 := Lib.hid hs4
    have HF4 := Lib.hid (hf4.mono (B' := w.heap.size) (by simp only [World.size_alloc]; omega))
    have HK4 := Lib.hid (((HK1.out.trans0 HK2.out).trans0 HK3.out).trans0 (((Kept.refl [] w3).alloc _).trans0 hk4))
    clear hs4 hf4 hk4 hO4
    go_wp2_with fail
    go_ret
    exact ⟨a4, c4, rfl, HS4.out, HF4.out, HK4.out⟩
  · have he : isq (val xs) * isq (val xs) = val xs := by omega
    have hc : cmpV (isq (val xs) * isq (val xs)) (val xs) = 0 := by unfold cmpV; rw [if_neg (by omega), if_neg (by omega)]
    have hcs : csq (val xs) = isq (val xs) := by unfold csq; rw [if_neg (by omega)]
    have HCS := Lib.hid hcs
    rw [hc]
    clear hc hcs
    go_wp2_with fail
    go_ret
    exact ⟨a1, c1, by rw [HCS.out]; rfl, by rw [HCS.out]; exact HS1.out.kept0 (HK2.out.trans0 HK3.out), by rw [HCS.out]; exact HF1.out, (HK1.out.trans0 HK2.out).trans0 HK3.out⟩

open Go.RowKit

open Go.RowKit

theorem rootB_ways (p : Bool) (xs : List Int) : (∃ f, f ≠ 0 ∧ ∀ g, rootB g p xs = noBig f) ∨ (p = false ∧ Nat40 xs ∧ ∀ g, rootB g p xs = ⟨0, false, digits (g (val xs))⟩) := by
  by_cases hz : bigFault p xs = 0
  · cases p
    · exact .inr ⟨rfl, (bigFault_zero hz).n40, fun g => by unfold rootB; rw [if_pos hz, if_neg Bool.false_ne_true]⟩
    · exact .inl ⟨3, by decide, fun g => by unfold rootB; rw [if_pos hz, if_pos rfl]⟩
  · exact .inl ⟨_, hz, fun g => by unfold rootB; rw [if_neg hz]⟩

theorem BigOf_one (w : World) : Calls Try.prog 118 #[.int .i64 1] w (fun e w' => ∃ a c, e = .returned (.agg #[.bool false, .slice a 1 c]) ∧ Sl w' a 1 c [1] ∧ Kept [] w w') := by
  refine (BigOf_any 1 w (by omega) (by omega)).mono ?_
  have hm : mag 1 = [1] := by rw [mag_no (by omega), digits_pos (by omega), digits_zero (by omega)]; rfl
  rintro e w' ⟨a, c, rfl, hs, _, hk⟩
  rw [hm] at hs ⊢
  exact ⟨a, c, by rw [isNeg_no (by omega)]; rfl, hs, hk⟩
theorem addB_one {X : Int} (h0 : 0 ≤ X) (hn : Nat40 (digits X)) (hl : (digits (X + 1)).length ≤ 40) : addB false (digits X) false [1] = ⟨0, false, digits (X + 1)⟩ := by
  have h1n : Nat40 [1] := ⟨by simp, fun i hi => by have : i = 0 := by simpa using hi
                                                   subst this; simp, fun _ => by simp⟩
  have h1 : bigFault false [1] = 0 := bigFault_ok (nat40_fault h1n) (fun h => by cases h)
  have h2 : bigFault false (digits X) = 0 := bigFault_ok (nat40_fault hn) (fun h => by cases h)
  have h3 : sv false (digits X) + sv false [1] = X + 1 := by
    show val (digits X) + val [1] = X + 1
    rw [val_digits' h0]; rfl
  unfold addB
  rw [twoB_zero (by unfold bigFault2; rw [if_pos h2]; exact h1), h3]
  unfold fitB
  rw [mag_no (by omega), if_neg (by omega), isNeg_no (by omega)]
theorem bigR_alloc {w w1 : World} {r : BV} {e : Ending} {o : Obj} (h : BigR w r e w1) : BigR w r e (w1.alloc o) := by
  obtain ⟨a, c, rfl, hs, hf, hk⟩ := h
  exact ⟨a, c, rfl, hs.kept0 ((Kept.refl [] _).alloc _), hf, hk.alloc _⟩

set_option maxHeartbeats 2000000 in
theorem CeilRoot_any (p : Bool) (a : Option Addr) (n c : Nat) (xs : List Int) (w : World) (h : Sl w a n c xs) :
    Calls Try.prog 93 #[.agg #[.bool p, .slice a n c]] w (BigR w (rootB csq p xs)) := by
  have HS := Lib.hid h
  clear h
  have k0 : Kept [] w ((w.alloc (.cells #[.bool p, .slice a n c] 29)).alloc (.cells #[.int .i64 0, .bool false, .slice none 0 0] 61)) := ((Kept.refl [] w).alloc _).alloc _
  have K0 := Lib.hid k0
  clear k0
  rcases rootB_ways p xs with ⟨f, hf, hr⟩ | ⟨rfl, hx, hr⟩
  · rw [hr csq]
    have HR := Lib.hid (hr isq)
    obtain ⟨r, hrr⟩ : ∃ r, r = noBig f := ⟨_, rfl⟩
    rw [← hrr] at HR ⊢
    have hne : (r.code != 0) = true := by rw [hrr]; simpa [noBig] using hf
    clear hf hr hrr
    go_enter Try.func93, Try.ntmps93
    go_wp2_with fail
    refine (FloorRoot_any _ _ _ _ _ _ (HS.out.kept0 K0.out)).mono ?_
    rintro e w1 ⟨a1, c1, rfl, hs1, hf1, hk⟩
    rw [HR.out] at hs1 hf1 ⊢
    obtain ⟨rc0, rf0, hsz⟩ := hk.top (g := w.heap.size + 1) (by simp) (by simp) 0 (v := .int .i64 0) rfl
    obtain ⟨rc1, rf1, hsz⟩ := hk.top (g := w.heap.size + 1) (by simp) (by simp) 1 (v := .bool false) rfl
    obtain ⟨rc2, rf2, hsz⟩ := hk.top (g := w.heap.size + 1) (by simp) (by simp) 2 (v := .slice none 0 0) rfl
    have HK := Lib.hid (K0.out.trans0 hk)
    have HS1 := Lib.hid hs1
    have HF1 := Lib.hid hf1
    clear hk hs1 hf1
    obtain ⟨ea, eb, ec⟩ := cells3' (.int .i64 r.code) (.bool r.neg) (.slice a1 r.limbs.length c1) rc0 rc1 rc2
    have ea' := alloc_cell (o := .cells #[.int .i64 r.code, .bool r.neg, .slice a1 r.limbs.length c1] 61) ea
    have eb' := alloc_cell (o := .cells #[.int .i64 r.code, .bool r.neg, .slice a1 r.limbs.length c1] 61) eb
    have ec' := alloc_cell (o := .cells #[.int .i64 r.code, .bool r.neg, .slice a1 r.limbs.length c1] 61) ec
    go_wp2_with fail
    exact bodyPost_ret (v := .agg #[.int .i64 r.code, .bool r.neg, .slice a1 r.limbs.length c1]) (by simp [results, Try.results93, go_sem, ea', eb', ec']) rfl (bigR_alloc (bigR_fin2 (r := r) HS1.out (HF1.out.mono (by simp)) HK.out))
  · have HX := Lib.hid hx
    have HR := Lib.hid (hr isq)
    rw [hr csq]
    clear hx hr
    go_enter Try.func93, Try.ntmps93
    go_wp2_with fail
    refine (FloorRoot_any _ _ _ _ _ _ (HS.out.kept0 K0.out)).mono ?_
    rintro e w1 ⟨a1, c1, rfl, hs1, hf1, hk⟩
    rw [HR.out] at hs1 hf1 ⊢
    obtain ⟨rc0, rf0, hsz⟩ := hk.top (g := w.heap.size + 1) (by simp) (by simp) 0 (v := .int .i64 0) rfl
    obtain ⟨rc1, rf1, hsz⟩ := hk.top (g := w.heap.size + 1) (by simp) (by simp) 1 (v := .bool false) rfl
    obtain ⟨rc2, rf2, hsz⟩ := hk.top (g := w.heap.size + 1) (by simp) (by simp) 2 (v := .slice none 0 0) rfl
    have ac0 := (hk.peel.top (g := w.heap.size) (by simp) (by simp) 0 (v := .bool false) rfl).1
    have ac1 := (hk.peel.top (g := w.heap.size) (by simp) (by simp) 1 (v := .slice a n c) rfl).1
    have HK := Lib.hid (K0.out.trans0 hk)
    have HS1 := Lib.hid hs1
    have HF1 := Lib.hid hf1
    clear hk hs1 hf1
    obtain ⟨X, hX⟩ : ∃ X, X = isq (val xs) := ⟨_, rfl⟩
    rw [← hX] at HS1 HF1 ⊢
    have HXX := Lib.hid hX
    clear hX
    simp only at HS1 HF1 ⊢
    have hX0 : 0 ≤ X := by rw [HXX.out]; exact (isq_le (canon_nonneg HX.out.canon).1).1
    have hXl : (digits X).length ≤ 40 := by rw [HXX.out]; exact isq_len HX.out
    have hsl : X * X ≤ val xs := by rw [HXX.out]; exact (isq_root (canon_nonneg HX.out.canon).1).low
    have hXX : 0 ≤ X * X := Int.mul_nonneg hX0 hX0
    have hql : (digits (X * X)).length ≤ 40 := by
      have := digits_len_mono hsl
      rw [digits_val HX.out.canon] at this
      have := HX.out.len
      omega
    have hnx : Nat40 (digits X) := nat40_of_canon (canon_digits' _) hXl
    have hz2 : fault2 (digits X) (digits X) = 0 := by rw [fault2_second (nat40_fault hnx)]; exact nat40_fault hnx
    have HZ2 := Lib.hid hz2
    have hfc : fitCode (X * X) = 0 := by unfold fitCode; rw [if_neg (by omega)]
    have hfl : fitList (X * X) = digits (X * X) := by unfold fitList; rw [if_neg (by omega)]
    have HFC := Lib.hid hfc
    have HFL := Lib.hid hfl
    have hzq : fault2 (digits (X * X)) xs = 0 := by rw [fault2_second (nat40_fault (nat40_of_canon (canon_digits' _) hql))]; exact nat40_fault HX.out
    have HZQ := Lib.hid hzq
    have HNX := Lib.hid hnx
    clear hz2 hfc hfl hzq hnx
    go_wp2_with fail
    have KA := Lib.hid ((Kept.refl [] w1).alloc (.cells #[.int .i64 0, .bool false, .slice a1 (digits X).length c1] 61))
    refine (MulNats_any _ _ _ _ _ _ _ _ _ (HS1.out.kept0 KA.out).rd (HS1.out.kept0 KA.out).rd).mono ?_
    rw [if_pos HZ2.out, if_pos HZ2.out, val_digits' hX0, HFC.out, HFL.out]
    rintro e w2 ⟨a2, c2, rfl, hs2, hf2, hk2⟩
    have hb := Kept.refl [] (w1.alloc (.cells #[.int .i64 0, .bool false, .slice a1 (digits X).length c1] 61))
    have bc0 := hk2.cell (hb.top (g := w1.heap.size) (by simp) (by simp) 0 (v := .int .i64 0) rfl).1 (by simp)
    have bc1 := hk2.cell (hb.top (g := w1.heap.size) (by simp) (by simp) 1 (v := .bool false) rfl).1 (by simp)
    have bc2 := hk2.cell (hb.top (g := w1.heap.size) (by simp) (by simp) 2 (v := .slice a1 (digits X).length c1) rfl).1 (by simp)
    have hk12 := KA.out.trans0 hk2
    have rf0 := hk12.free' rc0 rf0 (by simp)
    have rf1 := hk12.free' rc1 rf1 (by simp)
    have rf2 := hk12.free' rc2 rf2 (by simp)
    have rc0 := hk12.cell rc0 (by simp)
    have rc1 := hk12.cell rc1 (by simp)
    have rc2 := hk12.cell rc2 (by simp)
    have ac0 := hk12.cell ac0 (by simp)
    have ac1 := hk12.cell ac1 (by simp)
    have HK2 := Lib.hid (HK.out.trans0 hk12)
    have HSX := Lib.hid (HS1.out.kept0 hk12)
    have HS2 := Lib.hid hs2
    have z12 := hk12.size
    have z2 := hk2.size
    simp only [World.size_alloc] at z2
    clear hs2 hf2 hk2 hk12 hb KA HS1
    have ac1' := alloc_cell (o := .cells #[.int .i64 0, .slice a2 (digits (X * X)).length c2] 92) ac1
    go_wp2_with fail
    clear ac1'
    have KB := Lib.hid ((Kept.refl [] w2).alloc (.cells #[.int .i64 0, .slice a2 (digits (X * X)).length c2] 92))
    refine (CompareNats_any _ _ _ _ _ _ _ _ _ (HS2.out.kept0 KB.out).rd (HS.out.kept0 (HK2.out.trans0 KB.out)).rd).mono ?_
    rw [if_pos HZQ.out, val_digits' hXX]
    rintro e w3 ⟨rfl, hk3⟩
    have hk13 := KB.out.trans0 hk3
    have rf0 := hk13.free' rc0 rf0 (by simp)
    have rf1 := hk13.free' rc1 rf1 (by simp)
    have rf2 := hk13.free' rc2 rf2 (by simp)
    have rc0 := hk13.cell rc0 (by simp)
    have rc1 := hk13.cell rc1 (by simp)
    have rc2 := hk13.cell rc2 (by simp)
    have bc0 := hk13.cell bc0 (by simp)
    have bc1 := hk13.cell bc1 (by simp)
    have bc2 := hk13.cell bc2 (by simp)
    have HK3 := Lib.hid (HK2.out.trans0 hk13)
    have HSX := Lib.hid (HSX.out.kept0 hk13)
    have z3 := hk13.size
    clear hk3 hk13 KB HS2
    by_cases hlt : X * X < val xs
    · have hc : cmpV (X * X) (val xs) = -1 := cmpV_lt hlt
      have hcs : csq (val xs) = X + 1 := by unfold csq; rw [← HXX.out, if_pos hlt]
      rw [hc]
      have HCS := Lib.hid hcs
      clear hc hcs
      go_wp2_with fail
      have hv1 : (digits (X + 1)).length ≤ 40 := by
        rw [← HCS.out]
        have := digits_len_mono (csq_le (canon_nonneg HX.out.canon).1).2
        rw [digits_val HX.out.canon] at this
        have := HX.out.len
        omega
      have HA := Lib.hid (addB_one hX0 HNX.out hv1)
      clear hv1
      go_region_held3 (fun w' => w'.cell? ⟨w1.heap.size, 0, none⟩ = some (.int .i64 0) ∧ w'.cell? ⟨w1.heap.size, 1, none⟩ = some (.bool false) ∧ w'.cell? ⟨w1.heap.size, 2, none⟩ = some (.slice a1 (digits X).length c1) ∧ Hid (Kept [w.heap.size + 1] w3 w'))
        ((go_split_ands; (try refine ⟨?_, ?_, ?_, ?_⟩) <;> with_reducible first | exact Lib.hid ((Kept.refl _ _).drew) | exact drew_cell (by assumption) | exact Kept.set3 (by assumption) | exact cell_set3 (by assumption) (by simp <;> omega) | exact Lib.hid (Kept.trans0 (Hid.out (by assumption)) (by assumption)) | exact Kept.cell (by assumption) (by assumption) (by simp)))
        (first
          | (go_at_call 118; go_split_ands; refine (BigOf_one _).mono ?_; rintro e w5 ⟨a5, x5, rfl, hs5, hk5⟩)
          | (go_at_call 62; go_split_ands; refine (AddBigs_any _ _ _ _ _ _ _ _ _ _ _ ((HSX.out.kept0 (Kept.refl [] _).drew).kept0 hk5) hs5).mono ?_; rw [HA.out]; rintro e w6 ⟨a6, x6, rfl, hs6, hf6, hk6⟩; have hk7 := ((Kept.refl [] w3).drew.trans0 hk5).trans0 hk6; have g0 := hk7.cell (p := ⟨w.heap.size + 1, 0, none⟩) rc0 (by simp); have g1 := hk7.cell (p := ⟨w.heap.size + 1, 1, none⟩) rc1 (by simp); have g2 := hk7.cell (p := ⟨w.heap.size + 1, 2, none⟩) rc2 (by simp); have e0 := hk7.free' (p := ⟨w.heap.size + 1, 0, none⟩) rc0 rf0 (by simp); have e1 := hk7.free' (p := ⟨w.heap.size + 1, 1, none⟩) rc1 rf1 (by simp); have e2 := hk7.free' (p := ⟨w.heap.size + 1, 2, none⟩) rc2 rf2 (by simp)))
      have HK6 := Lib.hid (HK3.out.trans0 hk7)
      have HS6 := Lib.hid hs6
      have hz5 := hk5.size
      simp only [World.size_drew] at hz5
      have HF6 := Lib.hid (hf6.mono (B' := w.heap.size + 1 + 1) (by omega))
      obtain ⟨ea, eb, ec⟩ := cells3' (.int .i64 0) (.bool false) (.slice a6 (digits (X + 1)).length x6) g0 g1 g2
      clear hs5 hk5 hs6 hf6 hk6 hk7
      go_wp2_with fail
      exact bodyPost_ret (v := .agg #[.int .i64 0, .bool false, .slice a6 (digits (X + 1)).length x6]) (by simp [results, Try.results93, go_sem, ea, eb, ec]) rfl (by rw [HCS.out]; exact bigR_fin2 (r := ⟨0, false, digits (X + 1)⟩) HS6.out HF6.out HK6.out)
    · have hc : cmpV (X * X) (val xs) = 0 := cmpV_eq (by omega)
      have hcs : csq (val xs) = X := by unfold csq; rw [← HXX.out, if_neg hlt]
      rw [hc]
      have HCS := Lib.hid hcs
      clear hc hcs
      obtain ⟨ea, eb, ec⟩ := cells3' (.int .i64 0) (.bool false) (.slice a1 (digits X).length c1) rc0 rc1 rc2
      go_wp2_with fail
      exact bodyPost_ret (v := .agg #[.int .i64 0, .bool false, .slice a1 (digits X).length c1]) (by simp [results, Try.results93, go_sem, ea, eb, ec]) rfl (by rw [HCS.out]; exact bigR_fin2 (r := ⟨0, false, digits X⟩) HSX.out (HF1.out.mono (by simp)) HK3.out)

end Go.Proofs.Ytjndjjdffifgcaa
