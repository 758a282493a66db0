/-
  Contracts of the model's l2Root and l2CeilRoot. Condition: the slice is a natural in a block of numbers.
-/
import Derived.Test.YtgplghjameiciaaJ5
import Derived.Test.YtgplghjameiciaaJ4
namespace Go.Proofs.Ytgplghjameiciaa
open Go.RowKit

theorem l1Div_dig (a b : Option Addr) (n c m d : Nat) (x y : Int) (w : World) (h : Sl w a n c (digits x)) (h' : Rd w b m (digits y)) (hx : 0 ≤ x) (hy : 0 < y) (hxl : (digits x).length ≤ 900) (hyl : (digits y).length ≤ 900) :
    Calls Try.prog 70 #[.slice a n c, .slice b m d] w (DivT w (digits (x / y)) (digits (x % y))) := by
  have := l1Div_any a b n c m d (digits x) (digits y) w h h' (canon_digits' x) (canon_digits' y) (by have := h.1; omega) (by have := h'.1; have := digits_len_pos hy; omega) (by have := h'.1; omega)
  rwa [val_digits' hx, val_digits' (Int.le_of_lt hy)] at this
theorem l1Add_dig (a b : Option Addr) (n c m d : Nat) (x y : Int) (w : World) (h : Rd w a n (digits x)) (h' : Rd w b m (digits y)) (hx : 0 ≤ x) (hy : 0 ≤ y) (hxl : (digits x).length ≤ 900) (hyl : (digits y).length ≤ 900) :
    Calls Try.prog 60 #[.slice a n c, .slice b m d] w (SlR w (digits (x + y))) := by
  have := l1Add_any a b n c m d (digits x) (digits y) w h h' (canon_digits' x) (canon_digits' y) (by have := h.1; omega) (by have := h'.1; omega)
  rwa [val_digits' hx, val_digits' hy] at this
theorem l1Short_dig (a : Option Addr) (n c : Nat) (x d : Int) (w : World) (h : Rd w a n (digits x)) (hx : 0 ≤ x) (hxl : (digits x).length ≤ 900) (hd : 1 ≤ d ∧ d ≤ 65536) :
    Calls Try.prog 101 #[.slice a n c, .int .i64 d] w (ShortR w x d) := by
  have := l1Short_any a n c (digits x) d w h (canon_limbs (canon_digits' x)) (by have := h.1; omega) hd
  rwa [val_digits' hx] at this
theorem l1Compare_dig (a b : Option Addr) (n c m d : Nat) (x y : Int) (w : World) (h : Rd w a n (digits x)) (h' : Rd w b m (digits y)) (hx : 0 ≤ x) (hy : 0 ≤ y) (hxl : (digits x).length ≤ 40) (hyl : (digits y).length ≤ 40) :
    Calls Try.prog 66 #[.slice a n c, .slice b m d] w (Ans w (.int .i64 (cmpV x y))) := by
  have := l1Compare_any a b n c m d (digits x) (digits y) w h h' (nat40_of_canon (canon_digits' x) hxl) (nat40_of_canon (canon_digits' y) hyl)
  rwa [val_digits' hx, val_digits' hy] at this

set_option maxHeartbeats 2000000 in
set_option maxRecDepth 100000 in
theorem l2Root_any (a : Option Addr) (n c : Nat) (xs : List Int) (w : World) (h : Sl w a n c xs) (hx : Nat40 xs) :
    Calls Try.prog 92 #[.slice a n c] w (RootR w (val xs)) := by
  have hl := h.1
  have hmax := h.rd.2.1
  by_cases hn : n = 0
  · subst hn
    have hx0 : xs = [] := List.eq_nil_of_length_eq_zero hl
    subst hx0
    have e : isq (val []) = 0 := rfl
    unfold RootR
    rw [e, digits_zero (by omega)]
    clear h hx hl
    go_enter Try.func92, Try.ntmps92
    go_wp2
    go_ret
    exact ⟨_, 0, rfl, ⟨rfl, Nat.le_refl _, by omega, fun _ => rfl, Or.inl rfl⟩, fun h => by simp at h, (Kept.refl [] w).alloc _⟩
  · have hxd : xs = digits (val xs) := (digits_val hx.canon).symm
    have hv0 : 0 < val xs := (canon_nonneg hx.canon).2 (fun e => hn (by rw [← hl, e]; rfl))
    have hroot := isq_root (v := val xs) (by omega)
    have hlen := hx.len
    have hvn : val xs < pw n := by have := (show AllLimbs xs from hx.limb).val.2; rwa [hl] at this
    have hn40 : n ≤ 40 := by omega
    have hn' : ((n : Int) == 0) = false := by rw [beq_eq_false_iff_ne]; omega
    obtain ⟨v, hv⟩ : ∃ v, v = val xs := ⟨_, rfl⟩
    rw [← hv] at hv0 hroot hvn ⊢
    have HRT := Lib.hid hroot
    have hrp := root_pos hroot hv0
    have HSD : Hid (Sl w a n c (digits v)) := by show Sl w a n c (digits v); rw [hv, ← hxd]; exact h
    have hdl : (digits v).length ≤ 40 := by rw [hv, ← hxd]; exact hlen
    obtain ⟨r, hr⟩ : ∃ r, r = isq v := ⟨_, rfl⟩
    have HRQ := Lib.hid hr
    rw [← hr] at hrp
    obtain ⟨q, hq⟩ : ∃ q, q = (n + 1) / 2 := ⟨_, rfl⟩
    have hst : r < pw q := by
      rw [hr]
      refine root_lt hroot (by have := pw_pos q; omega) ?_
      rw [← pw_add]
      have := pw_mono n (q + q) (by omega)
      omega
    have hqe : ((n : Int) + 1) / 2 = (q : Int) := by omega
    have hq20 : q ≤ 20 := by omega
    have hpd : digits (pw q) = List.replicate q 0 ++ [1] := by
      rw [← digits_val (canon_pow q (y := 1) (by omega)), val_pow, Int.mul_one]
    have hpl : (digits (pw q)).length = q + 1 := by rw [hpd]; simp
    obtain ⟨i0, hi, hz0, hz1, hz2⟩ := info_parts Try.info64
    have hmk := fun (w : World) => run_make_row (P := Try.prog) 22 2 i0 (.int .i64 0) Try.underlying22 hi hz0 hz1 rfl .i64 .i64 (q + 1) (by rw [hz2]; omega) (by omega) w
    have hcast : ((q + 1 : Nat) : Int) = (q : Int) + 1 := by omega
    simp only [hcast] at hmk
    have hb0 := Blk.new w (List.replicate (q + 1) 0)
    rw [← made_zeros] at hb0
    have hset := hb0.set q 1
    rw [set_pow, ← hpd] at hset
    have HSET := Lib.hid hset
    have hc0 := hb0.cell (j := q) (by simp)
    have hf0 := hb0.frozen q
    have HST := Lib.hid hst
    have HPL := Lib.hid hpl
    have hp20 : pw q ≤ pw 20 := pw_mono _ _ hq20
    have HP0 := Lib.hid hp20
    clear h hx hl hxd hroot hlen hv hr hvn hq hst hpd hpl hcast hset hb0 hi hz0 hz1 hz2 hp20
    go_enter Try.func92, Try.ntmps92
    go_wp2_with fail
    generalize hW : (w.alloc (.cells ((madeCells #[.int .i64 0] (q + 1)).setIfInBounds q (.int .i64 1)) 2)) = W
    have hb1 := HSET.out
    rw [World.setCell_alloc_at _ _ _ _ _ rfl, hW] at hb1
    have hk1 : Kept [] w W := by rw [← hW]; exact (Kept.refl [] _).alloc _
    have HB1 := Lib.hid hb1
    have HK1 := Lib.hid hk1
    have hm20 : pw 20 ≤ pw 21 := pw_mono _ _ (by omega)
    clear hb1 hk1 hW hc0 hf0 hmk hqe
    go_loopg [3] (pw q).toNat (fun gk s wr => ∃ (x : Int) (a3 : Option Addr) (c3 : Nat), s = .slice a3 (digits x).length c3 ∧ r ≤ x ∧ Hid (x ≤ pw q) ∧ x.toNat ≤ gk ∧ Hid (Sl wr a3 (digits x).length c3 (digits x)) ∧ Hid (Fr w.heap.size a3 (digits x).length) ∧ Hid (Kept [] w wr))
    case atStart =>
      refine ⟨pw q, some ⟨w.heap.size, 0, none⟩, q + 1, by rw [HPL.out], ?_, Int.le_refl _, Nat.le_refl _, ?_, fun _ x hx => ?_, HK1.out⟩
      · have := HST.out; omega
      · have := Sl.ofBlkC (c := q + 1) HB1.out (by rw [HPL.out]; omega) (by omega); exact this
      · cases hx; exact Nat.le_refl _
    case round =>
      obtain ⟨x, a3, c3, rfl, hrx, hxk, hgk, hS, hF, hK⟩ := hrel
      have hx0 : 0 < x := by omega
      have hxp : x ≤ pw 20 := Int.le_trans hxk.out HP0.out
      have e21 : pw 21 = 65536 * pw 20 := rfl
      have hp20 := pw_pos 20
      have hp40 : pw 21 ≤ pw 40 := pw_mono _ _ (by omega)
      have hxl : (digits x).length ≤ 40 := by have := digits_len 21 x (by omega); omega
      have hq0 : 0 ≤ v / x := Int.ediv_nonneg (by omega) (by omega)
      have hql := newton_le HRT.out hx0 (by rw [← HRQ.out]; exact hrx)
      have hqd : (digits (v / x)).length ≤ 40 := by have := digits_len 21 (v / x) (by omega); omega
      obtain ⟨u, hu⟩ : ∃ u, u = v / x := ⟨_, rfl⟩
      rw [← hu] at hq0 hql hqd
      obtain ⟨y, hy⟩ : ∃ y, y = (x + u) / 2 := ⟨_, rfl⟩
      have hry : r ≤ y := by rw [hy, hu, HRQ.out]; exact newton_ge HRT.out hx0
      have hsp : x + u < pw 40 := by omega
      have hsl : (digits (x + u)).length ≤ 40 := digits_len 40 _ hsp
      have hyl : (digits y).length ≤ 40 := by have := digits_len_mono (u := y) (v := x + u) (by omega); omega
      have hstop : x ≤ y → x = r := fun hle => by rw [HRQ.out]; exact newton_stop HRT.out hx0 (by rw [← HRQ.out]; exact hrx) (by rw [← hu, ← hy]; exact hle)
      have HSTOP := Lib.hid hstop
      have HQ := Lib.hid hu
      have HY := Lib.hid hy
      have hxpos : 0 ≤ x := by omega
      have hs0 : 0 ≤ x + u := by omega
      have hy0 : 0 ≤ y := by omega
      clear hstop hu hy hsp e21 hp20 hp40 hxp hm20 hql
      go_wp2_with fail
      refine (l1Div_dig _ _ _ _ _ _ _ _ _ (HSD.out.kept0 hK.out) hS.out.rd (Int.le_of_lt hv0) hx0 (by omega) (by omega)).mono ?_
      rintro e w2 ⟨a4, c4, a5, c5, rfl, hs4, _, _, _, hk⟩
      rw [← HQ.out]
      rw [← HQ.out] at hs4
      have HS4 := Lib.hid hs4
      have HK2 := Lib.hid (hK.out.trans0 hk)
      have HS2 := Lib.hid (hS.out.kept0 hk)
      clear hs4 hk
      go_wp2_with fail
      refine (l1Add_dig _ _ _ _ _ _ _ _ _ HS2.out.rd HS4.out.rd hxpos hq0 (by omega) (by omega)).mono ?_
      rintro e w3 ⟨v6, rfl, ho6, hk⟩
      obtain ⟨a6, c6, rfl, hs6, _⟩ := ho6.sl
      have HS6 := Lib.hid hs6
      have HK3 := Lib.hid (HK2.out.trans0 hk)
      have HS3 := Lib.hid (HS2.out.kept0 hk)
      clear hs6 hk ho6
      go_wp2_with fail
      refine (l1Short_dig _ _ _ (x + u) 2 _ HS6.out.rd hs0 (by omega) (by omega)).mono ?_
      rintro e w5 ⟨v7, rfl, ho7, hk⟩
      rw [← HY.out] at ho7
      obtain ⟨a7, c7, rfl, hs7, hf7⟩ := ho7.sl
      have HS7 := Lib.hid hs7
      have HF7 := Lib.hid (hf7.mono HK3.out.size)
      have HK5 := Lib.hid (HK3.out.trans0 hk)
      have HS5 := Lib.hid (HS3.out.kept0 hk)
      clear hs7 hf7 hk ho7
      go_wp2_with fail
      refine (l1Compare_dig _ _ _ _ _ _ _ _ _ HS7.out.rd HS5.out.rd hy0 hxpos hyl hxl).mono ?_
      rintro e w6 ⟨rfl, hk⟩
      have HS8 := Lib.hid (HS7.out.kept0 hk)
      have HS9 := Lib.hid (HS5.out.kept0 hk)
      have HK6 := Lib.hid (HK5.out.trans0 hk)
      clear hk
      by_cases hlt : y < x
      · rw [cmpV_lt hlt]
        go_wp2_with fail
        go_roundg (y.toNat)
        case measure => omega
        case rel => exact ⟨y, a7, c7, rfl, hry, Lib.hid (Int.le_trans (Int.le_of_lt hlt) hxk.out), Nat.le_refl _, HS8, HF7, HK6⟩
      · obtain ⟨cv, hcv⟩ : ∃ cv, cv = cmpV y x := ⟨_, rfl⟩
        have hcn : 0 ≤ cv := by rw [hcv]; unfold cmpV; rw [if_neg hlt]; split <;> omega
        rw [← hcv]
        have hxr : x = r := HSTOP.out (by omega)
        have HXR := Lib.hid hxr
        clear hcv hxr
        go_wp2_with fail
        go_ret
        refine ⟨a3, c3, ?_, ?_, ?_, HK6.out⟩
        · rw [← HRQ.out, ← HXR.out]; rfl
        · rw [← HRQ.out, ← HXR.out]; exact HS9.out
        · rw [← HRQ.out, ← HXR.out]; exact hF.out

end Go.Proofs.Ytgplghjameiciaa
