/-
  Joined texts.
-/
import Derived.Deep.RegionHeld3
import Derived.Deep.DrawnRows
import Derived.Deep.DeepCutAuto
import Derived.Test.YtfafjijoeanbhaaGreatJ5
import Derived.Test.YtfafjijoeanbhaaGreatShort
import Derived.Test.YtfafjijoeanbhaaGreatJ1
import Derived.Test.YtfafjijoeanbhaaGreatSpanG
import Derived.Test.YtfafjijoeanbhaaGreatJ4
import Derived.Test.YtfafjijoeanbhaaGreatSpanM
namespace Go.Proofs.YtfafjijoeanbhaaGreat
open Go.RowKit

/-- A slice without its first k elements. -/
theorem Sl.back {w : World} {g off n c : Nat} {xs : List Int} (h : Sl w (some ⟨g, off, none⟩) n c xs) (k : Nat) (hk : k ≤ n) : Sl w (some ⟨g, off + k, none⟩) (n - k) (c - k) (xs.drop k) := by
 have h1 := h.1
 have h2 := h.2.1
 have h3 := h.2.2.1
 refine ⟨by rw [List.length_drop]; omega, by omega, by omega, by simp, ?_⟩
 rcases h.2.2.2.2 with h4 | ⟨g', off', cs, ha, hb, hl, he⟩
 ·exact Or.inl (by omega)
 ·cases ha
  refine Or.inr ⟨g, off + k, cs, rfl, hb, by omega, fun j hj => ?_⟩
  have h9 := he (k + j) (by omega)
  rw [Nat.add_assoc, h9]
  simp [List.getD_eq_getElem?_getD, List.getElem?_drop]
/-- A call that answers a number divided by the units of 1, rounded down, and whether something is left. -/
def DropR (w : World) (X : Int) (k : Nat) (e : Ending) (w' : World) : Prop :=
 ∃ v, e = .returned (.tuple #[v, .bool (decide (X % p2 k ≠ 0))]) ∧ Ow w.heap.size w' v (digits (X / p2 k)) ∧ Kept [] w w'

set_option maxHeartbeats 4000000 in
set_option maxRecDepth 20000 in
theorem l3Drop_48 (a : Option Addr) (n c : Nat) (xs : List Int) (w : World) (h : Sl w a n c xs) (hx : Nat40 xs) :
  Calls Tryz.prog 173 #[.int .i64 48, .slice a n c] w (DropR w (val xs) 48) := by
 have hl := h.1
 have hp : p2 48 = pw 3 := by rw [pw_p2 3]
 unfold DropR
 rw [hp]
 clear hp
 by_cases hn : n ≤ 3
 ·obtain ⟨h1, h2⟩ := small_num hx (k := 3) (by omega)
  rw [h1, h2, digits_zero (Int.le_refl 0)]
  have hv := canon_nonneg hx.canon
  have HE := Lib.hid (show decide (val xs ≠ 0) = decide ((0 : Int) < (n : Int)) by
   by_cases h0 : n = 0
   ·have hxs : xs = [] := List.eq_nil_of_length_eq_zero (by omega)
    subst hxs
    rw [h0]; rfl
   ·have := hv.2 (fun e => h0 (by rw [← hl, e]; rfl))
    rw [decide_eq_true (show val xs ≠ 0 by omega), decide_eq_true (by omega)])
  rw [HE.out]
  have hnk : (n : Int) ≤ 3 := by omega
  clear h h1 h2 hv hl hx
  go_enter Tryz.func173, Tryz.ntmps173
  go_wp2
  exact bodyPost_ret (v := .tuple #[.slice (some ⟨w.heap.size, 0, none⟩) 0 0, .bool (decide ((0 : Int) < (n : Int)))]) (by simp [results, Tryz.results173, go_sem]) rfl ⟨_, rfl, Ow.empty _ w (Nat.le_refl _), (Kept.refl [] w).alloc _⟩
 ·obtain ⟨h1, h2⟩ := drop_num hx (k := 3) (by omega)
  rw [h1, h2, drop_canon hx (by omega)]
  obtain ⟨g, off, rfl⟩ : ∃ g off, a = some ⟨g, off, none⟩ := by
   rcases h.2.2.2.2 with h4 | ⟨g, off, cs, ha, _⟩
   ·omega
   ·exact ⟨g, off, ha⟩
  have hcc := h.2.1
  have HS := Lib.hid h
  have HX := Lib.hid hx
  have hnk : (3 : Int) < (n : Int) := by omega
  have hnc : (n : Int) ≤ (c : Int) := by omega
  clear h h1 h2 hx
  go_enter Tryz.func173, Tryz.ntmps173
  go_wp2
  go_loopw [7, 8] (fun l i wr => ∃ (j : Nat) (b : Bool), j ≤ 3 ∧ l = .bool b ∧ i = .int .i64 j ∧ Hid (decide (val (xs.take j) ≠ 0) = b) ∧ wr = w) (fun _ i _ => 3 - (intOf i).toNat)
  case atStart => exact ⟨0, false, by omega, rfl, rfl, by simp [Hid, val], rfl⟩
  case round =>
   obtain ⟨j, b, hj, rfl, rfl, hb, rfl⟩ := hrel
   by_cases hlt : j < 3
   ·have hv0 := ((show AllLimbs xs from HX.out.limb).take j).val.1
    have hts := val_take_succ xs j (by omega)
    have hlm := (show AllLimbs xs from HX.out.limb) j (by omega)
    have hpj := pw_pos j
    obtain ⟨g', off', he, hc⟩ := HS.out.rd.2.2 j (by omega)
    cases he
    obtain ⟨v, hv⟩ : ∃ v, v = xs.getD j 0 := ⟨_, rfl⟩
    rw [← hv] at hc hts hlm
    have i0 : (0 : Int) ≤ (j : Int) := by omega
    have i1 : (j : Int) < (n : Int) := by omega
    have HTS := Lib.hid hts
    have HV0 := Lib.hid hv0
    have HPJ := Lib.hid hpj
    clear hts hv hv0 hpj
    cases b
    ·by_cases hz : v = 0
     ·have hzz := Lib.hid (show (v != 0) = false by rw [hz]; rfl)
      have HZ := Lib.hid hz
      clear hz
      go_wp2
      go_roundw
      case rel => exact ⟨j + 1, false, by omega, by rw [hzz.out], by go_num, by
       have h9 := hb.out
       show decide (val (xs.take (j + 1)) ≠ 0) = false
       rw [HTS.out, HZ.out, Int.mul_zero, Int.add_zero]; exact h9, trivial⟩
      case measure => simp [intOf]; omega
     ·have hzz := Lib.hid (show (v != 0) = true by simpa using hz)
      have HZ := Lib.hid hz
      clear hz
      go_wp2
      go_roundw
      case rel => exact ⟨j + 1, true, by omega, by rw [hzz.out], by go_num, by
       show decide (val (xs.take (j + 1)) ≠ 0) = true
       rw [HTS.out]
       have hm : pw j * 1 ≤ pw j * v := Int.mul_le_mul_of_nonneg_left (by have := HZ.out; omega) (by have := HPJ.out; omega)
       exact decide_eq_true (by have := HV0.out; have := HPJ.out; omega), trivial⟩
      case measure => simp [intOf]; omega
    ·go_wp2
     go_roundw
     case rel => exact ⟨j + 1, true, by omega, rfl, by go_num, by
      have h9 := of_decide_eq_true hb.out
      show decide (val (xs.take (j + 1)) ≠ 0) = true
      rw [HTS.out]
      have hm : 0 ≤ pw j * v := Int.mul_nonneg (by have := HPJ.out; omega) hlm.1
      exact decide_eq_true (by have := HV0.out; omega), trivial⟩
     case measure => simp [intOf]; omega
   ·obtain rfl : j = 3 := by omega
    go_wp2_with fail
    refine (l1Ints_any _ _ _ _ _ (HS.out.back 3 (by omega)) (by have := HX.out.len; omega)).mono ?_
    rintro e w2 ⟨v9, rfl, ho, hk⟩
    have HO := Lib.hid ho
    have HK := Lib.hid hk
    clear ho hk
    go_wp2_with fail
    exact bodyPost_ret (v := .tuple #[v9, .bool b]) (by simp [results, Tryz.results173, go_sem]) rfl ⟨_, by rw [hb.out], HO.out, HK.out⟩

set_option maxHeartbeats 4000000 in
set_option maxRecDepth 20000 in
theorem l3Drop_72 (a : Option Addr) (n c : Nat) (xs : List Int) (w : World) (h : Sl w a n c xs) (hx : Nat40 xs) :
  Calls Tryz.prog 173 #[.int .i64 72, .slice a n c] w (DropR w (val xs) 72) := by
 have hl := h.1
 have hp : p2 72 = pw 4 * 256 := by rw [show 72 = 16 * 4 + 8 from rfl, p2_add, ← pw_p2 4]; rfl
 unfold DropR
 rw [hp]
 clear hp
 by_cases hn : n ≤ 4
 ·have hX := (show AllLimbs xs from hx.limb).val
  have hX2 := pw_mono xs.length 4 (by omega)
  have h1 : val xs / (pw 4 * 256) = 0 := Int.ediv_eq_zero_of_lt hX.1 (by omega)
  have h2 : val xs % (pw 4 * 256) = val xs := Int.emod_eq_of_lt hX.1 (by omega)
  rw [h1, h2, digits_zero (Int.le_refl 0)]
  clear hX hX2
  have hv := canon_nonneg hx.canon
  have HE := Lib.hid (show decide (val xs ≠ 0) = decide ((0 : Int) < (n : Int)) by
   by_cases h0 : n = 0
   ·have hxs : xs = [] := List.eq_nil_of_length_eq_zero (by omega)
    subst hxs
    rw [h0]; rfl
   ·have := hv.2 (fun e => h0 (by rw [← hl, e]; rfl))
    rw [decide_eq_true (show val xs ≠ 0 by omega), decide_eq_true (by omega)])
  rw [HE.out]
  have hnk : (n : Int) ≤ 4 := by omega
  clear h h1 h2 hv hl hx
  go_enter Tryz.func173, Tryz.ntmps173
  go_wp2
  exact bodyPost_ret (v := .tuple #[.slice (some ⟨w.heap.size, 0, none⟩) 0 0, .bool (decide ((0 : Int) < (n : Int)))]) (by simp [results, Tryz.results173, go_sem]) rfl ⟨_, rfl, Ow.empty _ w (Nat.le_refl _), (Kept.refl [] w).alloc _⟩
 ·obtain ⟨h1, h2⟩ := drop_num hx (k := 4) (by omega)
  obtain ⟨h3, h4⟩ := part_num (X := val xs) (d := 256) (k := 4) (by omega)
  rw [h1] at h3 h4
  rw [h2] at h4
  rw [h3]
  obtain ⟨Y, hY⟩ : ∃ Y, Y = val (xs.drop 4) := ⟨_, rfl⟩
  rw [← hY] at h4 ⊢
  obtain ⟨r, hr⟩ : ∃ r, r = Y % 256 := ⟨_, rfl⟩
  rw [← hr] at h4
  have H4 := Lib.hid h4
  have HY := Lib.hid hY
  have HR := Lib.hid hr
  clear h3 h4 hY hr
  obtain ⟨g, off, rfl⟩ : ∃ g off, a = some ⟨g, off, none⟩ := by
   rcases h.2.2.2.2 with h4 | ⟨g, off, cs, ha, _⟩
   ·omega
   ·exact ⟨g, off, ha⟩
  have hcc := h.2.1
  have HS := Lib.hid h
  have HX := Lib.hid hx
  have hnk : (4 : Int) < (n : Int) := by omega
  have hnc : (n : Int) ≤ (c : Int) := by omega
  clear h h1 h2 hx
  go_enter Tryz.func173, Tryz.ntmps173
  go_wp2
  go_loopw [7, 8] (fun l i wr => ∃ (j : Nat) (b : Bool), j ≤ 4 ∧ l = .bool b ∧ i = .int .i64 j ∧ Hid (decide (val (xs.take j) ≠ 0) = b) ∧ wr = w) (fun _ i _ => 4 - (intOf i).toNat)
  case atStart => exact ⟨0, false, by omega, rfl, rfl, by simp [Hid, val], rfl⟩
  case round =>
   obtain ⟨j, b, hj, rfl, rfl, hb, rfl⟩ := hrel
   by_cases hlt : j < 4
   ·have hv0 := ((show AllLimbs xs from HX.out.limb).take j).val.1
    have hts := val_take_succ xs j (by omega)
    have hlm := (show AllLimbs xs from HX.out.limb) j (by omega)
    have hpj := pw_pos j
    obtain ⟨g', off', he, hc⟩ := HS.out.rd.2.2 j (by omega)
    cases he
    obtain ⟨v, hv⟩ : ∃ v, v = xs.getD j 0 := ⟨_, rfl⟩
    rw [← hv] at hc hts hlm
    have i0 : (0 : Int) ≤ (j : Int) := by omega
    have i1 : (j : Int) < (n : Int) := by omega
    have HTS := Lib.hid hts
    have HV0 := Lib.hid hv0
    have HPJ := Lib.hid hpj
    clear hts hv hv0 hpj
    cases b
    ·by_cases hz : v = 0
     ·have hzz := Lib.hid (show (v != 0) = false by rw [hz]; rfl)
      have HZ := Lib.hid hz
      clear hz
      go_wp2
      go_roundw
      case rel => exact ⟨j + 1, false, by omega, by rw [hzz.out], by go_num, by
       have h9 := hb.out
       show decide (val (xs.take (j + 1)) ≠ 0) = false
       rw [HTS.out, HZ.out, Int.mul_zero, Int.add_zero]; exact h9, trivial⟩
      case measure => simp [intOf]; omega
     ·have hzz := Lib.hid (show (v != 0) = true by simpa using hz)
      have HZ := Lib.hid hz
      clear hz
      go_wp2
      go_roundw
      case rel => exact ⟨j + 1, true, by omega, by rw [hzz.out], by go_num, by
       show decide (val (xs.take (j + 1)) ≠ 0) = true
       rw [HTS.out]
       have hm : pw j * 1 ≤ pw j * v := Int.mul_le_mul_of_nonneg_left (by have := HZ.out; omega) (by have := HPJ.out; omega)
       exact decide_eq_true (by have := HV0.out; have := HPJ.out; omega), trivial⟩
      case measure => simp [intOf]; omega
    ·go_wp2
     go_roundw
     case rel => exact ⟨j + 1, true, by omega, rfl, by go_num, by
      have h9 := of_decide_eq_true hb.out
      show decide (val (xs.take (j + 1)) ≠ 0) = true
      rw [HTS.out]
      have hm : 0 ≤ pw j * v := Int.mul_nonneg (by have := HPJ.out; omega) hlm.1
      exact decide_eq_true (by have := HV0.out; omega), trivial⟩
     case measure => simp [intOf]; omega
   ·obtain rfl : j = 4 := by omega
    go_wp2_with fail
    have i4 : (4 : Int) ≤ (n : Int) := by omega
    go_region_held3 (fun w' => Hid (Kept [] wr w'))
     (with_reducible first | exact Lib.hid ((Kept.refl _ _).drew) | exact Lib.hid (Kept.trans0 (Hid.out (by assumption)) (by assumption)))
     (first
      | (go_at_call 192; refine (l3Bits_72 _).mono ?_; rintro e w1 ⟨rfl, hk1⟩)
      | (go_at_call 200; refine (l1Short_any _ _ _ _ _ _ ((HS.out.back 4 (by omega)).rd.kept0 ((Kept.refl [] _).drew.trans0 hk1)) ((show AllLimbs xs from HX.out.limb).drop 4) (by have := HX.out.len; omega) (by omega)).mono ?_; rintro e w2 ⟨v9, rfl, ho, hk2⟩; rw [← HY.out, ← HR.out]))
    rw [← HY.out] at ho
    have HK := Lib.hid (((Kept.refl [] wr).drew.trans0 hk1).trans0 hk2)
    have HO := Lib.hid (ho.mono (B' := wr.heap.size) (by have := hk1.size; simpa using this))
    clear hk1 hk2 ho
    cases b
    ·by_cases hz : r = 0
     ·have HZ := Lib.hid (show decide (val xs % (pw 4 * 256) ≠ 0) = false from decide_eq_false (by
       have h9 := of_decide_eq_false hb.out
       have := H4.out.2 ⟨by omega, hz⟩
       omega))
      have hzz := Lib.hid (show (r != 0) = false by rw [hz]; rfl)
      clear hz
      go_wp2_with fail
      exact bodyPost_ret (v := .tuple #[v9, .bool (r != 0)]) (by simp [results, Tryz.results173, go_sem]) rfl ⟨_, by rw [HZ.out, hzz.out], HO.out, HK.out⟩
     ·have HZ := Lib.hid (show decide (val xs % (pw 4 * 256) ≠ 0) = true from decide_eq_true (fun h => hz (H4.out.1 h).2))
      have hzz := Lib.hid (show (r != 0) = true by simpa using hz)
      clear hz
      go_wp2_with fail
      exact bodyPost_ret (v := .tuple #[v9, .bool (r != 0)]) (by simp [results, Tryz.results173, go_sem]) rfl ⟨_, by rw [HZ.out, hzz.out], HO.out, HK.out⟩
    ·have HZ := Lib.hid (show decide (val xs % (pw 4 * 256) ≠ 0) = true from decide_eq_true (fun h => (of_decide_eq_true hb.out) (H4.out.1 h).1))
     go_wp2_with fail
     exact bodyPost_ret (v := .tuple #[v9, .bool true]) (by simp [results, Tryz.results173, go_sem]) rfl ⟨_, by rw [HZ.out], HO.out, HK.out⟩

set_option maxHeartbeats 4000000 in
set_option maxRecDepth 20000 in
theorem l3Drop_96 (a : Option Addr) (n c : Nat) (xs : List Int) (w : World) (h : Sl w a n c xs) (hx : Nat40 xs) :
  Calls Tryz.prog 173 #[.int .i64 96, .slice a n c] w (DropR w (val xs) 96) := by
 have hl := h.1
 have hp : p2 96 = pw 6 := by rw [pw_p2 6]
 unfold DropR
 rw [hp]
 clear hp
 by_cases hn : n ≤ 6
 ·obtain ⟨h1, h2⟩ := small_num hx (k := 6) (by omega)
  rw [h1, h2, digits_zero (Int.le_refl 0)]
  have hv := canon_nonneg hx.canon
  have HE := Lib.hid (show decide (val xs ≠ 0) = decide ((0 : Int) < (n : Int)) by
   by_cases h0 : n = 0
   ·have hxs : xs = [] := List.eq_nil_of_length_eq_zero (by omega)
    subst hxs
    rw [h0]; rfl
   ·have := hv.2 (fun e => h0 (by rw [← hl, e]; rfl))
    rw [decide_eq_true (show val xs ≠ 0 by omega), decide_eq_true (by omega)])
  rw [HE.out]
  have hnk : (n : Int) ≤ 6 := by omega
  clear h h1 h2 hv hl hx
  go_enter Tryz.func173, Tryz.ntmps173
  go_wp2
  exact bodyPost_ret (v := .tuple #[.slice (some ⟨w.heap.size, 0, none⟩) 0 0, .bool (decide ((0 : Int) < (n : Int)))]) (by simp [results, Tryz.results173, go_sem]) rfl ⟨_, rfl, Ow.empty _ w (Nat.le_refl _), (Kept.refl [] w).alloc _⟩
 ·obtain ⟨h1, h2⟩ := drop_num hx (k := 6) (by omega)
  rw [h1, h2, drop_canon hx (by omega)]
  obtain ⟨g, off, rfl⟩ : ∃ g off, a = some ⟨g, off, none⟩ := by
   rcases h.2.2.2.2 with h4 | ⟨g, off, cs, ha, _⟩
   ·omega
   ·exact ⟨g, off, ha⟩
  have hcc := h.2.1
  have HS := Lib.hid h
  have HX := Lib.hid hx
  have hnk : (6 : Int) < (n : Int) := by omega
  have hnc : (n : Int) ≤ (c : Int) := by omega
  clear h h1 h2 hx
  go_enter Tryz.func173, Tryz.ntmps173
  go_wp2
  go_loopw [7, 8] (fun l i wr => ∃ (j : Nat) (b : Bool), j ≤ 6 ∧ l = .bool b ∧ i = .int .i64 j ∧ Hid (decide (val (xs.take j) ≠ 0) = b) ∧ wr = w) (fun _ i _ => 6 - (intOf i).toNat)
  case atStart => exact ⟨0, false, by omega, rfl, rfl, by simp [Hid, val], rfl⟩
  case round =>
   obtain ⟨j, b, hj, rfl, rfl, hb, rfl⟩ := hrel
   by_cases hlt : j < 6
   ·have hv0 := ((show AllLimbs xs from HX.out.limb).take j).val.1
    have hts := val_take_succ xs j (by omega)
    have hlm := (show AllLimbs xs from HX.out.limb) j (by omega)
    have hpj := pw_pos j
    obtain ⟨g', off', he, hc⟩ := HS.out.rd.2.2 j (by omega)
    cases he
    obtain ⟨v, hv⟩ : ∃ v, v = xs.getD j 0 := ⟨_, rfl⟩
    rw [← hv] at hc hts hlm
    have i0 : (0 : Int) ≤ (j : Int) := by omega
    have i1 : (j : Int) < (n : Int) := by omega
    have HTS := Lib.hid hts
    have HV0 := Lib.hid hv0
    have HPJ := Lib.hid hpj
    clear hts hv hv0 hpj
    cases b
    ·by_cases hz : v = 0
     ·have hzz := Lib.hid (show (v != 0) = false by rw [hz]; rfl)
      have HZ := Lib.hid hz
      clear hz
      go_wp2
      go_roundw
      case rel => exact ⟨j + 1, false, by omega, by rw [hzz.out], by go_num, by
       have h9 := hb.out
       show decide (val (xs.take (j + 1)) ≠ 0) = false
       rw [HTS.out, HZ.out, Int.mul_zero, Int.add_zero]; exact h9, trivial⟩
      case measure => simp [intOf]; omega
     ·have hzz := Lib.hid (show (v != 0) = true by simpa using hz)
      have HZ := Lib.hid hz
      clear hz
      go_wp2
      go_roundw
      case rel => exact ⟨j + 1, true, by omega, by rw [hzz.out], by go_num, by
       show decide (val (xs.take (j + 1)) ≠ 0) = true
       rw [HTS.out]
       have hm : pw j * 1 ≤ pw j * v := Int.mul_le_mul_of_nonneg_left (by have := HZ.out; omega) (by have := HPJ.out; omega)
       exact decide_eq_true (by have := HV0.out; have := HPJ.out; omega), trivial⟩
      case measure => simp [intOf]; omega
    ·go_wp2
     go_roundw
     case rel => exact ⟨j + 1, true, by omega, rfl, by go_num, by
      have h9 := of_decide_eq_true hb.out
      show decide (val (xs.take (j + 1)) ≠ 0) = true
      rw [HTS.out]
      have hm : 0 ≤ pw j * v := Int.mul_nonneg (by have := HPJ.out; omega) hlm.1
      exact decide_eq_true (by have := HV0.out; omega), trivial⟩
     case measure => simp [intOf]; omega
   ·obtain rfl : j = 6 := by omega
    go_wp2_with fail
    refine (l1Ints_any _ _ _ _ _ (HS.out.back 6 (by omega)) (by have := HX.out.len; omega)).mono ?_
    rintro e w2 ⟨v9, rfl, ho, hk⟩
    have HO := Lib.hid ho
    have HK := Lib.hid hk
    clear ho hk
    go_wp2_with fail
    exact bodyPost_ret (v := .tuple #[v9, .bool b]) (by simp [results, Tryz.results173, go_sem]) rfl ⟨_, by rw [hb.out], HO.out, HK.out⟩

/-- All three precisions. -/
theorem l3Drop_any (P : Int) (a : Option Addr) (n c : Nat) (xs : List Int) (w : World) (hP : isP P = true) (h : Sl w a n c xs) (hx : Nat40 xs) :
  Calls Tryz.prog 173 #[.int .i64 P, .slice a n c] w (DropR w (val xs) P.toNat) := by
 rcases isP_cases hP with rfl | rfl | rfl
 ·exact l3Drop_48 a n c xs w h hx
 ·exact l3Drop_72 a n c xs w h hx
 ·exact l3Drop_96 a n c xs w h hx

end Go.Proofs.YtfafjijoeanbhaaGreat
namespace Go.Proofs.YtfafjijoeanbhaaGreat
open Go.RowKit

theorem l2Floor_z (p q : Bool) (a b : Option Addr) (n c m d : Nat) (xs ys : List Int) (z : Int) (w : World) (h : Sl w a n c xs) (h' : Sl w b m d ys) (hx : Nat40 xs) (hy : Nat40 ys) (hy0 : ys.length ≠ 0) (hz : z = divZ false p q (val xs) (val ys)) :
  Calls Tryz.prog 157 #[.agg #[.bool p, .slice a n c], .agg #[.bool q, .slice b m d]] w (BigV w.heap.size w z) := by
 subst hz; exact l2Floor_any _ _ _ _ _ _ _ _ _ _ _ h h' hx hy hy0
theorem l2Ceil_z (p q : Bool) (a b : Option Addr) (n c m d : Nat) (xs ys : List Int) (z : Int) (w : World) (h : Sl w a n c xs) (h' : Sl w b m d ys) (hx : Nat40 xs) (hy : Nat40 ys) (hy0 : ys.length ≠ 0) (hz : z = divZ true p q (val xs) (val ys)) :
  Calls Tryz.prog 158 #[.agg #[.bool p, .slice a n c], .agg #[.bool q, .slice b m d]] w (BigV w.heap.size w z) := by
 subst hz; exact l2Ceil_any _ _ _ _ _ _ _ _ _ _ _ h h' hx hy hy0
theorem l2Big_u (b : Bool) (a : Option Addr) (n c : Nat) (v u : Int) (w : World) (hv : 0 ≤ v) (hu : u = sg b v) (hn : (digits v).length = n) :
  Calls Tryz.prog 155 #[.bool b, .slice a n c] w (Val w (.agg #[.bool (isNeg u), .slice a n c])) := by
 subst hu; exact l2Big_any _ _ _ _ _ _ hv hn
end Go.Proofs.YtfafjijoeanbhaaGreat
namespace Go.Proofs.YtfafjijoeanbhaaGreat
open Go.RowKit

set_option maxHeartbeats 4000000 in
set_option maxRecDepth 20000 in
theorem l3Down_any (P : Int) (a : Option Addr) (n c : Nat) (z t : Int) (w : World) (hP : isP P = true) (h : Sl w a n c (mag z)) (hl : (mag z).length ≤ 40) (ht : t = outZ false z P.toNat) :
  Calls Tryz.prog 107 #[.int .i64 P, .agg #[.bool (isNeg z), .slice a n c]] w (BigV w.heap.size w t) := by
 obtain ⟨X, hX⟩ : ∃ X, X = val (mag z) := ⟨_, rfl⟩
 have hv9 : val (digits (p2 P.toNat)) = p2 P.toNat := val_digits' (by have := p2_pos P.toNat; omega)
 have hx0 : 0 ≤ X := by rw [hX]; exact val_mag_nonneg z
 have hd0 : 0 ≤ X / p2 P.toNat := Int.ediv_nonneg hx0 (by have := p2_pos P.toNat; omega)
 have hd1 : X / p2 P.toNat ≤ X := Int.ediv_le_self _ hx0
 have hXl : (digits X).length ≤ 40 := by rw [hX, digits_val (mag_canon z)]; exact hl
 have HS := Lib.hid h
 have FS := Lib.hid h.lt
 have HP := Lib.hid hP
 have HN := Lib.hid (bigOk_of hl).n40
 have HX := Lib.hid hX.symm
 clear h hP hl hx0
 by_cases hneg : isNeg z = true
 ·by_cases hr : X % p2 P.toNat ≠ 0
  ·skip
   rw [hneg]
   obtain ⟨q9, hq9⟩ : ∃ q9, q9 = X / p2 P.toNat + 1 := ⟨_, rfl⟩
   have HT := Lib.hid (show t = sg true q9 by rw [ht, hq9]; unfold outZ divZ; rw [hneg, hv9, ← hX, if_pos ⟨hr, by simp⟩]; rfl)
   have HQ := Lib.hid (show 0 ≤ q9 by rw [hq9]; omega)
   have HL := Lib.hid (show decide (X % p2 P.toNat ≠ 0) = true from decide_eq_true hr)
   have hq8 : q9 = val (digits (X / p2 P.toNat)) + val [1] := by rw [val_digits' hd0, hq9]; rfl
   have HQ8 := Lib.hid hq8
   have HAL := Lib.hid (canon_digits' (X / p2 P.toNat))
   have hdl : (digits (X / p2 P.toNat)).length ≤ 40 := Nat.le_trans (digits_len_mono hd1) hXl
   clear hq8
   clear hneg hq9 ht hv9 hd0 hd1 hX hr hXl
   go_enter Tryz.func107, Tryz.ntmps107
   go_wp2_with fail
   generalize hW : ((w.alloc (.cells #[.bool true, .slice a n c] 24)).alloc (.cells #[.bool false, .slice none 0 0] 24)) = ww0
   have hkk : Kept [] ((w.alloc (.cells #[.bool true, .slice a n c] 24)).alloc (.cells #[.bool false, .slice none 0 0] 24)) ww0 := by rw [hW]; exact Kept.refl _ _
   have zzA : w.heap.size + 1 + 1 = ww0.heap.size := by rw [← hW]; simp
   obtain ⟨⟨nA0, nA1⟩, _⟩ := tp2 hkk.peel (g := w.heap.size) (by simp) (by simp)
   obtain ⟨⟨nR0, nR1⟩, fR0, fR1⟩ := tp2 hkk (g := w.heap.size + 1) (by simp) (by simp)
   have hk := hkk.peel.peel
   clear hkk hW
   have z0 := hk.size
   have KT := Lib.hid hk
   clear hk
   replace HS := Lib.hid (HS.out.kept0 KT.out)
   refine (l3Drop_any P _ _ _ _ _ HP.out HS.out HN.out).mono ?_
   rintro e ww1 ⟨v9, rfl, ho, hk⟩
   rw [HX.out] at ho ⊢
   rw [HL.out]
   obtain ⟨a9, c9, rfl, hs9, hf9⟩ := ho.sl
   have S9 := Lib.hid hs9
   have G9 := Lib.hid (hf9.mono (B' := w.heap.size + 1 + 1) (by omega))
   clear ho hs9 hf9
   have z1 := hk.size
   replace fR0 := kf hk nR0 fR0
   replace fR1 := kf hk nR1 fR1
   replace nA0 := kc hk nA0
   replace nA1 := kc hk nA1
   replace nR0 := kc hk nR0
   replace nR1 := kc hk nR1
   replace HS := Lib.hid (HS.out.kept0 hk)
   replace KT := Lib.hid (KT.out.trans0 hk)
   clear hk
   have tA0 := nA0.out
   have tA1 := nA1.out
   go_wp2_with fail
   clear tA0 tA1
   refine (l1Add_any _ _ _ _ _ _ _ _ _ (S9.out.rd.kept0 ((Kept.refl [] _).alloc _)) (rd_row1 _ (by simp)) HAL.out (canon_of_get [1] (fun i hi => by have e9 : i = 0 := (by simpa using hi); subst e9; simp) (by simp)) (by omega) (by simp)).mono ?_
   rintro e ww2 ⟨v8, rfl, ho8, hk8⟩
   rw [← HQ8.out] at ho8
   have hk := Kept.trans0 ((Kept.refl [] _).alloc _) hk8
   obtain ⟨a8, c8, rfl, hs8, hf8⟩ := ho8.sl
   have S8 := Lib.hid hs8
   have G8 := Lib.hid (hf8.mono (B' := w.heap.size + 1 + 1) (by simp; omega))
   clear ho8 hs8 hf8 hk8
   have z2 := hk.size
   replace fR0 := kf hk nR0 fR0
   replace fR1 := kf hk nR1 fR1
   replace nA0 := kc hk nA0
   replace nA1 := kc hk nA1
   replace nR0 := kc hk nR0
   replace nR1 := kc hk nR1
   replace HS := Lib.hid (HS.out.kept0 hk)
   replace S9 := Lib.hid (S9.out.kept0 hk)
   replace KT := Lib.hid (KT.out.trans0 hk)
   clear hk
   have tA0 := nA0.out
   have tA1 := nA1.out
   go_wp2_with fail
   clear tA0 tA1
   refine (l2Big_u true _ _ _ q9 t _ (by have := HQ.out; omega) HT.out rfl).mono ?_
   rintro e ww3 ⟨rfl, hk⟩
   have z3 := hk.size
   replace fR0 := kf hk nR0 fR0
   replace fR1 := kf hk nR1 fR1
   replace nA0 := kc hk nA0
   replace nA1 := kc hk nA1
   replace nR0 := kc hk nR0
   replace nR1 := kc hk nR1
   replace HS := Lib.hid (HS.out.kept0 hk)
   replace S9 := Lib.hid (S9.out.kept0 hk)
   replace S8 := Lib.hid (S8.out.kept0 hk)
   replace KT := Lib.hid (KT.out.trans0 hk)
   clear hk
   have tR0 := nR0.out
   have tR1 := nR1.out
   have uR0 := fR0.out
   have uR1 := fR1.out
   go_wp2_with fail
   clear tR0 tR1 uR0 uR1
   generalize hW : ((ww3.setCell ⟨w.heap.size + 1, 0, none⟩ (.bool (isNeg t))).setCell ⟨w.heap.size + 1, 1, none⟩ (.slice a8 (digits q9).length c8)) = ww4
   have hk : Kept [w.heap.size + 1] ww3 ww4 := by rw [← hW]; exact ((Kept.refl _ _).setCell _ _ (by simp)).setCell _ _ (by simp)
   have hfz : ∀ x, ww4.frozen? x = ww3.frozen? x := by rw [← hW]; intro x; simp only [World.frozen?_setCell]
   obtain ⟨e0, e1⟩ := st2 hW.symm nR0.out nR1.out
   have z4 := hk.size
   replace fR0 := kz hfz fR0
   replace fR1 := kz hfz fR1
   replace nA0 := kd hk nA0 (by simp <;> omega)
   replace nA1 := kd hk nA1 (by simp <;> omega)
   replace HS := Lib.hid (HS.out.kept hk (fun hn y hy hm => by have h9 := FS.out hn y hy; simp at hm; omega))
   replace S9 := Lib.hid (S9.out.kept hk (fun hn y hy hm => by have h9 := G9.out hn y hy; simp at hm; omega))
   replace S8 := Lib.hid (S8.out.kept hk (fun hn y hy hm => by have h9 := G8.out hn y hy; simp at hm; omega))
   replace nR0 := Lib.hid e0
   replace nR1 := Lib.hid e1
   replace KT := Lib.hid (KT.out.trans hk (fun x hx hlt => by simp at hx; omega))
   clear hk hfz hW e0 e1
   have hm9 : mag t = digits q9 := by rw [HT.out]; exact mag_sg HQ.out
   have e0 := nR0.out
   have e1 := nR1.out
   refine bodyPost_ret (v := .agg #[.bool (isNeg t), .slice a8 (digits q9).length c8]) (by simp [results, Tryz.results107, go_sem, e0, e1]) rfl ?_
   exact ⟨a8, c8, by rw [hm9], by rw [hm9]; exact S8.out, by rw [hm9]; exact G8.out.mono (by omega), KT.out⟩
  ·skip
   rw [hneg]
   obtain ⟨q9, hq9⟩ : ∃ q9, q9 = X / p2 P.toNat := ⟨_, rfl⟩
   have HT := Lib.hid (show t = sg true q9 by rw [ht, hq9]; unfold outZ divZ; rw [hneg, hv9, ← hX, if_neg (fun h => h.1 (by simpa using hr))]; rfl)
   have HQ := Lib.hid (show 0 ≤ q9 by rw [hq9]; omega)
   have HL := Lib.hid (show decide (X % p2 P.toNat ≠ 0) = false from decide_eq_false hr)
   have HQ9 := Lib.hid hq9.symm
   clear hneg hq9 ht hv9 hd0 hd1 hX hr hXl
   go_enter Tryz.func107, Tryz.ntmps107
   go_wp2_with fail
   generalize hW : ((w.alloc (.cells #[.bool true, .slice a n c] 24)).alloc (.cells #[.bool false, .slice none 0 0] 24)) = ww0
   have hkk : Kept [] ((w.alloc (.cells #[.bool true, .slice a n c] 24)).alloc (.cells #[.bool false, .slice none 0 0] 24)) ww0 := by rw [hW]; exact Kept.refl _ _
   have zzA : w.heap.size + 1 + 1 = ww0.heap.size := by rw [← hW]; simp
   obtain ⟨⟨nA0, nA1⟩, _⟩ := tp2 hkk.peel (g := w.heap.size) (by simp) (by simp)
   obtain ⟨⟨nR0, nR1⟩, fR0, fR1⟩ := tp2 hkk (g := w.heap.size + 1) (by simp) (by simp)
   have hk := hkk.peel.peel
   clear hkk hW
   have z0 := hk.size
   have KT := Lib.hid hk
   clear hk
   replace HS := Lib.hid (HS.out.kept0 KT.out)
   refine (l3Drop_any P _ _ _ _ _ HP.out HS.out HN.out).mono ?_
   rintro e ww1 ⟨v9, rfl, ho, hk⟩
   rw [HX.out] at ho ⊢
   rw [HL.out]
   obtain ⟨a9, c9, rfl, hs9, hf9⟩ := ho.sl
   have S9 := Lib.hid hs9
   have G9 := Lib.hid (hf9.mono (B' := w.heap.size + 1 + 1) (by omega))
   clear ho hs9 hf9
   have z1 := hk.size
   replace fR0 := kf hk nR0 fR0
   replace fR1 := kf hk nR1 fR1
   replace nA0 := kc hk nA0
   replace nA1 := kc hk nA1
   replace nR0 := kc hk nR0
   replace nR1 := kc hk nR1
   replace HS := Lib.hid (HS.out.kept0 hk)
   replace KT := Lib.hid (KT.out.trans0 hk)
   clear hk
   rw [HQ9.out] at S9 G9 ⊢
   have tA0 := nA0.out
   have tA1 := nA1.out
   go_wp2_with fail
   clear tA0 tA1
   refine (l2Big_u true _ _ _ q9 t _ (by have := HQ.out; omega) HT.out rfl).mono ?_
   rintro e ww2 ⟨rfl, hk⟩
   have z2 := hk.size
   replace fR0 := kf hk nR0 fR0
   replace fR1 := kf hk nR1 fR1
   replace nA0 := kc hk nA0
   replace nA1 := kc hk nA1
   replace nR0 := kc hk nR0
   replace nR1 := kc hk nR1
   replace HS := Lib.hid (HS.out.kept0 hk)
   replace S9 := Lib.hid (S9.out.kept0 hk)
   replace KT := Lib.hid (KT.out.trans0 hk)
   clear hk
   have tR0 := nR0.out
   have tR1 := nR1.out
   have uR0 := fR0.out
   have uR1 := fR1.out
   go_wp2_with fail
   clear tR0 tR1 uR0 uR1
   generalize hW : ((ww2.setCell ⟨w.heap.size + 1, 0, none⟩ (.bool (isNeg t))).setCell ⟨w.heap.size + 1, 1, none⟩ (.slice a9 (digits q9).length c9)) = ww3
   have hk : Kept [w.heap.size + 1] ww2 ww3 := by rw [← hW]; exact ((Kept.refl _ _).setCell _ _ (by simp)).setCell _ _ (by simp)
   have hfz : ∀ x, ww3.frozen? x = ww2.frozen? x := by rw [← hW]; intro x; simp only [World.frozen?_setCell]
   obtain ⟨e0, e1⟩ := st2 hW.symm nR0.out nR1.out
   have z3 := hk.size
   replace fR0 := kz hfz fR0
   replace fR1 := kz hfz fR1
   replace nA0 := kd hk nA0 (by simp <;> omega)
   replace nA1 := kd hk nA1 (by simp <;> omega)
   replace HS := Lib.hid (HS.out.kept hk (fun hn y hy hm => by have h9 := FS.out hn y hy; simp at hm; omega))
   replace S9 := Lib.hid (S9.out.kept hk (fun hn y hy hm => by have h9 := G9.out hn y hy; simp at hm; omega))
   replace nR0 := Lib.hid e0
   replace nR1 := Lib.hid e1
   replace KT := Lib.hid (KT.out.trans hk (fun x hx hlt => by simp at hx; omega))
   clear hk hfz hW e0 e1
   have hm9 : mag t = digits q9 := by rw [HT.out]; exact mag_sg HQ.out
   have e0 := nR0.out
   have e1 := nR1.out
   refine bodyPost_ret (v := .agg #[.bool (isNeg t), .slice a9 (digits q9).length c9]) (by simp [results, Tryz.results107, go_sem, e0, e1]) rfl ?_
   exact ⟨a9, c9, by rw [hm9], by rw [hm9]; exact S9.out, by rw [hm9]; exact G9.out.mono (by omega), KT.out⟩
 ·have hneg' : isNeg z = false := by simpa using hneg
  rw [hneg']
  obtain ⟨q9, hq9⟩ : ∃ q9, q9 = X / p2 P.toNat := ⟨_, rfl⟩
  have HT := Lib.hid (show t = sg false q9 by rw [ht, hq9]; unfold outZ divZ; rw [hneg', hv9, ← hX, if_neg (fun h => h.2 rfl)]; rfl)
  have HQ := Lib.hid (show 0 ≤ q9 by rw [hq9]; omega)
  obtain ⟨l9, hl9⟩ : ∃ l, l = decide (X % p2 P.toNat ≠ 0) := ⟨_, rfl⟩
  have HL := Lib.hid hl9.symm
  clear hl9
  have HQ9 := Lib.hid hq9.symm
  clear hneg hq9 hneg' ht hv9 hd0 hd1 hX hXl
  go_enter Tryz.func107, Tryz.ntmps107
  go_wp2_with fail
  generalize hW : ((w.alloc (.cells #[.bool false, .slice a n c] 24)).alloc (.cells #[.bool false, .slice none 0 0] 24)) = ww0
  have hkk : Kept [] ((w.alloc (.cells #[.bool false, .slice a n c] 24)).alloc (.cells #[.bool false, .slice none 0 0] 24)) ww0 := by rw [hW]; exact Kept.refl _ _
  have zzA : w.heap.size + 1 + 1 = ww0.heap.size := by rw [← hW]; simp
  obtain ⟨⟨nA0, nA1⟩, _⟩ := tp2 hkk.peel (g := w.heap.size) (by simp) (by simp)
  obtain ⟨⟨nR0, nR1⟩, fR0, fR1⟩ := tp2 hkk (g := w.heap.size + 1) (by simp) (by simp)
  have hk := hkk.peel.peel
  clear hkk hW
  have z0 := hk.size
  have KT := Lib.hid hk
  clear hk
  replace HS := Lib.hid (HS.out.kept0 KT.out)
  refine (l3Drop_any P _ _ _ _ _ HP.out HS.out HN.out).mono ?_
  rintro e ww1 ⟨v9, rfl, ho, hk⟩
  rw [HX.out] at ho ⊢
  rw [HL.out]
  obtain ⟨a9, c9, rfl, hs9, hf9⟩ := ho.sl
  have S9 := Lib.hid hs9
  have G9 := Lib.hid (hf9.mono (B' := w.heap.size + 1 + 1) (by omega))
  clear ho hs9 hf9
  have z1 := hk.size
  replace fR0 := kf hk nR0 fR0
  replace fR1 := kf hk nR1 fR1
  replace nA0 := kc hk nA0
  replace nA1 := kc hk nA1
  replace nR0 := kc hk nR0
  replace nR1 := kc hk nR1
  replace HS := Lib.hid (HS.out.kept0 hk)
  replace KT := Lib.hid (KT.out.trans0 hk)
  clear hk
  rw [HQ9.out] at S9 G9 ⊢
  have tA0 := nA0.out
  have tA1 := nA1.out
  go_wp2_with fail
  clear tA0 tA1
  refine (l2Big_u false _ _ _ q9 t _ (by have := HQ.out; omega) HT.out rfl).mono ?_
  rintro e ww2 ⟨rfl, hk⟩
  have z2 := hk.size
  replace fR0 := kf hk nR0 fR0
  replace fR1 := kf hk nR1 fR1
  replace nA0 := kc hk nA0
  replace nA1 := kc hk nA1
  replace nR0 := kc hk nR0
  replace nR1 := kc hk nR1
  replace HS := Lib.hid (HS.out.kept0 hk)
  replace S9 := Lib.hid (S9.out.kept0 hk)
  replace KT := Lib.hid (KT.out.trans0 hk)
  clear hk
  have tR0 := nR0.out
  have tR1 := nR1.out
  have uR0 := fR0.out
  have uR1 := fR1.out
  go_wp2_with fail
  clear tR0 tR1 uR0 uR1
  generalize hW : ((ww2.setCell ⟨w.heap.size + 1, 0, none⟩ (.bool (isNeg t))).setCell ⟨w.heap.size + 1, 1, none⟩ (.slice a9 (digits q9).length c9)) = ww3
  have hk : Kept [w.heap.size + 1] ww2 ww3 := by rw [← hW]; exact ((Kept.refl _ _).setCell _ _ (by simp)).setCell _ _ (by simp)
  have hfz : ∀ x, ww3.frozen? x = ww2.frozen? x := by rw [← hW]; intro x; simp only [World.frozen?_setCell]
  obtain ⟨e0, e1⟩ := st2 hW.symm nR0.out nR1.out
  have z3 := hk.size
  replace fR0 := kz hfz fR0
  replace fR1 := kz hfz fR1
  replace nA0 := kd hk nA0 (by simp <;> omega)
  replace nA1 := kd hk nA1 (by simp <;> omega)
  replace HS := Lib.hid (HS.out.kept hk (fun hn y hy hm => by have h9 := FS.out hn y hy; simp at hm; omega))
  replace S9 := Lib.hid (S9.out.kept hk (fun hn y hy hm => by have h9 := G9.out hn y hy; simp at hm; omega))
  replace nR0 := Lib.hid e0
  replace nR1 := Lib.hid e1
  replace KT := Lib.hid (KT.out.trans hk (fun x hx hlt => by simp at hx; omega))
  clear hk hfz hW e0 e1
  have hm9 : mag t = digits q9 := by rw [HT.out]; exact mag_sg HQ.out
  have e0 := nR0.out
  have e1 := nR1.out
  refine bodyPost_ret (v := .agg #[.bool (isNeg t), .slice a9 (digits q9).length c9]) (by simp [results, Tryz.results107, go_sem, e0, e1]) rfl ?_
  exact ⟨a9, c9, by rw [hm9], by rw [hm9]; exact S9.out, by rw [hm9]; exact G9.out.mono (by omega), KT.out⟩

set_option maxHeartbeats 4000000 in
set_option maxRecDepth 20000 in
theorem l3Up_any (P : Int) (a : Option Addr) (n c : Nat) (z t : Int) (w : World) (hP : isP P = true) (h : Sl w a n c (mag z)) (hl : (mag z).length ≤ 40) (ht : t = outZ true z P.toNat) :
  Calls Tryz.prog 109 #[.int .i64 P, .agg #[.bool (isNeg z), .slice a n c]] w (BigV w.heap.size w t) := by
 have hz1 : sg (isNeg z) (val (mag z)) = z := sv_mag z
 have hmn : mag (-z) = mag z := mag_neg z
 obtain ⟨y, hy⟩ : ∃ y, y = -z := ⟨_, rfl⟩
 obtain ⟨t9, ht9⟩ : ∃ t9, t9 = outZ false y P.toNat := ⟨_, rfl⟩
 have htt : t = -t9 := by rw [ht, ht9, hy]; unfold outZ; rw [hmn]; have h9 := divZ_ceil (p := isNeg z) (q := false) (Y := val (digits (p2 P.toNat))) (mag_canon z); rw [sv_mag] at h9; exact h9.symm
 have HZ1 := Lib.hid hz1
 have HY := Lib.hid hy
 have HMY := Lib.hid (show mag y = mag z by rw [hy]; exact hmn)
 have HS := Lib.hid h
 have FS := Lib.hid h.lt
 have HP := Lib.hid hP
 have HT9 := Lib.hid ht9
 have HTT := Lib.hid htt
 have HLN := Lib.hid (show (mag z).length = n from h.1)
 clear h hP hz1 hmn hy ht9 htt ht
 go_enter Tryz.func109, Tryz.ntmps109
 go_wp2_with fail
 generalize hW : ((w.alloc (.cells #[.bool (isNeg z), .slice a n c] 24)).alloc (.cells #[.bool false, .slice none 0 0] 24)) = ww0
 have hkk : Kept [] ((w.alloc (.cells #[.bool (isNeg z), .slice a n c] 24)).alloc (.cells #[.bool false, .slice none 0 0] 24)) ww0 := by rw [hW]; exact Kept.refl _ _
 have zzA : w.heap.size + 1 + 1 = ww0.heap.size := by rw [← hW]; simp
 obtain ⟨⟨nA0, nA1⟩, _⟩ := tp2 hkk.peel (g := w.heap.size) (by simp) (by simp)
 obtain ⟨⟨nR0, nR1⟩, fR0, fR1⟩ := tp2 hkk (g := w.heap.size + 1) (by simp) (by simp)
 have hk := hkk.peel.peel
 clear hkk hW
 have z0 := hk.size
 have KT := Lib.hid hk
 clear hk
 replace HS := Lib.hid (HS.out.kept0 KT.out)
 refine (l2Neg_any _ _ _ z _ _ HZ1.out HLN.out).mono ?_
 rintro e ww1 ⟨rfl, hk⟩
 rw [← HY.out]
 have z1 := hk.size
 replace fR0 := kf hk nR0 fR0
 replace fR1 := kf hk nR1 fR1
 replace nA0 := kc hk nA0
 replace nA1 := kc hk nA1
 replace nR0 := kc hk nR0
 replace nR1 := kc hk nR1
 replace HS := Lib.hid (HS.out.kept0 hk)
 replace KT := Lib.hid (KT.out.trans0 hk)
 clear hk
 go_wp2_with fail
 refine (l3Down_any P _ _ _ y t9 _ HP.out (by rw [HMY.out]; exact HS.out) (by rw [HMY.out]; exact hl) HT9.out).mono ?_
 rintro e ww2 ⟨a9, c9, rfl, hs9, hf9, hk⟩
 have S9 := Lib.hid hs9
 have G9 := Lib.hid (hf9.mono (B' := w.heap.size + 1 + 1) (by omega))
 clear hs9 hf9
 have z2 := hk.size
 replace fR0 := kf hk nR0 fR0
 replace fR1 := kf hk nR1 fR1
 replace nA0 := kc hk nA0
 replace nA1 := kc hk nA1
 replace nR0 := kc hk nR0
 replace nR1 := kc hk nR1
 replace HS := Lib.hid (HS.out.kept0 hk)
 replace KT := Lib.hid (KT.out.trans0 hk)
 clear hk
 go_wp2_with fail
 refine (l2Neg_any _ _ _ t9 _ _ (sv_mag t9) rfl).mono ?_
 rintro e ww3 ⟨rfl, hk⟩
 rw [← HTT.out]
 have z3 := hk.size
 replace fR0 := kf hk nR0 fR0
 replace fR1 := kf hk nR1 fR1
 replace nA0 := kc hk nA0
 replace nA1 := kc hk nA1
 replace nR0 := kc hk nR0
 replace nR1 := kc hk nR1
 replace HS := Lib.hid (HS.out.kept0 hk)
 replace S9 := Lib.hid (S9.out.kept0 hk)
 replace KT := Lib.hid (KT.out.trans0 hk)
 clear hk
 have tR0 := nR0.out
 have tR1 := nR1.out
 have uR0 := fR0.out
 have uR1 := fR1.out
 go_wp2_with fail
 clear tR0 tR1 uR0 uR1
 generalize hW : ((ww3.setCell ⟨w.heap.size + 1, 0, none⟩ (.bool (isNeg t))).setCell ⟨w.heap.size + 1, 1, none⟩ (.slice a9 (mag t9).length c9)) = ww4
 have hk : Kept [w.heap.size + 1] ww3 ww4 := by rw [← hW]; exact ((Kept.refl _ _).setCell _ _ (by simp)).setCell _ _ (by simp)
 have hfz : ∀ x, ww4.frozen? x = ww3.frozen? x := by rw [← hW]; intro x; simp only [World.frozen?_setCell]
 obtain ⟨e0, e1⟩ := st2 hW.symm nR0.out nR1.out
 have z4 := hk.size
 replace fR0 := kz hfz fR0
 replace fR1 := kz hfz fR1
 replace nA0 := kd hk nA0 (by simp <;> omega)
 replace nA1 := kd hk nA1 (by simp <;> omega)
 replace HS := Lib.hid (HS.out.kept hk (fun hn y hy hm => by have h9 := FS.out hn y hy; simp at hm; omega))
 replace S9 := Lib.hid (S9.out.kept hk (fun hn y hy hm => by have h9 := G9.out hn y hy; simp at hm; omega))
 replace nR0 := Lib.hid e0
 replace nR1 := Lib.hid e1
 replace KT := Lib.hid (KT.out.trans hk (fun x hx hlt => by simp at hx; omega))
 clear hk hfz hW e0 e1
 have hm9 : mag t = mag t9 := by rw [HTT.out]; exact mag_neg t9
 have e0 := nR0.out
 have e1 := nR1.out
 refine bodyPost_ret (v := .agg #[.bool (isNeg t), .slice a9 (mag t9).length c9]) (by simp [results, Tryz.results109, go_sem, e0, e1]) rfl ?_
 exact ⟨a9, c9, by rw [hm9], by rw [hm9]; exact S9.out, by rw [hm9]; exact G9.out.mono (by omega), KT.out⟩

end Go.Proofs.YtfafjijoeanbhaaGreat
namespace Go.Proofs.YtfafjijoeanbhaaGreat
open Go.RowKit

theorem pick4_lt {e f g h : BE} : (pickF ltZ e [f, g, h]).z = minZ (minZ (minZ e.z f.z) g.z) h.z := by
 have s : ∀ a b : BE, (if ltZ b.z a.z = true then b else a).z = minZ a.z b.z := fun a b => by
  unfold ltZ minZ
  by_cases h : b.z < a.z
  ·rw [if_pos (decide_eq_true h), if_pos h]
  ·rw [if_neg (by simpa using h), if_neg h]
 simp only [pickF]
 rw [s, s, s]
theorem pick4_gt {e f g h : BE} : (pickF gtZ e [f, g, h]).z = maxZ (maxZ (maxZ e.z f.z) g.z) h.z := by
 have s : ∀ a b : BE, (if gtZ b.z a.z = true then b else a).z = maxZ a.z b.z := fun a b => by
  unfold gtZ maxZ
  by_cases h : a.z < b.z
  ·rw [if_pos (decide_eq_true h), if_pos h]
  ·rw [if_neg (by simpa using h), if_neg h]
 simp only [pickF]
 rw [s, s, s]
/-- A big as a value, told by its number. -/
def bz (z : Int) (a : Option Addr) (c : Nat) : BE := ⟨isNeg z, a, (mag z).length, c, mag z⟩
theorem bz_z (z : Int) (a : Option Addr) (c : Nat) : (bz z a c).z = z := sv_mag z
/-- Block g holds four bigs, told by their numbers. -/
theorem rowB4_at {U W : World} {g : Nat} {z1 z2 z3 z4 : Int} {a1 a2 a3 a4 : Option Addr} {c1 c2 c3 c4 : Nat} {T : TypeId}
  (hW : W = U.alloc (.cells #[.bool (isNeg z1), .slice a1 (mag z1).length c1, .bool (isNeg z2), .slice a2 (mag z2).length c2, .bool (isNeg z3), .slice a3 (mag z3).length c3, .bool (isNeg z4), .slice a4 (mag z4).length c4] T)) (hg : g = U.heap.size) :
  RowB W g [bz z1 a1 c1, bz z2 a2 c2, bz z3 a3 c3, bz z4 a4 c4] := by
 subst hW hg
 intro j hj
 match j, hj with
 | 0, _ => exact ⟨by rw [World.cell?_alloc_new]; rfl, by rw [World.cell?_alloc_new]; rfl⟩
 | 1, _ => exact ⟨by rw [World.cell?_alloc_new]; rfl, by rw [World.cell?_alloc_new]; rfl⟩
 | 2, _ => exact ⟨by rw [World.cell?_alloc_new]; rfl, by rw [World.cell?_alloc_new]; rfl⟩
 | 3, _ => exact ⟨by rw [World.cell?_alloc_new]; rfl, by rw [World.cell?_alloc_new]; rfl⟩
theorem okB4 {w : World} {z1 z2 z3 z4 : Int} {a1 a2 a3 a4 : Option Addr} {c1 c2 c3 c4 : Nat} (h1 : Sl w a1 (mag z1).length c1 (mag z1)) (h2 : Sl w a2 (mag z2).length c2 (mag z2)) (h3 : Sl w a3 (mag z3).length c3 (mag z3)) (h4 : Sl w a4 (mag z4).length c4 (mag z4))
  (o1 : (mag z1).length ≤ 40) (o2 : (mag z2).length ≤ 40) (o3 : (mag z3).length ≤ 40) (o4 : (mag z4).length ≤ 40) : OkB w [bz z1 a1 c1, bz z2 a2 c2, bz z3 a3 c3, bz z4 a4 c4] := fun u hu => by
 rcases List.mem_cons.1 hu with rfl | hu
 ·exact ⟨h1, bigOk_of o1⟩
 ·rcases List.mem_cons.1 hu with rfl | hu
  ·exact ⟨h2, bigOk_of o2⟩
  ·rcases List.mem_cons.1 hu with rfl | hu
   ·exact ⟨h3, bigOk_of o3⟩
   ·rcases List.mem_cons.1 hu with rfl | hu
    ·exact ⟨h4, bigOk_of o4⟩
    ·cases hu
def min4 (a b c d : Int) : Int := minZ (minZ (minZ a b) c) d
def max4 (a b c d : Int) : Int := maxZ (maxZ (maxZ a b) c) d
theorem l3Least_four (g : Nat) (z1 z2 z3 z4 t : Int) (a1 a2 a3 a4 : Option Addr) (c1 c2 c3 c4 : Nat) (w : World) (h : RowB w g [bz z1 a1 c1, bz z2 a2 c2, bz z3 a3 c3, bz z4 a4 c4]) (ho : OkB w [bz z1 a1 c1, bz z2 a2 c2, bz z3 a3 c3, bz z4 a4 c4]) (ht : t = min4 z1 z2 z3 z4) :
  Calls Tryz.prog 153 #[.slice (some ⟨g, 0, none⟩) 4 4] w (BigV w.heap.size w t) := by
 have e := l3Least_any g (bz z1 a1 c1) [bz z2 a2 c2, bz z3 a3 c3, bz z4 a4 c4] w h ho (by simp)
 rw [pick4_lt, bz_z, bz_z, bz_z, bz_z] at e
 subst ht
 exact e
theorem l3Most_four (g : Nat) (z1 z2 z3 z4 t : Int) (a1 a2 a3 a4 : Option Addr) (c1 c2 c3 c4 : Nat) (w : World) (h : RowB w g [bz z1 a1 c1, bz z2 a2 c2, bz z3 a3 c3, bz z4 a4 c4]) (ho : OkB w [bz z1 a1 c1, bz z2 a2 c2, bz z3 a3 c3, bz z4 a4 c4]) (ht : t = max4 z1 z2 z3 z4) :
  Calls Tryz.prog 154 #[.slice (some ⟨g, 0, none⟩) 4 4] w (BigV w.heap.size w t) := by
 have e := l3Most_any g (bz z1 a1 c1) [bz z2 a2 c2, bz z3 a3 c3, bz z4 a4 c4] w h ho (by simp)
 rw [pick4_gt, bz_z, bz_z, bz_z, bz_z] at e
 subst ht
 exact e
theorem leastOf_isBelow_four (g : Nat) (z1 z2 z3 z4 t : Int) (a1 a2 a3 a4 : Option Addr) (c1 c2 c3 c4 : Nat) (w : World) (h : RowB w g [bz z1 a1 c1, bz z2 a2 c2, bz z3 a3 c3, bz z4 a4 c4]) (ho : OkB w [bz z1 a1 c1, bz z2 a2 c2, bz z3 a3 c3, bz z4 a4 c4]) (ht : t = min4 z1 z2 z3 z4) :
  Calls Tryz.prog 152 #[.func (.func 151) #[] #[], .slice (some ⟨g, 0, none⟩) 4 4] w (BigN w t) := by
 have e := leastOf_isBelow g (bz z1 a1 c1) [bz z2 a2 c2, bz z3 a3 c3, bz z4 a4 c4] w h ho (by simp)
 have hm : pickF ltZ (bz z1 a1 c1) [bz z2 a2 c2, bz z3 a3 c3, bz z4 a4 c4] ∈ [bz z1 a1 c1, bz z2 a2 c2, bz z3 a3 c3, bz z4 a4 c4] := by
  rcases pick_mem ltZ [bz z2 a2 c2, bz z3 a3 c3, bz z4 a4 c4] (bz z1 a1 c1) with h | h
  ·rw [h]; exact List.mem_cons_self
  ·exact List.mem_cons_of_mem _ h
 have hz' : t = (pickF ltZ (bz z1 a1 c1) [bz z2 a2 c2, bz z3 a3 c3, bz z4 a4 c4]).z := by rw [pick4_lt, bz_z, bz_z, bz_z, bz_z]; exact ht
 subst hz'
 exact e.mono fun e9 w9 h9 => bigN_of hm ho h9
theorem leastOf_isAbove_four (g : Nat) (z1 z2 z3 z4 t : Int) (a1 a2 a3 a4 : Option Addr) (c1 c2 c3 c4 : Nat) (w : World) (h : RowB w g [bz z1 a1 c1, bz z2 a2 c2, bz z3 a3 c3, bz z4 a4 c4]) (ho : OkB w [bz z1 a1 c1, bz z2 a2 c2, bz z3 a3 c3, bz z4 a4 c4]) (ht : t = max4 z1 z2 z3 z4) :
  Calls Tryz.prog 152 #[.func (.func 130) #[] #[], .slice (some ⟨g, 0, none⟩) 4 4] w (BigN w t) := by
 have e := leastOf_isAbove g (bz z1 a1 c1) [bz z2 a2 c2, bz z3 a3 c3, bz z4 a4 c4] w h ho (by simp)
 have hm : pickF gtZ (bz z1 a1 c1) [bz z2 a2 c2, bz z3 a3 c3, bz z4 a4 c4] ∈ [bz z1 a1 c1, bz z2 a2 c2, bz z3 a3 c3, bz z4 a4 c4] := by
  rcases pick_mem gtZ [bz z2 a2 c2, bz z3 a3 c3, bz z4 a4 c4] (bz z1 a1 c1) with h | h
  ·rw [h]; exact List.mem_cons_self
  ·exact List.mem_cons_of_mem _ h
 have hz' : t = (pickF gtZ (bz z1 a1 c1) [bz z2 a2 c2, bz z3 a3 c3, bz z4 a4 c4]).z := by rw [pick4_gt, bz_z, bz_z, bz_z, bz_z]; exact ht
 subst hz'
 exact e.mono fun e9 w9 h9 => bigN_of hm ho h9

end Go.Proofs.YtfafjijoeanbhaaGreat
