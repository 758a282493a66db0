/-
 Contract of the model's l3Drop. Conditions: the precision is one; the slice reads as a natural of 40 limbs at most.
-/
import Derived.Deep.RegionHeld3
import Derived.Deep.DrawnRows
import Derived.Deep.DeepCutAuto
import Derived.Test.YtfafjijoeanbhaaGreatJ5
import Derived.Test.YtfafjijoeanbhaaGreatShort
import Derived.Test.YtfafjijoeanbhaaGreatJ1
namespace Go.Proofs.YtfafjijoeanbhaaGreat
open Go.RowKit

/-- A slice without its first k elements. -/
theorem Sl.back {w : World} {g off n c : Nat} {xs : List Int} (h : Sl w (some ⟨g, off, none⟩) n c xs) (k : Nat) (hk : k ≤ n) : Sl w (some ⟨g, off + k, none⟩) (n - k) (c - k) (xs.drop k) := by
 have h1 := h.1
 have h2 := h.2.1
 have h3 := h.2.2.1
 refine ⟨by rw [List.length_drop]; omega, by omega, by omega, by simp, ?_⟩
 rcases h.2.2.2.2 with h4 | ⟨g', off', cs, ha, hb, hl, he⟩
 ·exact Or.inl (by omega)
 ·cases ha
  refine Or.inr ⟨g, off + k, cs, rfl, hb, by omega, fun j hj => ?_⟩
  have h9 := he (k + j) (by omega)
  rw [Nat.add_assoc, h9]
  simp [List.getD_eq_getElem?_getD, List.getElem?_drop]
/-- A call that answers a number divided by the units of 1, rounded down, and whether something is left. -/
def DropR (w : World) (X : Int) (k : Nat) (e : Ending) (w' : World) : Prop :=
 ∃ v, e = .returned (.tuple #[v, .bool (decide (X % p2 k ≠ 0))]) ∧ Ow w.heap.size w' v (digits (X / p2 k)) ∧ Kept [] w w'

set_option maxHeartbeats 4000000 in
set_option maxRecDepth 20000 in
theorem l3Drop_48 (a : Option Addr) (n c : Nat) (xs : List Int) (w : World) (h : Sl w a n c xs) (hx : Nat40 xs) :
  Calls Tryz.prog 173 #[.int .i64 48, .slice a n c] w (DropR w (val xs) 48) := by
 have hl := h.1
 have hp : p2 48 = pw 3 := by rw [pw_p2 3]
 unfold DropR
 rw [hp]
 clear hp
 by_cases hn : n ≤ 3
 ·obtain ⟨h1, h2⟩ := small_num hx (k := 3) (by omega)
  rw [h1, h2, digits_zero (Int.le_refl 0)]
  have hv := canon_nonneg hx.canon
  have HE := Lib.hid (show decide (val xs ≠ 0) = decide ((0 : Int) < (n : Int)) by
   by_cases h0 : n = 0
   ·have hxs : xs = [] := List.eq_nil_of_length_eq_zero (by omega)
    subst hxs
    rw [h0]; rfl
   ·have := hv.2 (fun e => h0 (by rw [← hl, e]; rfl))
    rw [decide_eq_true (show val xs ≠ 0 by omega), decide_eq_true (by omega)])
  rw [HE.out]
  have hnk : (n : Int) ≤ 3 := by omega
  clear h h1 h2 hv hl hx
  go_enter Tryz.func173, Tryz.ntmps173
  go_wp2
  exact bodyPost_ret (v := .tuple #[.slice (some ⟨w.heap.size, 0, none⟩) 0 0, .bool (decide ((0 : Int) < (n : Int)))]) (by simp [results, Tryz.results173, go_sem]) rfl ⟨_, rfl, Ow.empty _ w (Nat.le_refl _), (Kept.refl [] w).alloc _⟩
 ·obtain ⟨h1, h2⟩ := drop_num hx (k := 3) (by omega)
  rw [h1, h2, drop_canon hx (by omega)]
  obtain ⟨g, off, rfl⟩ : ∃ g off, a = some ⟨g, off, none⟩ := by
   rcases h.2.2.2.2 with h4 | ⟨g, off, cs, ha, _⟩
   ·omega
   ·exact ⟨g, off, ha⟩
  have hcc := h.2.1
  have HS := Lib.hid h
  have HX := Lib.hid hx
  have hnk : (3 : Int) < (n : Int) := by omega
  have hnc : (n : Int) ≤ (c : Int) := by omega
  clear h h1 h2 hx
  go_enter Tryz.func173, Tryz.ntmps173
  go_wp2
  go_loopw [7, 8] (fun l i wr => ∃ (j : Nat) (b : Bool), j ≤ 3 ∧ l = .bool b ∧ i = .int .i64 j ∧ Hid (decide (val (xs.take j) ≠ 0) = b) ∧ wr = w) (fun _ i _ => 3 - (intOf i).toNat)
  case atStart => exact ⟨0, false, by omega, rfl, rfl, by simp [Hid, val], rfl⟩
  case round =>
   obtain ⟨j, b, hj, rfl, rfl, hb, rfl⟩ := hrel
   by_cases hlt : j < 3
   ·have hv0 := ((show AllLimbs xs from HX.out.limb).take j).val.1
    have hts := val_take_succ xs j (by omega)
    have hlm := (show AllLimbs xs from HX.out.limb) j (by omega)
    have hpj := pw_pos j
    obtain ⟨g', off', he, hc⟩ := HS.out.rd.2.2 j (by omega)
    cases he
    obtain ⟨v, hv⟩ : ∃ v, v = xs.getD j 0 := ⟨_, rfl⟩
    rw [← hv] at hc hts hlm
    have i0 : (0 : Int) ≤ (j : Int) := by omega
    have i1 : (j : Int) < (n : Int) := by omega
    have HTS := Lib.hid hts
    have HV0 := Lib.hid hv0
    have HPJ := Lib.hid hpj
    clear hts hv hv0 hpj
    cases b
    ·by_cases hz : v = 0
     ·have hzz := Lib.hid (show (v != 0) = false by rw [hz]; rfl)
      have HZ := Lib.hid hz
      clear hz
      go_wp2
      go_roundw
      case rel => exact ⟨j + 1, false, by omega, by rw [hzz.out], by go_num, by
       have h9 := hb.out
       show decide (val (xs.take (j + 1)) ≠ 0) = false
       rw [HTS.out, HZ.out, Int.mul_zero, Int.add_zero]; exact h9, trivial⟩
      case measure => simp [intOf]; omega
     ·have hzz := Lib.hid (show (v != 0) = true by simpa using hz)
      have HZ := Lib.hid hz
      clear hz
      go_wp2
      go_roundw
      case rel => exact ⟨j + 1, true, by omega, by rw [hzz.out], by go_num, by
       show decide (val (xs.take (j + 1)) ≠ 0) = true
       rw [HTS.out]
       have hm : pw j * 1 ≤ pw j * v := Int.mul_le_mul_of_nonneg_left (by have := HZ.out; omega) (by have := HPJ.out; omega)
       exact decide_eq_true (by have := HV0.out; have := HPJ.out; omega), trivial⟩
      case measure => simp [intOf]; omega
    ·go_wp2
     go_roundw
     case rel => exact ⟨j + 1, true, by omega, rfl, by go_num, by
      have h9 := of_decide_eq_true hb.out
      show decide (val (xs.take (j + 1)) ≠ 0) = true
      rw [HTS.out]
      have hm : 0 ≤ pw j * v := Int.mul_nonneg (by have := HPJ.out; omega) hlm.1
      exact decide_eq_true (by have := HV0.out; omega), trivial⟩
     case measure => simp [intOf]; omega
   ·obtain rfl : j = 3 := by omega
    go_wp2_with fail
    refine (l1Ints_any _ _ _ _ _ (HS.out.back 3 (by omega)) (by have := HX.out.len; omega)).mono ?_
    rintro e w2 ⟨v9, rfl, ho, hk⟩
    have HO := Lib.hid ho
    have HK := Lib.hid hk
    clear ho hk
    go_wp2_with fail
    exact bodyPost_ret (v := .tuple #[v9, .bool b]) (by simp [results, Tryz.results173, go_sem]) rfl ⟨_, by rw [hb.out], HO.out, HK.out⟩

set_option maxHeartbeats 4000000 in
set_option maxRecDepth 20000 in
theorem l3Drop_72 (a : Option Addr) (n c : Nat) (xs : List Int) (w : World) (h : Sl w a n c xs) (hx : Nat40 xs) :
  Calls Tryz.prog 173 #[.int .i64 72, .slice a n c] w (DropR w (val xs) 72) := by
 have hl := h.1
 have hp : p2 72 = pw 4 * 256 := by rw [show 72 = 16 * 4 + 8 from rfl, p2_add, ← pw_p2 4]; rfl
 unfold DropR
 rw [hp]
 clear hp
 by_cases hn : n ≤ 4
 ·have hX := (show AllLimbs xs from hx.limb).val
  have hX2 := pw_mono xs.length 4 (by omega)
  have h1 : val xs / (pw 4 * 256) = 0 := Int.ediv_eq_zero_of_lt hX.1 (by omega)
  have h2 : val xs % (pw 4 * 256) = val xs := Int.emod_eq_of_lt hX.1 (by omega)
  rw [h1, h2, digits_zero (Int.le_refl 0)]
  clear hX hX2
  have hv := canon_nonneg hx.canon
  have HE := Lib.hid (show decide (val xs ≠ 0) = decide ((0 : Int) < (n : Int)) by
   by_cases h0 : n = 0
   ·have hxs : xs = [] := List.eq_nil_of_length_eq_zero (by omega)
    subst hxs
    rw [h0]; rfl
   ·have := hv.2 (fun e => h0 (by rw [← hl, e]; rfl))
    rw [decide_eq_true (show val xs ≠ 0 by omega), decide_eq_true (by omega)])
  rw [HE.out]
  have hnk : (n : Int) ≤ 4 := by omega
  clear h h1 h2 hv hl hx
  go_enter Tryz.func173, Tryz.ntmps173
  go_wp2
  exact bodyPost_ret (v := .tuple #[.slice (some ⟨w.heap.size, 0, none⟩) 0 0, .bool (decide ((0 : Int) < (n : Int)))]) (by simp [results, Tryz.results173, go_sem]) rfl ⟨_, rfl, Ow.empty _ w (Nat.le_refl _), (Kept.refl [] w).alloc _⟩
 ·obtain ⟨h1, h2⟩ := drop_num hx (k := 4) (by omega)
  obtain ⟨h3, h4⟩ := part_num (X := val xs) (d := 256) (k := 4) (by omega)
  rw [h1] at h3 h4
  rw [h2] at h4
  rw [h3]
  obtain ⟨Y, hY⟩ : ∃ Y, Y = val (xs.drop 4) := ⟨_, rfl⟩
  rw [← hY] at h4 ⊢
  obtain ⟨r, hr⟩ : ∃ r, r = Y % 256 := ⟨_, rfl⟩
  rw [← hr] at h4
  have H4 := Lib.hid h4
  have HY := Lib.hid hY
  have HR := Lib.hid hr
  clear h3 h4 hY hr
  obtain ⟨g, off, rfl⟩ : ∃ g off, a = some ⟨g, off, none⟩ := by
   rcases h.2.2.2.2 with h4 | ⟨g, off, cs, ha, _⟩
   ·omega
   ·exact ⟨g, off, ha⟩
  have hcc := h.2.1
  have HS := Lib.hid h
  have HX := Lib.hid hx
  have hnk : (4 : Int) < (n : Int) := by omega
  have hnc : (n : Int) ≤ (c : Int) := by omega
  clear h h1 h2 hx
  go_enter Tryz.func173, Tryz.ntmps173
  go_wp2
  go_loopw [7, 8] (fun l i wr => ∃ (j : Nat) (b : Bool), j ≤ 4 ∧ l = .bool b ∧ i = .int .i64 j ∧ Hid (decide (val (xs.take j) ≠ 0) = b) ∧ wr = w) (fun _ i _ => 4 - (intOf i).toNat)
  case atStart => exact ⟨0, false, by omega, rfl, rfl, by simp [Hid, val], rfl⟩
  case round =>
   obtain ⟨j, b, hj, rfl, rfl, hb, rfl⟩ := hrel
   by_cases hlt : j < 4
   ·have hv0 := ((show AllLimbs xs from HX.out.limb).take j).val.1
    have hts := val_take_succ xs j (by omega)
    have hlm := (show AllLimbs xs from HX.out.limb) j (by omega)
    have hpj := pw_pos j
    obtain ⟨g', off', he, hc⟩ := HS.out.rd.2.2 j (by omega)
    cases he
    obtain ⟨v, hv⟩ : ∃ v, v = xs.getD j 0 := ⟨_, rfl⟩
    rw [← hv] at hc hts hlm
    have i0 : (0 : Int) ≤ (j : Int) := by omega
    have i1 : (j : Int) < (n : Int) := by omega
    have HTS := Lib.hid hts
    have HV0 := Lib.hid hv0
    have HPJ := Lib.hid hpj
    clear hts hv hv0 hpj
    cases b
    ·by_cases hz : v = 0
     ·have hzz := Lib.hid (show (v != 0) = false by rw [hz]; rfl)
      have HZ := Lib.hid hz
      clear hz
      go_wp2
      go_roundw
      case rel => exact ⟨j + 1, false, by omega, by rw [hzz.out], by go_num, by
       have h9 := hb.out
       show decide (val (xs.take (j + 1)) ≠ 0) = false
       rw [HTS.out, HZ.out, Int.mul_zero, Int.add_zero]; exact h9, trivial⟩
      case measure => simp [intOf]; omega
     ·have hzz := Lib.hid (show (v != 0) = true by simpa using hz)
      have HZ := Lib.hid hz
      clear hz
      go_wp2
      go_roundw
      case rel => exact ⟨j + 1, true, by omega, by rw [hzz.out], by go_num, by
       show decide (val (xs.take (j + 1)) ≠ 0) = true
       rw [HTS.out]
       have hm : pw j * 1 ≤ pw j * v := Int.mul_le_mul_of_nonneg_left (by have := HZ.out; omega) (by have := HPJ.out; omega)
       exact decide_eq_true (by have := HV0.out; have := HPJ.out; omega), trivial⟩
      case measure => simp [intOf]; omega
    ·go_wp2
     go_roundw
     case rel => exact ⟨j + 1, true, by omega, rfl, by go_num, by
      have h9 := of_decide_eq_true hb.out
      show decide (val (xs.take (j + 1)) ≠ 0) = true
      rw [HTS.out]
      have hm : 0 ≤ pw j * v := Int.mul_nonneg (by have := HPJ.out; omega) hlm.1
      exact decide_eq_true (by have := HV0.out; omega), trivial⟩
     case measure => simp [intOf]; omega
   ·obtain rfl : j = 4 := by omega
    go_wp2_with fail
    have i4 : (4 : Int) ≤ (n : Int) := by omega
    go_region_held3 (fun w' => Hid (Kept [] wr w'))
     (with_reducible first | exact Lib.hid ((Kept.refl _ _).drew) | exact Lib.hid (Kept.trans0 (Hid.out (by assumption)) (by assumption)))
     (first
      | (go_at_call 192; refine (l3Bits_72 _).mono ?_; rintro e w1 ⟨rfl, hk1⟩)
      | (go_at_call 200; refine (l1Short_any _ _ _ _ _ _ ((HS.out.back 4 (by omega)).rd.kept0 ((Kept.refl [] _).drew.trans0 hk1)) ((show AllLimbs xs from HX.out.limb).drop 4) (by have := HX.out.len; omega) (by omega)).mono ?_; rintro e w2 ⟨v9, rfl, ho, hk2⟩; rw [← HY.out, ← HR.out]))
    rw [← HY.out] at ho
    have HK := Lib.hid (((Kept.refl [] wr).drew.trans0 hk1).trans0 hk2)
    have HO := Lib.hid (ho.mono (B' := wr.heap.size) (by have := hk1.size; simpa using this))
    clear hk1 hk2 ho
    cases b
    ·by_cases hz : r = 0
     ·have HZ := Lib.hid (show decide (val xs % (pw 4 * 256) ≠ 0) = false from decide_eq_false (by
       have h9 := of_decide_eq_false hb.out
       have := H4.out.2 ⟨by omega, hz⟩
       omega))
      have hzz := Lib.hid (show (r != 0) = false by rw [hz]; rfl)
      clear hz
      go_wp2_with fail
      exact bodyPost_ret (v := .tuple #[v9, .bool (r != 0)]) (by simp [results, Tryz.results173, go_sem]) rfl ⟨_, by rw [HZ.out, hzz.out], HO.out, HK.out⟩
     ·have HZ := Lib.hid (show decide (val xs % (pw 4 * 256) ≠ 0) = true from decide_eq_true (fun h => hz (H4.out.1 h).2))
      have hzz := Lib.hid (show (r != 0) = true by simpa using hz)
      clear hz
      go_wp2_with fail
      exact bodyPost_ret (v := .tuple #[v9, .bool (r != 0)]) (by simp [results, Tryz.results173, go_sem]) rfl ⟨_, by rw [HZ.out, hzz.out], HO.out, HK.out⟩
    ·have HZ := Lib.hid (show decide (val xs % (pw 4 * 256) ≠ 0) = true from decide_eq_true (fun h => (of_decide_eq_true hb.out) (H4.out.1 h).1))
     go_wp2_with fail
     exact bodyPost_ret (v := .tuple #[v9, .bool true]) (by simp [results, Tryz.results173, go_sem]) rfl ⟨_, by rw [HZ.out], HO.out, HK.out⟩

set_option maxHeartbeats 4000000 in
set_option maxRecDepth 20000 in
theorem l3Drop_96 (a : Option Addr) (n c : Nat) (xs : List Int) (w : World) (h : Sl w a n c xs) (hx : Nat40 xs) :
  Calls Tryz.prog 173 #[.int .i64 96, .slice a n c] w (DropR w (val xs) 96) := by
 have hl := h.1
 have hp : p2 96 = pw 6 := by rw [pw_p2 6]
 unfold DropR
 rw [hp]
 clear hp
 by_cases hn : n ≤ 6
 ·obtain ⟨h1, h2⟩ := small_num hx (k := 6) (by omega)
  rw [h1, h2, digits_zero (Int.le_refl 0)]
  have hv := canon_nonneg hx.canon
  have HE := Lib.hid (show decide (val xs ≠ 0) = decide ((0 : Int) < (n : Int)) by
   by_cases h0 : n = 0
   ·have hxs : xs = [] := List.eq_nil_of_length_eq_zero (by omega)
    subst hxs
    rw [h0]; rfl
   ·have := hv.2 (fun e => h0 (by rw [← hl, e]; rfl))
    rw [decide_eq_true (show val xs ≠ 0 by omega), decide_eq_true (by omega)])
  rw [HE.out]
  have hnk : (n : Int) ≤ 6 := by omega
  clear h h1 h2 hv hl hx
  go_enter Tryz.func173, Tryz.ntmps173
  go_wp2
  exact bodyPost_ret (v := .tuple #[.slice (some ⟨w.heap.size, 0, none⟩) 0 0, .bool (decide ((0 : Int) < (n : Int)))]) (by simp [results, Tryz.results173, go_sem]) rfl ⟨_, rfl, Ow.empty _ w (Nat.le_refl _), (Kept.refl [] w).alloc _⟩
 ·obtain ⟨h1, h2⟩ := drop_num hx (k := 6) (by omega)
  rw [h1, h2, drop_canon hx (by omega)]
  obtain ⟨g, off, rfl⟩ : ∃ g off, a = some ⟨g, off, none⟩ := by
   rcases h.2.2.2.2 with h4 | ⟨g, off, cs, ha, _⟩
   ·omega
   ·exact ⟨g, off, ha⟩
  have hcc := h.2.1
  have HS := Lib.hid h
  have HX := Lib.hid hx
  have hnk : (6 : Int) < (n : Int) := by omega
  have hnc : (n : Int) ≤ (c : Int) := by omega
  clear h h1 h2 hx
  go_enter Tryz.func173, Tryz.ntmps173
  go_wp2
  go_loopw [7, 8] (fun l i wr => ∃ (j : Nat) (b : Bool), j ≤ 6 ∧ l = .bool b ∧ i = .int .i64 j ∧ Hid (decide (val (xs.take j) ≠ 0) = b) ∧ wr = w) (fun _ i _ => 6 - (intOf i).toNat)
  case atStart => exact ⟨0, false, by omega, rfl, rfl, by simp [Hid, val], rfl⟩
  case round =>
   obtain ⟨j, b, hj, rfl, rfl, hb, rfl⟩ := hrel
   by_cases hlt : j < 6
   ·have hv0 := ((show AllLimbs xs from HX.out.limb).take j).val.1
    have hts := val_take_succ xs j (by omega)
    have hlm := (show AllLimbs xs from HX.out.limb) j (by omega)
    have hpj := pw_pos j
    obtain ⟨g', off', he, hc⟩ := HS.out.rd.2.2 j (by omega)
    cases he
    obtain ⟨v, hv⟩ : ∃ v, v = xs.getD j 0 := ⟨_, rfl⟩
    rw [← hv] at hc hts hlm
    have i0 : (0 : Int) ≤ (j : Int) := by omega
    have i1 : (j : Int) < (n : Int) := by omega
    have HTS := Lib.hid hts
    have HV0 := Lib.hid hv0
    have HPJ := Lib.hid hpj
    clear hts hv hv0 hpj
    cases b
    ·by_cases hz : v = 0
     ·have hzz := Lib.hid (show (v != 0) = false by rw [hz]; rfl)
      have HZ := Lib.hid hz
      clear hz
      go_wp2
      go_roundw
      case rel => exact ⟨j + 1, false, by omega, by rw [hzz.out], by go_num, by
       have h9 := hb.out
       show decide (val (xs.take (j + 1)) ≠ 0) = false
       rw [HTS.out, HZ.out, Int.mul_zero, Int.add_zero]; exact h9, trivial⟩
      case measure => simp [intOf]; omega
     ·have hzz := Lib.hid (show (v != 0) = true by simpa using hz)
      have HZ := Lib.hid hz
      clear hz
      go_wp2
      go_roundw
      case rel => exact ⟨j + 1, true, by omega, by rw [hzz.out], by go_num, by
       show decide (val (xs.take (j + 1)) ≠ 0) = true
       rw [HTS.out]
       have hm : pw j * 1 ≤ pw j * v := Int.mul_le_mul_of_nonneg_left (by have := HZ.out; omega) (by have := HPJ.out; omega)
       exact decide_eq_true (by have := HV0.out; have := HPJ.out; omega), trivial⟩
      case measure => simp [intOf]; omega
    ·go_wp2
     go_roundw
     case rel => exact ⟨j + 1, true, by omega, rfl, by go_num, by
      have h9 := of_decide_eq_true hb.out
      show decide (val (xs.take (j + 1)) ≠ 0) = true
      rw [HTS.out]
      have hm : 0 ≤ pw j * v := Int.mul_nonneg (by have := HPJ.out; omega) hlm.1
      exact decide_eq_true (by have := HV0.out; omega), trivial⟩
     case measure => simp [intOf]; omega
   ·obtain rfl : j = 6 := by omega
    go_wp2_with fail
    refine (l1Ints_any _ _ _ _ _ (HS.out.back 6 (by omega)) (by have := HX.out.len; omega)).mono ?_
    rintro e w2 ⟨v9, rfl, ho, hk⟩
    have HO := Lib.hid ho
    have HK := Lib.hid hk
    clear ho hk
    go_wp2_with fail
    exact bodyPost_ret (v := .tuple #[v9, .bool b]) (by simp [results, Tryz.results173, go_sem]) rfl ⟨_, by rw [hb.out], HO.out, HK.out⟩

/-- All three precisions. -/
theorem l3Drop_any (P : Int) (a : Option Addr) (n c : Nat) (xs : List Int) (w : World) (hP : isP P = true) (h : Sl w a n c xs) (hx : Nat40 xs) :
  Calls Tryz.prog 173 #[.int .i64 P, .slice a n c] w (DropR w (val xs) P.toNat) := by
 rcases isP_cases hP with rfl | rfl | rfl
 ·exact l3Drop_48 a n c xs w h hx
 ·exact l3Drop_72 a n c xs w h hx
 ·exact l3Drop_96 a n c xs w h hx

end Go.Proofs.YtfafjijoeanbhaaGreat
