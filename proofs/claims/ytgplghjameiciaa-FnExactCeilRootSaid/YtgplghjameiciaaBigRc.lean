/-
  Contract of the model's l2CeilRoot. Condition: the limbs are a number's of at most 40 limbs.
-/
import Derived.Test.YtgplghjameiciaaBigR
import Derived.Test.YtgplghjameiciaaBigOf
namespace Go.Proofs.Ytgplghjameiciaa
open Go.RowKit

def CRootR (w : World) (v : Int) (e : Ending) (w' : World) : Prop := ∃ a c, e = .returned (.slice a (digits (csq v)).length c) ∧ Sl w' a (digits (csq v)).length c (digits (csq v)) ∧ Fr w.heap.size a (digits (csq v)).length ∧ Kept [] w w'

theorem isq_len {xs : List Int} (hx : Nat40 xs) : (digits (isq (val xs))).length ≤ 40 := by
  have h0 := (canon_nonneg hx.canon).1
  have := digits_len_mono (isq_le h0).2
  rw [digits_val hx.canon] at this
  have := hx.len
  omega

set_option maxHeartbeats 2000000 in
/-- The model's root, rounded up; the limbs lie in memory of the call's own. -/
theorem l2CeilRoot_any (a : Option Addr) (n c : Nat) (xs : List Int) (w : World) (h : Sl w a n c xs) (hx : Nat40 xs) :
    Calls Try.prog 94 #[.slice a n c] w (CRootR w (val xs)) := by
  have h0 := (canon_nonneg hx.canon).1
  have hr0 := (isq_le h0).1
  have hrv := (isq_le h0).2
  have hrl := isq_len hx
  have hsl : isq (val xs) * isq (val xs) ≤ val xs := (isq_root h0).low
  have hsq0 : 0 ≤ isq (val xs) * isq (val xs) := Int.mul_nonneg hr0 hr0
  have hql : (digits (isq (val xs) * isq (val xs))).length ≤ 40 := by
    have := digits_len_mono hsl
    rw [digits_val hx.canon] at this
    have := hx.len
    omega
  have HS := Lib.hid h
  have HX := Lib.hid hx
  have HQL := Lib.hid hql
  have HRL := Lib.hid hrl
  clear h hx hql hrl
  go_enter Try.func94, Try.ntmps94
  go_wp2_with fail
  refine (l2Root_any _ _ _ _ _ HS.out HX.out).mono ?_
  rintro e w1 ⟨a1, c1, rfl, hs1, hf1, hk1⟩
  have HS1 := Lib.hid hs1
  have HF1 := Lib.hid hf1
  have HK1 := Lib.hid hk1
  clear hs1 hf1 hk1
  go_wp2_with fail
  refine (l1Mul_any _ _ _ _ _ _ _ _ _ HS1.out.rd HS1.out.rd (canon_limbs (canon_digits' _)) (canon_limbs (canon_digits' _)) (by have := HRL.out; omega) (by have := HRL.out; omega)).mono ?_
  rintro e w2 ⟨v2, rfl, hO2, hk2⟩
  rw [val_digits' hr0] at hO2
  obtain ⟨a2, c2, rfl, hs2, hf2⟩ := hO2.sl
  have HS2 := Lib.hid hs2
  have HK2 := Lib.hid hk2
  clear hs2 hf2 hO2 hk2
  go_wp2_with fail
  refine (l1Compare_any _ _ _ _ _ _ _ _ _ HS2.out.rd (HS.out.kept0 (HK1.out.trans0 HK2.out)).rd (nat40_of_canon (canon_digits' _) HQL.out) HX.out).mono ?_
  rintro e w3 ⟨rfl, hk3⟩
  have HK3 := Lib.hid hk3
  clear hk3
  rw [val_digits' hsq0]
  by_cases hlt : isq (val xs) * isq (val xs) < val xs
  · have hc : cmpV (isq (val xs) * isq (val xs)) (val xs) = -1 := by unfold cmpV; rw [if_pos hlt]
    have hcs : csq (val xs) = isq (val xs) + 1 := by unfold csq; rw [if_pos hlt]
    have HCS := Lib.hid hcs
    rw [hc]
    clear hc hcs
    go_wp2_with fail
    refine (l1Add_any _ _ _ _ _ _ _ [1] _ ((HS1.out.kept0 ((HK2.out.trans0 HK3.out).trans0 ((Kept.refl [] w3).alloc _))).rd) (rd_row1 w3 rfl) (canon_digits' _) ⟨by omega, by omega, trivial, fun _ => by omega⟩ (by have := HRL.out; omega) (by omega)).mono ?_
    rintro e w4 ⟨v4, rfl, hO4, hk4⟩
    rw [val_digits' hr0, show isq (val xs) + val [1] = csq (val xs) by rw [HCS.out]; rfl] at hO4
    obtain ⟨a4, c4, rfl, hs4, hf4⟩ := hO4.sl
    have z1 := HK1.out.size
    have z2 := HK2.out.size
    have z3 := HK3.out.size
    have HS4 := Lib.hid hs4
    have HF4 := Lib.hid (hf4.mono (B' := w.heap.size) (by simp only [World.size_alloc]; omega))
    have HK4 := Lib.hid (((HK1.out.trans0 HK2.out).trans0 HK3.out).trans0 (((Kept.refl [] w3).alloc _).trans0 hk4))
    clear hs4 hf4 hk4 hO4
    go_wp2_with fail
    go_ret
    exact ⟨a4, c4, rfl, HS4.out, HF4.out, HK4.out⟩
  · have he : isq (val xs) * isq (val xs) = val xs := by omega
    have hc : cmpV (isq (val xs) * isq (val xs)) (val xs) = 0 := by unfold cmpV; rw [if_neg (by omega), if_neg (by omega)]
    have hcs : csq (val xs) = isq (val xs) := by unfold csq; rw [if_neg (by omega)]
    have HCS := Lib.hid hcs
    rw [hc]
    clear hc hcs
    go_wp2_with fail
    go_ret
    exact ⟨a1, c1, by rw [HCS.out]; rfl, by rw [HCS.out]; exact HS1.out.kept0 (HK2.out.trans0 HK3.out), by rw [HCS.out]; exact HF1.out, (HK1.out.trans0 HK2.out).trans0 HK3.out⟩

end Go.Proofs.Ytgplghjameiciaa
