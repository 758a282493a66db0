/-
  Contract of the reader's method kind. Condition: the reader's box holds the text that is left.
-/
import Derived.Test.YtlhiahhpmjiioacGreatDoorPsA
import Derived.Test.YtlhiahhpmjiioacGreatDoorPrtA
namespace Go.Proofs.YtlhiahhpmjiioacGreatDoor
open Go.RowKit

theorem hasP_iff {l p : List UInt8} : Lib.hasPrefix l p = true ↔ ∃ t, l = p ++ t := by
  unfold Lib.hasPrefix
  rw [List.isPrefixOf_iff_prefix]
  constructor
  · rintro ⟨t, h⟩; exact ⟨t, h.symm⟩
  · rintro ⟨t, h⟩; exact ⟨t, h.symm⟩
theorem trimP_yes {l p t : List UInt8} (h : l = p ++ t) : Lib.trimPrefix l p = t := by
  have hp := hasP_iff.2 ⟨t, h⟩
  subst h
  unfold Lib.trimPrefix
  rw [if_pos hp]; simp
theorem trimP_no {l p : List UInt8} (h : Lib.hasPrefix l p = false) : Lib.trimPrefix l p = l := by
  unfold Lib.trimPrefix
  rw [if_neg (by rw [h]; decide)]
theorem nameT_eq {k : Int} (h1 : 1 ≤ k) (h4 : k ≤ 4) : nameT k = nmK k := by
  rcases (by omega : k = 1 ∨ k = 2 ∨ k = 3 ∨ k = 4) with rfl | rfl | rfl | rfl <;> rfl
theorem kindR_none {l : List UInt8} (h : ∀ k : Int, 1 ≤ k → k ≤ 4 → Lib.hasPrefix l (nmK k) = false) : kindR l = none := by
  cases hk : kindR l with
  | none => rfl
  | some x =>
    obtain ⟨k, t⟩ := x
    obtain ⟨h1, h4, e⟩ := kindR_some hk
    have := hasP_iff.2 ⟨t, e⟩
    rw [h k h1 h4] at this; cases this
/-- What kind answers. -/
def KindP (R : Nat) (l : List UInt8) (w : World) (e : Ending) (w' : World) : Prop :=
  (kindR l = none ∧ Bang [R] w e w') ∨ ∃ k t, kindR l = some (k, t) ∧ e = .returned (.int .i64 k) ∧ Rdr w' R t ∧ Kept [R] w w'

set_option maxHeartbeats 1000000 in
theorem kind_any (R : Nat) (l : List UInt8) (w : World) (h : Rdr w R l) :
    Calls Tryz.prog 26 #[.pointer (some ⟨R, 0, none⟩)] w (KindP R l w) := by
  have H := Lib.hid h
  clear h
  go_enter Tryz.func26, Tryz.ntmps26
  go_wp2_with fail
  go_loopw [3] (fun i wr => ∃ k : Int, i = .int .i64 k ∧ 1 ≤ k ∧ k ≤ 5 ∧ Hid (∀ j : Int, 1 ≤ j → j < k → Lib.hasPrefix l (nmK j) = false) ∧ Hid (Rdr wr R l) ∧ Hid (Kept [R] w wr)) (fun i _ => 5 - (intOf i).toNat)
  case atStart => exact ⟨1, rfl, by omega, by omega, fun j h1 h2 => by omega, H.out, Kept.refl _ _⟩
  case round =>
    obtain ⟨k, rfl, hk1, hk5, hF, hR, hK⟩ := hrel
    by_cases h4 : k ≤ 4
    · have hin : inK k = true := decide_eq_true ⟨hk1, h4⟩
      obtain ⟨b, hb⟩ : ∃ b, Lib.hasPrefix l (nmK k) = b := ⟨_, rfl⟩
      go_wp2_with fail
      refine (nameOf_any k _ hin).mono ?_
      rintro e w1 ⟨rfl, k1⟩
      rw [nameT_eq hk1 h4]
      have R1 := Lib.hid (hR.out.kept k1 (by simp))
      have K1 := Lib.hid (hK.out.trans0 k1)
      clear k1 hin
      go_wp2_with fail
      refine (takes_any R l (nmK k) _ R1.out).mono ?_
      rintro e w2 ⟨rfl, r2, k2⟩
      rw [hb]
      have K2 := Lib.hid (K1.out.trans k2 (fun _ hx _ => hx))
      clear k2
      cases b
      · rw [trimP_no hb] at r2
        have R2 := Lib.hid r2
        have hF2 : Hid (∀ j : Int, 1 ≤ j → j < k + 1 → Lib.hasPrefix l (nmK j) = false) := by
          intro j h1 h2
          by_cases hj : j = k
          · subst hj; exact hb
          · exact hF.out j h1 (by omega)
        clear r2 hb
        go_wp2_with fail
        go_roundw
        case rel => exact ⟨k + 1, by go_num, by omega, by omega, hF2.out, R2.out, K2.out⟩
        case measure => simp [intOf] <;> omega
      · obtain ⟨t, ht⟩ := hasP_iff.1 hb
        rw [trimP_yes ht] at r2
        have R2 := Lib.hid r2
        have HV : Hid (kindR l = some (k, t)) := by rw [ht]; exact kindR_at k hk1 h4 t
        clear r2 hb ht
        go_wp2_with fail
        go_ret
        exact .inr ⟨k, t, HV.out, rfl, R2.out, K2.out⟩
    · go_wp2_with fail
      exact ⟨rfl, .inl ⟨kindR_none (fun j h1 h2 => hF.out j h1 (by omega)), ⟨_, _, rfl⟩, hK.out⟩⟩

end Go.Proofs.YtlhiahhpmjiioacGreatDoor
