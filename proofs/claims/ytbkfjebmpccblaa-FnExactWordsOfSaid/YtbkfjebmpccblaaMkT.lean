/-
  Contract of the laws' helper that writes a mark. Condition: the mark is no great number.
-/
import Derived.Test.YtbkfjebmpccblaaCooA
namespace Go.Proofs.Ytbkfjebmpccblaa
open Go.RowKit

/-- The text that marks. -/
def mkT (u : Nat) : List UInt8 := 109 :: Lib.decDigits u
/-- What is left of the digits. -/
def DigLeft (u j : Nat) (D : List UInt8) : Prop := Lib.decDigits u = if j = 0 then D else Lib.decDigits j ++ D
theorem digLeft_step {u j : Nat} {D : List UInt8} (h : DigLeft u j D) (hj : 0 < j) : DigLeft u (j / 10) (dg j :: D) := by
  unfold DigLeft at h ⊢
  rw [if_neg (by omega)] at h
  by_cases h10 : j < 10
  · rw [if_pos (by omega), h, dec_one h10]; rfl
  · rw [if_neg (by omega), h, dec_step (by omega)]; simp
theorem decLen (u : Nat) (h : u ≤ 9223372036854775807) : (Lib.decDigits u).length ≤ 19 := decD_len (k := 19) (by omega) (by omega)
theorem digLeft_len {u j : Nat} {D : List UInt8} (h : DigLeft u j D) (hu : u ≤ 9223372036854775807) : D.length ≤ 19 := by
  have h1 := decLen u hu
  unfold DigLeft at h
  rw [h] at h1
  split at h1
  · exact h1
  · rw [List.length_append] at h1; omega

set_option maxHeartbeats 1000000 in
theorem markText_any (u : Nat) (w : World) (h0 : 0 < u) (hu : u ≤ 1099511627776) :
    Calls Try.prog 16 #[.int .i64 (u : Int)] w (Ans w (.string (strB (mkT u)))) := by
  have h00 : ¬ (u : Int) ≤ 0 := by omega
  have HU := Lib.hid hu
  clear hu
  go_enter Try.func16, Try.ntmps16
  go_wp2_with fail
  go_loopw [0, 3] (fun q o wr => ∃ (j : Nat) (D : List UInt8), q = .int .i64 (j : Int) ∧ o = .string (strB D) ∧ Hid (j ≤ 1099511627776) ∧ Hid (DigLeft u j D) ∧ Hid (Kept [] w wr)) (fun q _ _ => (intOf q).toNat)
  case atStart => exact ⟨u, [], rfl, rfl, HU.out, by show Lib.decDigits u = _; rw [if_neg (by omega)]; simp, Kept.refl _ _⟩
  case round =>
    obtain ⟨j, D, rfl, rfl, hj, hD, hK⟩ := hrel
    have hl := digLeft_len hD.out (by have := HU.out; omega)
    by_cases hj0 : 0 < j
    · obtain ⟨r, hr⟩ : ∃ r : Int, r = (j : Int) % 10 := ⟨_, rfl⟩
      obtain ⟨q, hq⟩ : ∃ q : Nat, q = j / 10 := ⟨_, rfl⟩
      have hj2 := hj.out
      have hD2 : Hid (DigLeft u q (dg j :: D)) := by rw [hq]; exact digLeft_step hD.out hj0
      have hv : Hid (strOfNums [48 + r] ++ strB D = strB (dg j :: D)) := by
        show _ = _
        rw [one_text hr, strB_append]; rfl
      have e1 : (j : Int).tdiv 10 = (q : Int) := by
        rw [Int.tdiv_eq_ediv_of_nonneg (by omega)]; omega
      have e2 : (j : Int).tmod 10 = r := by
        rw [Int.tmod_eq_emod_of_nonneg (by omega)]; omega
      have hr0 : 0 ≤ r := by omega
      have hr9 : r ≤ 9 := by omega
      have e3 : IntKind.i64.wrap (48 + r) = 48 + r := IntWalk.i64_in _ (by omega)
      have e4 : IntKind.u8.wrap (48 + r) = 48 + r := IntWalk.u8_in _ (by omega)
      have e5 : (j : Int) / 10 = (q : Int) := by omega
      have e6 : (j : Int) % 10 = r := hr.symm
      have e7 : IntKind.i64.wrap (q : Int) = q := IntWalk.i64_in _ (by omega)
      have hjp : (0 : Int) < j := by omega
      have hql : Hid (q ≤ 1099511627776) := by show _ ≤ _; omega
      have hqj : q < j := by omega
      have hB := run_byteText (wr.alloc (.cells #[.int .u8 (48 + r)] 5)) wr.heap.size (48 + r) (by simp)
      have z1 : (strB D).size ≤ 19 := by rw [strB_size]; exact hl
      have z2 : (strOfNums [48 + r]).size ≤ 1 := by rw [one_text hr, strB_size]; simp
      obtain ⟨T1, hT1⟩ : ∃ T, strB D = T := ⟨_, rfl⟩
      obtain ⟨T2, hT2⟩ : ∃ T, strOfNums [48 + r] = T := ⟨_, rfl⟩
      rw [hT2] at z2 hv hB
      rw [hT1] at z1 hv ⊢
      have z3 : ¬ 9223372036854775807 < T2.size + T1.size := by omega
      have hK2 := Lib.hid (hK.out.alloc (.cells #[.int .u8 (48 + r)] 5))
      clear hq hr hT1 hT2 hl hK hD
      go_wp2_with fail
      go_roundw
      case rel => exact ⟨q, dg j :: D, rfl, by rw [← hv.out], hql, hD2, hK2⟩
      case measure => simp [intOf]; omega
    · obtain rfl : j = 0 := by omega
      have hd : Hid (Lib.decDigits u = D) := by
        have := hD.out
        unfold DigLeft at this
        rw [if_pos rfl] at this; exact this
      have z3 : (strB D).size ≤ 19 := by rw [strB_size]; exact hl
      have hv : Hid (⟨#[109]⟩ ++ strB D = strB (mkT u)) := by
        show _ = _
        unfold mkT
        rw [hd.out, show (⟨#[109]⟩ : ByteArray) = strB [109] from rfl, strB_append]; rfl
      generalize strB D = T at *
      go_wp2_with fail
      go_ret
      exact ⟨by rw [← hv.out]; rfl, hK.out⟩

end Go.Proofs.Ytbkfjebmpccblaa
