/-
  Several of my texts joined: the contracts of the functions that they name, each with the conditions that it states.
-/
import Derived.Test.YtlhiahhpmjiioadGreatDoorRdP
namespace Go.Proofs.YtlhiahhpmjiioadGreatDoor
open Go.RowKit

theorem dg_isD (x : Nat) : isD (dg x) = true := isD_iff.2 (by rw [dg_nat]; omega)
theorem dec_isD : ∀ (f u : Nat), u ≤ f → ∀ b ∈ Lib.decDigits u, isD b = true
  | 0, u, h => by
    obtain rfl : u = 0 := by omega
    rw [dec_one (by omega)]; intro b hb; simp at hb; subst hb; exact dg_isD 0
  | f + 1, u, h => by
    by_cases h10 : u < 10
    · rw [dec_one h10]; intro b hb; simp at hb; subst hb; exact dg_isD u
    · rw [dec_step (by omega)]
      intro b hb
      rcases List.mem_append.1 hb with hb | hb
      · exact dec_isD f (u / 10) (by omega) b hb
      · simp at hb; subst hb; exact dg_isD u
theorem dec_ne (u : Nat) : 1 ≤ (Lib.decDigits u).length := by rw [Lib.decDigits_length]; exact Lib.nDigits_pos u
theorem numL_dec : ∀ (f u : Nat), u ≤ f → numL (Lib.decDigits u) = u
  | 0, u, h => by
    obtain rfl : u = 0 := by omega
    rw [dec_one (by omega)]
    show 0 * 10 + ((dg 0).toNat - 48) = 0
    rw [dg_nat]
  | f + 1, u, h => by
    by_cases h10 : u < 10
    · rw [dec_one h10]
      show 0 * 10 + ((dg u).toNat - 48) = u
      rw [dg_nat]; omega
    · rw [dec_step (by omega)]
      show numA 0 _ = _
      rw [numA_app]
      have := numL_dec f (u / 10) (by omega)
      unfold numL at this
      rw [this]
      show u / 10 * 10 + ((dg u).toNat - 48) = u
      rw [dg_nat]; omega

end Go.Proofs.YtlhiahhpmjiioadGreatDoor

namespace Go.Proofs.YtlhiahhpmjiioadGreatDoor
open Go.RowKit

theorem nine_isD (r : Nat) : ∀ b ∈ nine r, isD b = true := by
  intro b hb
  simp only [nine, List.mem_cons, List.not_mem_nil, or_false] at hb
  rcases hb with rfl | rfl | rfl | rfl | rfl | rfl | rfl | rfl | rfl <;> exact dg_isD _
theorem numL_nine {r : Nat} (h : r < 1000000000) : numL (nine r) = r := by
  have h1 := numL_dec (1000000000 + r) (1000000000 + r) (Nat.le_refl _)
  rw [dec_nine h] at h1
  have h2 : numL (49 :: nine r) = numA 1 (nine r) := rfl
  rw [h2, numA_plus, nine_len] at h1
  have : (10 : Nat) ^ 9 = 1000000000 := by decide
  rw [this] at h1
  omega
theorem trim_back (l : List UInt8) : Lib.trimRightB l 48 ++ List.replicate (l.length - (Lib.trimRightB l 48).length) 48 = l := by
  unfold Lib.trimRightB
  have h1 := List.takeWhile_append_dropWhile (p := (· == (48 : UInt8))) (l := l.reverse)
  have h2 : l.reverse.takeWhile (· == (48 : UInt8)) = List.replicate (l.reverse.takeWhile (· == (48 : UInt8))).length 48 := by
    refine List.eq_replicate_iff.2 ⟨rfl, fun b hb => ?_⟩
    have := List.all_takeWhile (p := (· == (48 : UInt8))) (l := l.reverse)
    have := (List.all_eq_true.1 this) b hb
    simpa using this
  have h3 := congrArg List.length h1
  rw [List.length_append, List.length_reverse] at h3
  rw [List.length_reverse, show l.length - (l.reverse.dropWhile (· == (48 : UInt8))).length = (l.reverse.takeWhile (· == (48 : UInt8))).length by omega]
  have h4 := congrArg List.reverse h1
  rw [List.reverse_append, List.reverse_reverse] at h4
  rw [h2, List.reverse_replicate] at h4
  exact h4
theorem trim_isD (r : Nat) : ∀ b ∈ Lib.trimRightB (nine r) 48, isD b = true := by
  intro b hb
  refine nine_isD r b ?_
  have h := trim_back (nine r)
  rw [← h]
  exact List.mem_append_left _ hb
theorem trim_pos {r : Nat} (h : r < 1000000000) (h0 : 0 < r) : 1 ≤ (Lib.trimRightB (nine r) 48).length := by
  rcases Nat.eq_zero_or_pos (Lib.trimRightB (nine r) 48).length with h1 | h1
  · exfalso
    have hb := trim_back (nine r)
    rw [h1, List.eq_nil_of_length_eq_zero h1, List.nil_append] at hb
    have h2 := numL_nine h
    rw [← hb] at h2
    have h3 : numL (List.replicate ((nine r).length - 0) 48) = 0 := by
      show numA 0 _ = _
      rw [numA_zeros]; omega
    omega
  · exact h1
theorem coordP_back {u : Nat} (h : u ≤ 999999999999999) : decM 6 9 (coordP u) = some u := by
  have hq := dec_isD (u / 1000000000) (u / 1000000000) (Nat.le_refl _)
  have hl := decD_len (u := u / 1000000000) (k := 6) (by omega) (by have : (10 : Nat) ^ 6 = 1000000 := by decide
                                                                    omega)
  have ho : okNum 6 (Lib.decDigits (u / 1000000000)) = true := okNum_iff.2 ⟨dec_ne _, hl, hq⟩
  have hn := numL_dec (u / 1000000000) (u / 1000000000) (Nat.le_refl _)
  have h9 : (10 : Nat) ^ 9 = 1000000000 := by decide
  by_cases hz : u % 1000000000 = 0
  · rw [coordP_zero hz]
    unfold decM
    rw [cutL_none 46 _ (okNum_dots ho)]
    simp only [ho, if_true, hn]
    rw [h9]
    congr 1; omega
  · rw [coordP_part hz]
    have hr : u % 1000000000 < 1000000000 := by omega
    have hp : okNum 9 (Lib.trimRightB (nine (u % 1000000000)) 48) = true :=
      okNum_iff.2 ⟨trim_pos hr (by omega), by have := trim_len (nine (u % 1000000000)) 48; rw [nine_len] at this; exact this, trim_isD _⟩
    unfold decM
    rw [cutL_at 46 _ _ (okNum_dots ho), cutL_none 46 _ (okNum_dots hp)]
    simp only [ho, hp, Bool.and_self, if_true, hn]
    have hb := trim_back (nine (u % 1000000000))
    rw [nine_len] at hb
    rw [hb, numL_nine hr, h9]
    congr 1; omega
theorem coordP_head (u : Nat) : ¬ (coordP u).head? = some 45 := by
  intro h
  have h1 : (Lib.decDigits (u / 1000000000)).head? = some 45 := by
    unfold coordP at h
    have := dec_ne (u / 1000000000)
    cases hd : Lib.decDigits (u / 1000000000) with
    | nil => rw [hd] at this; simp at this
    | cons b r => rw [hd] at h; simpa using h
  have hm : (45 : UInt8) ∈ Lib.decDigits (u / 1000000000) := by
    cases hd : Lib.decDigits (u / 1000000000) with
    | nil => rw [hd] at h1; cases h1
    | cons b r => rw [hd] at h1; simp at h1; subst h1; simp
  have := dec_isD (u / 1000000000) (u / 1000000000) (Nat.le_refl _) 45 hm
  exact absurd this (by decide)
theorem coordT_back {n : Int} (h0 : -999999999999999 ≤ n) (h1 : n ≤ 999999999999999) : fullC (coordT n) = some n := by
  rw [fullC_eq]
  by_cases hn : n < 0
  · have : coordT n = 45 :: coordP n.natAbs := if_pos hn
    rw [this, takeR_yes rfl]
    simp only [List.drop_succ_cons, List.drop_zero]
    rw [coordP_back (by omega)]
    simp only [Option.bind_some, if_true]
    congr 1; omega
  · have : coordT n = coordP n.toNat := if_neg hn
    rw [this, takeR_no (coordP_head _)]
    simp only
    rw [coordP_back (by omega)]
    simp only [Option.bind_some, Bool.false_eq_true, if_false]
    congr 1; omega
theorem coordT_len (n : Int) (h0 : -999999999999999 ≤ n) (h1 : n ≤ 999999999999999) : (coordT n).length ≤ 17 := by
  have hc : ∀ u : Nat, u ≤ 999999999999999 → (coordP u).length ≤ 16 := by
    intro u hu
    unfold coordP
    rw [List.length_append]
    have h2 := decD_len (u := u / 1000000000) (k := 6) (by omega) (by have : (10 : Nat) ^ 6 = 1000000 := by decide
                                                                      omega)
    have h3 := trim_len (nine (u % 1000000000)) 48
    rw [nine_len] at h3
    split
    · simp; omega
    · simp; omega
  unfold coordT
  split
  · have := hc n.natAbs (by omega); simp; omega
  · have := hc n.toNat (by omega); omega
theorem fullC_in {l : List UInt8} {v : Int} (h : fullC l = some v) : -999999999999999 ≤ v ∧ v ≤ 999999999999999 := by
  rw [fullC_eq] at h
  cases hd : decM 6 9 (takeR 45 l).2 with
  | none => rw [hd] at h; cases h
  | some u =>
    rw [hd] at h
    simp only [Option.bind_some, Option.some.injEq] at h
    have hu : u < 1000000000000000 := by
      have h9 : (10 : Nat) ^ 9 = 1000000000 := by decide
      have h6 : (10 : Nat) ^ 6 = 1000000 := by decide
      unfold decM at hd
      split at hd
      · split at hd
        · rename_i x _ ho
          have ho := okNum_iff.1 ho
          have h1 := numL_lt ho.2.2 ho.2.1
          simp only [Option.some.injEq] at hd
          rw [h9] at hd
          rw [h6] at h1
          omega
        · cases hd
      · split at hd
        · rename_i x y _ ho
          obtain ⟨hx, hy⟩ := Bool.and_eq_true .. ▸ ho
          have ho := okNum_iff.1 hx
          have h1 := numL_lt ho.2.2 ho.2.1
          have hy2 := okNum_iff.1 hy
          have h2 : numL (y ++ List.replicate (9 - y.length) 48) < 10 ^ 9 := numL_lt (fun b hb => by
            rcases List.mem_append.1 hb with hb | hb
            · exact hy2.2.2 b hb
            · rw [List.eq_of_mem_replicate hb]; decide) (by rw [List.length_append, List.length_replicate]; omega)
          simp only [Option.some.injEq] at hd
          rw [h9] at hd h2
          rw [h6] at h1
          omega
        · cases hd
      · cases hd
    split at h <;> omega

end Go.Proofs.YtlhiahhpmjiioadGreatDoor
