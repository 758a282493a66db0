/-
  Plain facts on the texts of numbers: the digits of billionths, without zeros at the end; the text of a coordinate. No program is walked here. No condition.
-/
import Derived.Test.YtlhiahhpmjiioadGreatDoorJ1
import Derived.Laws.BytesArg
import Derived.Lib.ItoaNum
import Derived.Lib.TrimByte
namespace Go.Proofs.YtlhiahhpmjiioadGreatDoor
open Go.RowKit

/-- The string of these bytes. -/
def strB (l : List UInt8) : ByteArray := ⟨l.toArray⟩
theorem strB_append (x y : List UInt8) : strB x ++ strB y = strB (x ++ y) := by unfold strB; rw [ByteArray.mk_append_mk]
theorem strB_size (l : List UInt8) : (strB l).size = l.length := by simp [strB, ByteArray.size]
theorem strB_list (l : List UInt8) : (strB l).data.toList = l := rfl
theorem strB_of (s : ByteArray) : strB s.data.toList = s := rfl

/-- One digit. -/
def dg (x : Nat) : UInt8 := UInt8.ofNat (48 + x % 10)
theorem dg_nat (x : Nat) : (dg x).toNat = 48 + x % 10 := by
  unfold dg; rw [UInt8.toNat_ofNat_of_lt']; show 48 + x % 10 < 256; omega
theorem dg_zero {x : Nat} : dg x = 48 ↔ x % 10 = 0 := by
  constructor
  · intro h
    have := congrArg UInt8.toNat h
    rw [dg_nat] at this
    have h48 : (48 : UInt8).toNat = 48 := rfl
    omega
  · intro h; unfold dg; rw [h]; rfl
/-- Nine digits of a number below 1000000000. -/
def nine (r : Nat) : List UInt8 := [dg (r / 100000000), dg (r / 10000000), dg (r / 1000000), dg (r / 100000), dg (r / 10000), dg (r / 1000), dg (r / 100), dg (r / 10), dg r]
theorem nine_len (r : Nat) : (nine r).length = 9 := rfl
theorem dec_step {u : Nat} (h : 10 ≤ u) : Lib.decDigits u = Lib.decDigits (u / 10) ++ [dg u] := by
  rw [Lib.decDigits, dif_neg (by omega)]; rfl
theorem dec_one {u : Nat} (h : u < 10) : Lib.decDigits u = [dg u] := by
  rw [Lib.decDigits, dif_pos h]; unfold dg; rw [Nat.mod_eq_of_lt h]
theorem dg_congr {x y : Nat} (h : x % 10 = y % 10) : dg x = dg y := by unfold dg; rw [h]
theorem dec_nine {r : Nat} (h : r < 1000000000) : Lib.decDigits (1000000000 + r) = 49 :: nine r := by
  rw [dec_step (by omega), dec_step (by omega), dec_step (by omega), dec_step (by omega), dec_step (by omega), dec_step (by omega), dec_step (by omega), dec_step (by omega), dec_step (by omega), dec_one (by omega)]
  simp only [List.cons_append, List.nil_append, Nat.div_div_eq_div_mul]
  unfold nine
  have e0 : dg ((1000000000 + r) / (10 * 10 * 10 * 10 * 10 * 10 * 10 * 10 * 10)) = 49 := by
    unfold dg; rw [show (1000000000 + r) / (10 * 10 * 10 * 10 * 10 * 10 * 10 * 10 * 10) % 10 = 1 by omega]; rfl
  rw [e0]
  congr 1
  refine List.cons_eq_cons.2 ⟨dg_congr (by omega), ?_⟩
  refine List.cons_eq_cons.2 ⟨dg_congr (by omega), ?_⟩
  refine List.cons_eq_cons.2 ⟨dg_congr (by omega), ?_⟩
  refine List.cons_eq_cons.2 ⟨dg_congr (by omega), ?_⟩
  refine List.cons_eq_cons.2 ⟨dg_congr (by omega), ?_⟩
  refine List.cons_eq_cons.2 ⟨dg_congr (by omega), ?_⟩
  refine List.cons_eq_cons.2 ⟨dg_congr (by omega), ?_⟩
  refine List.cons_eq_cons.2 ⟨dg_congr (by omega), ?_⟩
  exact List.cons_eq_cons.2 ⟨dg_congr (by omega), rfl⟩
/-- Not all of nine digits are 0, but of 0. -/
theorem nine_some {r : Nat} (h : r < 1000000000) (h0 : 0 < r) : ¬ ∀ i, i < 9 → (nine r)[i]? = some 48 := by
  intro hall
  have g := fun i (hi : i < 9) => hall i hi
  have g0 := g 0 (by omega)
  have g1 := g 1 (by omega)
  have g2 := g 2 (by omega)
  have g3 := g 3 (by omega)
  have g4 := g 4 (by omega)
  have g5 := g 5 (by omega)
  have g6 := g 6 (by omega)
  have g7 := g 7 (by omega)
  have g8 := g 8 (by omega)
  simp only [nine, List.getElem?_cons_zero, List.getElem?_cons_succ, Option.some.injEq, dg_zero] at g0 g1 g2 g3 g4 g5 g6 g7 g8
  omega

/-- The text of a number of billionths from 0 on. -/
def coordP (u : Nat) : List UInt8 := Lib.decDigits (u / 1000000000) ++ (if u % 1000000000 = 0 then [] else 46 :: Lib.trimRightB (nine (u % 1000000000)) 48)
/-- The text of a coordinate. -/
def coordT (n : Int) : List UInt8 := if n < 0 then 45 :: coordP n.natAbs else coordP n.toNat
theorem coordP_zero {u : Nat} (h : u % 1000000000 = 0) : coordP u = Lib.decDigits (u / 1000000000) := by unfold coordP; rw [if_pos h, List.append_nil]
theorem coordP_part {u : Nat} (h : ¬ u % 1000000000 = 0) : coordP u = Lib.decDigits (u / 1000000000) ++ 46 :: Lib.trimRightB (nine (u % 1000000000)) 48 := by unfold coordP; rw [if_neg h]
theorem decD_len {u : Nat} {k : Nat} (hk : 1 ≤ k) (h : u < 10 ^ k) : (Lib.decDigits u).length ≤ k := by
  rw [Lib.decDigits_length]
  rcases Nat.lt_or_ge k (Lib.nDigits u) with h1 | h1
  · exfalso
    have h2 : 10 ^ (Lib.nDigits u - 1) ≤ u ∨ Lib.nDigits u = 1 := by
      clear h h1 hk
      induction u using Nat.strongRecOn with
      | _ u ih =>
        by_cases h : u < 10
        · exact Or.inr (Lib.nDigits_small h)
        · rw [Lib.nDigits_big h, Nat.add_sub_cancel]
          rcases ih (u / 10) (by omega) with h3 | h3
          · left
            obtain ⟨m, hm⟩ : ∃ m, Lib.nDigits (u / 10) = m + 1 := ⟨Lib.nDigits (u / 10) - 1, by have := Lib.nDigits_pos (u / 10); omega⟩
            rw [hm] at h3 ⊢
            rw [Nat.add_sub_cancel] at h3
            rw [Nat.pow_succ]; omega
          · left
            rw [h3]; simp; omega
    rcases h2 with h2 | h2
    · have h3 : 10 ^ k ≤ 10 ^ (Lib.nDigits u - 1) := Nat.pow_le_pow_right (by decide) (by omega)
      omega
    · omega
  · exact h1
theorem trim_len (l : List UInt8) (c : UInt8) : (Lib.trimRightB l c).length ≤ l.length := by
  unfold Lib.trimRightB
  rw [List.length_reverse]
  have := (List.dropWhile_suffix (l := l.reverse) (· == c)).length_le
  rw [List.length_reverse] at this
  exact this

/-- The byte at a place of a string, by the list of its bytes. -/
theorem byte_at {D : ByteArray} {l : List UInt8} (h : D.data.toList = l) {i : Nat} (hi : i < D.size) : l[i]? = some D[i] := by
  subst h
  have hi' : i < D.data.size := hi
  rw [Array.getElem?_toList, Array.getElem?_eq_getElem hi']
  rfl
theorem byte_48 {b : UInt8} (h : ((b.toNat : Int) == 48) = true) : b = 48 := by
  have h1 : b.toNat = 48 := by have := beq_iff_eq.1 h; omega
  exact UInt8.toNat_inj.1 (by rw [h1]; rfl)
theorem byte_not48 {b : UInt8} (h : ((b.toNat : Int) == 48) = false) : b ≠ 48 := by
  rintro rfl
  exact absurd h (by decide)
theorem trim_nine {D : ByteArray} {r k : Nat} (h : D.data.toList = nine r) (_hk1 : 1 ≤ k) (hk : k ≤ 9) (hO : ∀ j, k ≤ j → j < 9 → (nine r)[j]? = some 48) {b : UInt8} (hb : (nine r)[k - 1]? = some b) (hn : b ≠ 48) : D.extract 0 k = strB (Lib.trimRightB (nine r) 48) := by
  rw [Lib.extract_upto, h, Lib.trimRightB_take (nine r) 48 k (by rw [nine_len]; exact hk) (fun j c hj hc => ?_) (fun c h0 hc => ?_)]
  · rfl
  · have hj9 : j < 9 := by
      rcases Nat.lt_or_ge j 9 with h1 | h1
      · exact h1
      · rw [List.getElem?_eq_none (by rw [nine_len]; exact h1)] at hc; cases hc
    rw [hO j hj hj9] at hc
    exact (Option.some.inj hc).symm
  · rw [hb] at hc
    rw [← Option.some.inj hc]; exact hn

end Go.Proofs.YtlhiahhpmjiioadGreatDoor
