/-
  Plain facts: a text cut at its runes that are blanks is the text cut at its bytes that are blanks. No program is walked here. No condition.
-/
import Derived.Test.YtbkfjebmpccbladDoorPshP
import Derived.Lib.FieldsP
namespace Go.Proofs.YtbkfjebmpccbladDoor
open Go.RowKit Go.Lib

theorem words_nilp (r : List UInt8) : wordsM (32 :: r) = wordsM r := by
  have := cutL_at 32 [] r (by simp)
  unfold wordsM
  rw [List.nil_append] at this
  rw [this]; simp
theorem words_whole {p : List UInt8} (h : ∀ b ∈ p, b ≠ 32) : wordsM p = if p = [] then [] else [p] := by
  unfold wordsM
  rw [cutL_none 32 p h]
  by_cases h0 : p = []
  · subst h0; simp
  · rw [if_neg h0]
    cases p with
    | nil => exact absurd rfl h0
    | cons b p => simp
theorem dec_is (n b0 b1 b2 b3 : Nat) (h : (decodeN n b0 b1 b2 b3).1 = 32) : b0 = 32 ∧ (decodeN n b0 b1 b2 b3).2 = 1 := by
  unfold decodeN at h ⊢
  repeat' split at h
  all_goals first
    | (exfalso; simp only at h; omega)
    | (simp only at h; subst h; exact ⟨rfl, by simp⟩)
theorem dec_not (n b0 b1 b2 b3 : Nat) (h : (decodeN n b0 b1 b2 b3).1 ≠ 32) : b0 ≠ 32 ∧ (2 ≤ (decodeN n b0 b1 b2 b3).2 → b1 ≠ 32) ∧ (3 ≤ (decodeN n b0 b1 b2 b3).2 → b2 ≠ 32) ∧ (4 ≤ (decodeN n b0 b1 b2 b3).2 → b3 ≠ 32) ∧ (decodeN n b0 b1 b2 b3).2 ≤ 4 := by
  unfold decodeN at h ⊢
  repeat' split
  all_goals (simp only at *; try omega)
  all_goals (refine ⟨by rintro rfl; simp_all, by omega, by omega, by omega, by omega⟩)
theorem get_at {s : ByteArray} {i : Nat} (hi : i < s.size) : s.data.toList[i]? = some (s.get! i) := by
  have hi' : i < s.data.size := hi
  rw [Array.getElem?_toList, Array.getElem?_eq_getElem hi']
  show _ = some (s.data[i]!)
  rw [getElem!_pos s.data i hi']
theorem nat_32 {b : UInt8} : b.toNat = 32 ↔ b = 32 := ⟨fun h => UInt8.toNat_inj.1 (by rw [h]; rfl), fun h => by subst h; rfl⟩
theorem rune_is {s : ByteArray} {pos : Nat} (h : pos < s.size) (hr : (Utf8.decode s pos).1 = 32) : s.data.toList.drop pos = 32 :: s.data.toList.drop (pos + 1) ∧ (Utf8.decode s pos).2 = 1 := by
  rw [decode_at] at hr ⊢
  obtain ⟨h1, h2⟩ := dec_is _ _ _ _ _ hr
  refine ⟨?_, h2⟩
  have hl : pos < s.data.toList.length := by rw [← size_eq]; exact h
  have := get_at h
  rw [nat_32.1 h1, List.getElem?_eq_getElem hl] at this
  rw [List.drop_eq_getElem_cons hl, Option.some.inj this]
theorem rune_fits {s : ByteArray} {pos : Nat} (h : pos < s.size) : pos + (Utf8.decode s pos).2 ≤ s.size := by
  have := decodeN_le_n' (s.size - pos) (s.get! pos).toNat (s.get! (pos + 1)).toNat (s.get! (pos + 2)).toNat (s.get! (pos + 3)).toNat (by omega)
  rw [← decode_at] at this
  omega
theorem rune_not {s : ByteArray} {pos : Nat} (h : pos < s.size) (hr : (Utf8.decode s pos).1 ≠ 32) : ∀ b ∈ (s.data.toList.drop pos).take (Utf8.decode s pos).2, b ≠ 32 := by
  have hf := rune_fits h
  rw [decode_at] at hr hf ⊢
  obtain ⟨h0, h1, h2, h3, h4⟩ := dec_not _ _ _ _ _ hr
  obtain ⟨k, hk⟩ : ∃ k, (decodeN (s.size - pos) (s.get! pos).toNat (s.get! (pos + 1)).toNat (s.get! (pos + 2)).toNat (s.get! (pos + 3)).toNat).2 = k := ⟨_, rfl⟩
  rw [hk] at h1 h2 h3 h4 hf ⊢
  clear hr hk
  intro b hb hb32
  subst hb32
  obtain ⟨i, hi⟩ := List.getElem?_of_mem hb
  rw [List.getElem?_take] at hi
  split at hi
  · rename_i hik
    rw [List.getElem?_drop, get_at (by omega)] at hi
    have hi := nat_32.2 (Option.some.inj hi)
    rcases (by omega : i = 0 ∨ i = 1 ∨ i = 2 ∨ i = 3) with rfl | rfl | rfl | rfl
    · exact h0 hi
    · exact h1 (by omega) hi
    · exact h2 (by omega) hi
    · exact h3 (by omega) hi
  · cases hi

theorem words_spans (s : ByteArray) : ∀ (f pos : Nat) (st : Option Nat) (acc : List (Nat × Nat)), s.size ≤ pos + f → pos ≤ s.size → (∀ a, st = some a → a < pos) → (∀ b ∈ openPiece s.data.toList st pos, b ≠ 32) →
    acc.map (fun p => pieceU s.data.toList p.1 p.2) ++ wordsM (openPiece s.data.toList st pos ++ s.data.toList.drop pos) = (closeSpans s (spansFromP (fun r => r == 32) s f pos st acc)).map (fun p => pieceU s.data.toList p.1 p.2)
  | 0, pos, st, acc, h, hp, hst, hno => by
    obtain rfl : pos = s.size := by omega
    have hd : s.data.toList.drop s.size = [] := List.drop_eq_nil_of_le (by rw [← size_eq]; exact Nat.le_refl _)
    rw [hd, List.append_nil, words_whole hno]
    cases st with
    | none => simp [spansFromP, closeSpans, openPiece]
    | some a =>
      have := pieceU_ne s.data.toList a s.size (hst a rfl) (by rw [← size_eq]; exact Nat.le_refl _)
      simp [spansFromP, closeSpans, openPiece, this]
  | f + 1, pos, st, acc, h, hp, hst, hno => by
    by_cases hlt : pos < s.size
    · have hw := width_pos s pos
      have hwn := rune_fits hlt
      simp only [spansFromP, if_pos hlt]
      by_cases hsp : (Utf8.decode s pos).1 = 32
      · obtain ⟨hd, h1⟩ := rune_is hlt hsp
        have hsp' : ((Utf8.decode s pos).1 == 32) = true := by rw [hsp]; rfl
        simp only [hsp', if_true]
        rw [hd, h1]
        rw [h1] at hwn
        cases st with
        | none =>
          have ih := words_spans s f (pos + 1) none acc (by omega) hwn (fun a h => by cases h) (by simp [openPiece])
          simp only [openPiece, List.nil_append] at ih ⊢
          rw [words_nilp]; exact ih
        | some a =>
          have hpn := pieceU_ne s.data.toList a pos (hst a rfl) (by rw [← size_eq]; omega)
          have ih := words_spans s f (pos + 1) none (acc ++ [(a, pos)]) (by omega) hwn (fun a h => by cases h) (by simp [openPiece])
          simp only [openPiece, List.nil_append, List.map_append, List.map_cons, List.map_nil] at ih hno ⊢
          rw [words_at hpn hno, ← ih]; simp
      · have hb := rune_not hlt hsp
        have hsp' : ((Utf8.decode s pos).1 == 32) = false := by rw [beq_eq_false_iff_ne]; exact hsp
        simp only [hsp', Bool.false_eq_true, if_false]
        have hsplit : s.data.toList.drop pos = (s.data.toList.drop pos).take (Utf8.decode s pos).2 ++ s.data.toList.drop (pos + (Utf8.decode s pos).2) := by
          conv => lhs; rw [← List.take_append_drop (Utf8.decode s pos).2 (s.data.toList.drop pos)]
          rw [List.drop_drop]
        rw [hsplit]
        cases st with
        | none =>
          have e : (s.data.toList.drop pos).take (Utf8.decode s pos).2 = pieceU s.data.toList pos (pos + (Utf8.decode s pos).2) := by
            unfold pieceU
            rw [Nat.add_sub_cancel_left]
          rw [e] at hb
          have ih := words_spans s f (pos + (Utf8.decode s pos).2) (some pos) acc (by omega) hwn (fun a h => by cases h; omega) (by simpa only [openPiece] using hb)
          simp only [openPiece, List.nil_append] at ih ⊢
          rw [e]
          exact ih
        | some a =>
          have ih := words_spans s f (pos + (Utf8.decode s pos).2) (some a) acc (by omega) hwn (fun b h => by cases h; have := hst a rfl; omega) (by
            simp only [openPiece] at hno ⊢
            rw [← pieceU_grow _ _ _ _ (Nat.le_of_lt (hst a rfl))]
            intro b hm
            rcases List.mem_append.1 hm with hm | hm
            · exact hno b hm
            · exact hb b hm)
          simp only [openPiece] at ih ⊢
          rw [← List.append_assoc, pieceU_grow _ _ _ _ (Nat.le_of_lt (hst a rfl))]
          exact ih
    · obtain rfl : pos = s.size := by omega
      have hd : s.data.toList.drop s.size = [] := List.drop_eq_nil_of_le (by rw [← size_eq]; exact Nat.le_refl _)
      rw [hd, List.append_nil, words_whole hno, spansFromP_end _ s _ _ _ _ hlt]
      cases st with
      | none => simp [closeSpans, openPiece]
      | some a =>
        have := pieceU_ne s.data.toList a s.size (hst a rfl) (by rw [← size_eq]; exact Nat.le_refl _)
        simp [closeSpans, openPiece, this]

theorem fields_words (l : List UInt8) : goFieldsP (fun r => r == 32) (strB l) = (wordsM l).map strB := by
  have h := words_spans (strB l) (strB l).size 0 none [] (by omega) (Nat.zero_le _) (fun a h => by cases h) (by simp [openPiece])
  simp only [List.map_nil, List.nil_append, openPiece, List.drop_zero, strB_list] at h
  rw [h, List.map_map]
  unfold goFieldsP spansOfP
  congr 1
  funext p
  have := Lib.extract_mk l p.1 p.2
  exact this

end Go.Proofs.YtbkfjebmpccbladDoor
