/-
  Contract of the reader's method coord. Condition: the reader's box holds the text that is left; the text is no longer than two millions.
-/
import Derived.Lib.SmallJoins
import Derived.Test.YtbljpeefekhoeaaGreatDoorRdA
namespace Go.Proofs.YtbljpeefekhoeaaGreatDoor
open Go.RowKit

theorem takeR_eq (c : UInt8) (l : List UInt8) : takeR c l = (Lib.hasPrefix l [c], Lib.trimPrefix l [c]) := by
  cases l with
  | nil => rfl
  | cons b r =>
    by_cases h : b = c
    · subst h
      rw [takeR_yes rfl]
      simp [Lib.trimPrefix, Lib.hasPrefix, List.isPrefixOf]
    · rw [takeR_no (by simp [h])]
      have hb : (c == b) = false := by rw [beq_eq_false_iff_ne]; exact fun e => h e.symm
      simp [Lib.trimPrefix, Lib.hasPrefix, List.isPrefixOf, hb]
theorem takesC_any (R : Nat) (l : List UInt8) (c : UInt8) (w : World) (h : Rdr w R l) :
    Calls Tryz.prog 76 #[.pointer (some ⟨R, 0, none⟩), .string ⟨#[c]⟩] w (fun e w' => e = .returned (.bool (takeR c l).1) ∧ Rdr w' R (takeR c l).2 ∧ Kept [R] w w') := by
  rw [takeR_eq]
  exact takes_any R l [c] w h
theorem takeR_len (c : UInt8) (l : List UInt8) : (takeR c l).2.length ≤ l.length := by
  unfold takeR
  split
  · simp
  · exact Nat.le_refl _
theorem ParseInt_digits (l : List UInt8) (w : World) (h : ∀ b ∈ l, isD b = true) (h0 : l ≠ []) (hl : l.length ≤ 18) :
    Calls Tryz.prog 95 #[.string (strB l), .int .i64 10, .int .i64 64] w (Ans w (.tuple #[.int .i64 (numL l : Int), .nilIface])) := by
  refine (Tryz.strconv_ParseInt_10_at64_ok (strB l) (by rw [strB_size]; omega) (numL l) (parseInt_ok h h0 hl) w).mono ?_
  rintro e w' ⟨rfl, hw⟩
  refine ⟨rfl, ?_⟩
  rcases hw with rfl | ⟨t, rfl⟩
  · exact Kept.refl _ _
  · exact Kept.ofBelow (Joins.below_bytesWorld _ _ _ _ (Nat.le_refl _))
theorem Repeat_zeros (k : Nat) (w : World) (hk : k ≤ 1000) :
    Calls Tryz.prog 21 #[.string ⟨#[48]⟩, .int .i64 (k : Int)] w (Ans w (.string (strB (List.replicate k 48)))) := by
  refine (Tryz.strings_Repeat ⟨#[48]⟩ k w (by omega) (by show 1 * k ≤ _; omega)).mono ?_
  rintro e w' ⟨rfl, hw⟩
  have : Lib.repeatL (⟨#[48]⟩ : ByteArray).data.toList k = List.replicate k 48 := repeat_zeros k
  rw [this]
  exact ⟨rfl, Kept.ofBelow hw⟩

theorem Repeat_nine (w : World) : Calls Tryz.prog 21 #[.string ⟨#[48]⟩, .int .i64 9] w (Ans w (.string (strB (List.replicate 9 48)))) := Repeat_zeros 9 w (by omega)
/-- What coord answers. -/
def CoordP (R : Nat) (l : List UInt8) (w : World) (e : Ending) (w' : World) : Prop :=
  (coordR l = none ∧ Bang [R] w e w') ∨ ∃ v r, coordR l = some (v, r) ∧ e = .returned (.int .i64 v) ∧ Rdr w' R r ∧ Kept [R] w w'
theorem coordR_no6 {l l1 : List UInt8} {b : Bool} (h1 : takeR 45 l = (b, l1)) (h : dLen 6 l1 = 0) : coordR l = none := by
  unfold coordR decR; rw [h1]; simp only [digR_no h]; rfl
theorem coordR_no9 {l l1 l3 : List UInt8} {b : Bool} (h1 : takeR 45 l = (b, l1)) (h : dLen 6 l1 ≠ 0) (h2 : takeR 46 (l1.drop (dLen 6 l1)) = (true, l3)) (h3 : dLen 9 l3 = 0) : coordR l = none := by
  unfold coordR decR; rw [h1]; simp only [digR_yes h, Option.bind_some, h2, if_true, digR_no h3]; rfl
theorem coordR_part {l l1 l3 : List UInt8} {b : Bool} (h1 : takeR 45 l = (b, l1)) (h : dLen 6 l1 ≠ 0) (h2 : takeR 46 (l1.drop (dLen 6 l1)) = (true, l3)) (h3 : dLen 9 l3 ≠ 0) :
    coordR l = some ((if b then -((numL (l1.take (dLen 6 l1) ++ l3.take (dLen 9 l3) ++ List.replicate (9 - (l3.take (dLen 9 l3)).length) 48) : Nat) : Int) else (numL (l1.take (dLen 6 l1) ++ l3.take (dLen 9 l3) ++ List.replicate (9 - (l3.take (dLen 9 l3)).length) 48) : Nat)), l3.drop (dLen 9 l3)) := by
  unfold coordR decR; rw [h1]; simp only [digR_yes h, Option.bind_some, h2, if_true, digR_yes h3]
theorem coordR_whole {l l1 l3 : List UInt8} {b : Bool} (h1 : takeR 45 l = (b, l1)) (h : dLen 6 l1 ≠ 0) (h2 : takeR 46 (l1.drop (dLen 6 l1)) = (false, l3)) :
    coordR l = some ((if b then -((numL (l1.take (dLen 6 l1) ++ [] ++ List.replicate 9 48) : Nat) : Int) else (numL (l1.take (dLen 6 l1) ++ [] ++ List.replicate 9 48) : Nat)), l3) := by
  have h3 : l3 = l1.drop (dLen 6 l1) := by
    have := congrArg Prod.snd h2
    have hf := congrArg Prod.fst h2
    unfold takeR at this hf
    split at hf
    · cases hf
    · rename_i hn; rw [if_neg hn] at this; exact this.symm
  unfold coordR decR; rw [h1]; simp only [digR_yes h, Option.bind_some, h2, Bool.false_eq_true, if_false, h3]
theorem all_app {x y z : List UInt8} (hx : ∀ b ∈ x, isD b = true) (hy : ∀ b ∈ y, isD b = true) (hz : ∀ b ∈ z, isD b = true) : ∀ b ∈ x ++ y ++ z, isD b = true := by
  intro b hb
  rcases List.mem_append.1 hb with hb | hb
  · rcases List.mem_append.1 hb with hb | hb
    · exact hx b hb
    · exact hy b hb
  · exact hz b hb
theorem all_zeros (k : Nat) : ∀ b ∈ List.replicate k (48 : UInt8), isD b = true := by
  intro b hb
  rw [List.eq_of_mem_replicate hb]; decide
theorem bang_kept {R : Nat} {w w1 w2 : World} {e : Ending} (h : Bang [R] w1 e w2) (k : Kept [R] w w1) : Bang [R] w e w2 := ⟨h.1, k.trans h.2 (fun _ hx _ => hx)⟩

set_option maxHeartbeats 400000 in
theorem coord_any (R : Nat) (l : List UInt8) (w : World) (h : Rdr w R l) (hl : l.length ≤ 1500000) :
    Calls Tryz.prog 77 #[.pointer (some ⟨R, 0, none⟩)] w (CoordP R l w) := by
  obtain ⟨b, l1, h1⟩ : ∃ b l1, takeR 45 l = (b, l1) := ⟨_, _, rfl⟩
  have hl1 : l1.length ≤ 1500000 := by have := takeR_len 45 l; rw [h1] at this; simp only at this; omega
  have H := Lib.hid h
  have H1 := Lib.hid h1
  clear h h1
  go_enter Tryz.func77, Tryz.ntmps77
  go_wp2_with fail
  refine (takesC_any _ _ _ _ H.out).mono ?_
  rintro e w1 ⟨rfl, r1, k1⟩
  rw [H1.out] at r1 ⊢
  have R1 := Lib.hid r1
  have K1 := Lib.hid k1
  clear r1 k1
  go_wp2_with fail
  refine (digits_any R 6 l1 _ R1.out (by omega) (by omega)).mono ?_
  rintro e w2 hd
  rcases hd with ⟨h6, ⟨u, x, rfl⟩, k2⟩ | ⟨h6, rfl, r2, k2⟩
  · have K2 := Lib.hid (K1.out.trans k2 (fun _ hx _ => hx))
    have HV := Lib.hid (coordR_no6 H1.out h6)
    clear k2
    go_wp2_with fail
    exact ⟨rfl, .inl ⟨HV.out, ⟨_, _, rfl⟩, K2.out⟩⟩
  have H6 := Lib.hid h6
  have R2 := Lib.hid r2
  have K2 := Lib.hid (K1.out.trans k2 (fun _ hx _ => hx))
  clear h6 r2 k2
  obtain ⟨W, hW⟩ : ∃ W, l1.take (dLen 6 l1) = W := ⟨_, rfl⟩
  have HW := Lib.hid hW
  have hWl : W.length ≤ 6 := by rw [← hW, List.length_take]; have := dLen_le 6 l1; omega
  have hWd : Hid (∀ b ∈ W, isD b = true) := by intro b hb; rw [← hW] at hb; exact dLen_all 6 l1 b hb
  have hW0 : Hid (W ≠ []) := by
    intro e
    have h1 := congrArg List.length (hW.trans e)
    rw [List.length_take] at h1
    have h2 := dLen_le 6 l1
    have h3 := H6.out
    simp at h1
    rcases h1 with h1 | h1
    · exact h3 h1
    · rw [h1] at h3; exact h3 rfl
  have zW : (strB W).size ≤ 6 := by rw [strB_size]; exact hWl
  rw [hW]
  clear hW
  obtain ⟨d, l3, h3⟩ : ∃ d l3, takeR 46 (l1.drop (dLen 6 l1)) = (d, l3) := ⟨_, _, rfl⟩
  have hl3 : l3.length ≤ 1500000 := by
    have := takeR_len 46 (l1.drop (dLen 6 l1))
    rw [h3, List.length_drop] at this
    simp only at this
    omega
  have H3 := Lib.hid h3
  clear h3
  go_wp2_with fail
  refine (takesC_any _ _ _ _ R2.out).mono ?_
  rintro e w3 ⟨rfl, r3, k3⟩
  rw [H3.out] at r3 ⊢
  have R3 := Lib.hid r3
  have K3 := Lib.hid (K2.out.trans k3 (fun _ hx _ => hx))
  clear r3 k3
  cases d
  · have hz := Lib.hid (all_app hWd.out (y := []) (by simp) (all_zeros 9))
    obtain ⟨v, hv⟩ : ∃ v : Nat, numL (W ++ [] ++ List.replicate 9 48) = v := ⟨_, rfl⟩
    have hvl : v < 10 ^ 15 := by rw [← hv]; exact numL_lt hz.out (by simp; omega)
    have HC := Lib.hid (coordR_whole H1.out H6.out H3.out)
    rw [HW.out, hv] at HC
    have HV := Lib.hid hv
    have e1 : strB W ++ ⟨#[]⟩ ++ strB (List.replicate 9 48) = strB (W ++ [] ++ List.replicate 9 48) := by
      rw [show (⟨#[]⟩ : ByteArray) = strB [] from rfl, strB_append, strB_append]
    have hT0 := Lib.hid (show W ++ [] ++ List.replicate 9 48 ≠ [] by intro e; have := congrArg List.length e; simp at this)
    have hTl := Lib.hid (show (W ++ [] ++ List.replicate 9 48).length ≤ 18 by simp; omega)
    have zZ : (strB (List.replicate 9 48)).size ≤ 9 := by rw [strB_size]; simp
    obtain ⟨Wt, hWt⟩ : ∃ T, strB W = T := ⟨_, rfl⟩
    obtain ⟨Zt, hZt⟩ : ∃ T, strB (List.replicate 9 48) = T := ⟨_, rfl⟩
    rw [hWt, hZt] at e1
    rw [hZt] at zZ
    rw [hWt] at zW ⊢
    have E1 := Lib.hid e1
    have HZT := Lib.hid hZt
    have s1 : (⟨#[]⟩ : ByteArray).size = 0 := rfl
    have e2 : IntKind.i64.wrap (-(v : Int)) = -(v : Int) := IntWalk.i64_in _ (by omega)
    clear hv e1 hWt hZt
    go_wp2_with fail
    refine (Repeat_nine _).mono ?_
    rintro e w4 ⟨rfl, k4⟩
    rw [HZT.out]
    have R4 := Lib.hid (R3.out.kept k4 (by simp))
    have K4 := Lib.hid (K3.out.trans0 k4)
    clear k4
    go_wp2_with fail
    rw [E1.out]
    refine (ParseInt_digits _ _ hz.out hT0.out hTl.out).mono ?_
    rintro e w5 ⟨rfl, k5⟩
    rw [HV.out]
    have R5 := Lib.hid (R4.out.kept k5 (by simp))
    have K5 := Lib.hid (K4.out.trans0 k5)
    clear k5
    cases b
    · go_wp2_with fail
      go_ret
      exact .inr ⟨_, _, HC.out, rfl, R5.out, K5.out⟩
    · go_wp2_with fail
      go_ret
      exact .inr ⟨_, _, HC.out, rfl, R5.out, K5.out⟩
  · go_wp2_with fail
    refine (digits_any R 9 l3 _ R3.out (by omega) (by omega)).mono ?_
    rintro e w4 hd
    rcases hd with ⟨h9, ⟨u, x, rfl⟩, k4⟩ | ⟨h9, rfl, r4, k4⟩
    · have K4 := Lib.hid (K3.out.trans k4 (fun _ hx _ => hx))
      have HV := Lib.hid (coordR_no9 H1.out H6.out H3.out h9)
      clear k4
      go_wp2_with fail
      exact ⟨rfl, .inl ⟨HV.out, ⟨_, _, rfl⟩, K4.out⟩⟩
    have HC := Lib.hid (coordR_part H1.out H6.out H3.out h9)
    have R4 := Lib.hid r4
    have K4 := Lib.hid (K3.out.trans k4 (fun _ hx _ => hx))
    clear r4 k4
    obtain ⟨P, hP⟩ : ∃ P, l3.take (dLen 9 l3) = P := ⟨_, rfl⟩
    have hPl : P.length ≤ 9 := by rw [← hP, List.length_take]; have := dLen_le 9 l3; omega
    have hPd : Hid (∀ b ∈ P, isD b = true) := by intro b hb; rw [← hP] at hb; exact dLen_all 9 l3 b hb
    rw [hP] at HC ⊢
    rw [HW.out] at HC
    clear hP h9
    obtain ⟨K, hK⟩ : ∃ K, K = 9 - P.length := ⟨_, rfl⟩
    rw [← hK] at HC
    have hz := Lib.hid (all_app hWd.out hPd.out (all_zeros K))
    obtain ⟨v, hv⟩ : ∃ v : Nat, numL (W ++ P ++ List.replicate K 48) = v := ⟨_, rfl⟩
    have hvl : v < 10 ^ 15 := by rw [← hv]; exact numL_lt hz.out (by simp; omega)
    rw [hv] at HC
    have HV := Lib.hid hv
    have e1 : strB W ++ strB P ++ strB (List.replicate K 48) = strB (W ++ P ++ List.replicate K 48) := by
      rw [strB_append, strB_append]
    have hT0 := Lib.hid (show W ++ P ++ List.replicate K 48 ≠ [] by intro e; have h1 := congrArg List.length e; have h2 := hW0.out; simp at h1; exact h2 h1.1)
    have hTl := Lib.hid (show (W ++ P ++ List.replicate K 48).length ≤ 18 by simp; omega)
    have zZ : (strB (List.replicate K 48)).size ≤ 9 := by rw [strB_size]; simp; omega
    have zP : (strB P).size = P.length := strB_size P
    obtain ⟨Wt, hWt⟩ : ∃ T, strB W = T := ⟨_, rfl⟩
    obtain ⟨Pt, hPt⟩ : ∃ T, strB P = T := ⟨_, rfl⟩
    obtain ⟨Zt, hZt⟩ : ∃ T, strB (List.replicate K 48) = T := ⟨_, rfl⟩
    rw [hWt, hPt, hZt] at e1
    rw [hZt] at zZ
    rw [hPt] at zP ⊢
    rw [hWt] at zW ⊢
    have E1 := Lib.hid e1
    have HZT := Lib.hid hZt
    have e3 : IntKind.i64.wrap (9 - (Pt.size : Int)) = (K : Int) := by rw [IntWalk.i64_in _ (by omega)]; omega
    have e4 : 9 - (Pt.size : Int) = (K : Int) := by omega
    have e2 : IntKind.i64.wrap (-(v : Int)) = -(v : Int) := IntWalk.i64_in _ (by omega)
    have hPt9 : Pt.size ≤ 9 := by omega
    have hK9 : K ≤ 9 := by omega
    clear hv e1 hWt hZt hPt hK zP
    go_wp2_with fail
    refine (Repeat_zeros K _ (by omega)).mono ?_
    rintro e w5 ⟨rfl, k5⟩
    rw [HZT.out]
    have R5 := Lib.hid (R4.out.kept k5 (by simp))
    have K5 := Lib.hid (K4.out.trans0 k5)
    clear k5
    go_wp2_with fail
    rw [E1.out]
    refine (ParseInt_digits _ _ hz.out hT0.out hTl.out).mono ?_
    rintro e w6 ⟨rfl, k6⟩
    rw [HV.out]
    have R6 := Lib.hid (R5.out.kept k6 (by simp))
    have K6 := Lib.hid (K5.out.trans0 k6)
    clear k6
    cases b
    · go_wp2_with fail
      go_ret
      exact .inr ⟨_, _, HC.out, rfl, R6.out, K6.out⟩
    · go_wp2_with fail
      go_ret
      exact .inr ⟨_, _, HC.out, rfl, R6.out, K6.out⟩

end Go.Proofs.YtbljpeefekhoeaaGreatDoor
