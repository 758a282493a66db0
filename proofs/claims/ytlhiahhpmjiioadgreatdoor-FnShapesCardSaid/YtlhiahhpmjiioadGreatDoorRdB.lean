/-
  Contracts of the reader's methods decimal, coord and metres. Condition: the reader's box holds the text that is left; the text is no longer than two millions.
-/
import Derived.Lib.SmallJoins
import Derived.Test.YtlhiahhpmjiioadGreatDoorRdA
import Derived.Test.YtlhiahhpmjiioadGreatDoorRmP
namespace Go.Proofs.YtlhiahhpmjiioadGreatDoor
open Go.RowKit

theorem takeR_eq (c : UInt8) (l : List UInt8) : takeR c l = (Lib.hasPrefix l [c], Lib.trimPrefix l [c]) := by
  cases l with
  | nil => rfl
  | cons b r =>
    by_cases h : b = c
    · subst h
      rw [takeR_yes rfl]
      simp [Lib.trimPrefix, Lib.hasPrefix, List.isPrefixOf]
    · rw [takeR_no (by simp [h])]
      have hb : (c == b) = false := by rw [beq_eq_false_iff_ne]; exact fun e => h e.symm
      simp [Lib.trimPrefix, Lib.hasPrefix, List.isPrefixOf, hb]
theorem takesC_any (R : Nat) (l : List UInt8) (c : UInt8) (w : World) (h : Rdr w R l) :
    Calls Tryz.prog 78 #[.pointer (some ⟨R, 0, none⟩), .string ⟨#[c]⟩] w (fun e w' => e = .returned (.bool (takeR c l).1) ∧ Rdr w' R (takeR c l).2 ∧ Kept [R] w w') := by
  rw [takeR_eq]
  exact takes_any R l [c] w h
theorem takeR_len (c : UInt8) (l : List UInt8) : (takeR c l).2.length ≤ l.length := by
  unfold takeR
  split
  · simp
  · exact Nat.le_refl _
theorem ParseInt_digits (l : List UInt8) (w : World) (h : ∀ b ∈ l, isD b = true) (h0 : l ≠ []) (hl : l.length ≤ 18) :
    Calls Tryz.prog 105 #[.string (strB l), .int .i64 10, .int .i64 64] w (Ans w (.tuple #[.int .i64 (numL l : Int), .nilIface])) := by
  refine (Tryz.strconv_ParseInt_10_at64_ok (strB l) (by rw [strB_size]; omega) (numL l) (parseInt_ok h h0 hl) w).mono ?_
  rintro e w' ⟨rfl, hw⟩
  refine ⟨rfl, ?_⟩
  rcases hw with rfl | ⟨t, rfl⟩
  · exact Kept.refl _ _
  · exact Kept.ofBelow (Joins.below_bytesWorld _ _ _ _ (Nat.le_refl _))
theorem Repeat_zeros (k : Nat) (w : World) (hk : k ≤ 1000) :
    Calls Tryz.prog 21 #[.string ⟨#[48]⟩, .int .i64 (k : Int)] w (Ans w (.string (strB (List.replicate k 48)))) := by
  refine (Tryz.strings_Repeat ⟨#[48]⟩ k w (by omega) (by show 1 * k ≤ _; omega)).mono ?_
  rintro e w' ⟨rfl, hw⟩
  have : Lib.repeatL (⟨#[48]⟩ : ByteArray).data.toList k = List.replicate k 48 := repeat_zeros k
  rw [this]
  exact ⟨rfl, Kept.ofBelow hw⟩

theorem Repeat_nine (w : World) : Calls Tryz.prog 21 #[.string ⟨#[48]⟩, .int .i64 9] w (Ans w (.string (strB (List.replicate 9 48)))) := Repeat_zeros 9 w (by omega)
/-- What decimal answers. -/
def DecRP (R m p : Nat) (l : List UInt8) (w : World) (e : Ending) (w' : World) : Prop :=
  (decR m p l = none ∧ Bang [R] w e w') ∨ ∃ (v : Nat) (r : List UInt8), decR m p l = some (v, r) ∧ v < 1000000000000000000 ∧ e = .returned (.int .i64 (v : Int)) ∧ Rdr w' R r ∧ Kept [R] w w'
theorem decR_noM {m p : Nat} {l : List UInt8} (h : dLen m l = 0) : decR m p l = none := by
  unfold decR; simp only [digR_no h]; rfl
theorem decR_noP {m p : Nat} {l l3 : List UInt8} (h : dLen m l ≠ 0) (h2 : takeR 46 (l.drop (dLen m l)) = (true, l3)) (h3 : dLen p l3 = 0) : decR m p l = none := by
  unfold decR; simp only [digR_yes h, Option.bind_some, h2, if_true, digR_no h3]; rfl
theorem decR_part {m p : Nat} {l l3 : List UInt8} (h : dLen m l ≠ 0) (h2 : takeR 46 (l.drop (dLen m l)) = (true, l3)) (h3 : dLen p l3 ≠ 0) :
    decR m p l = some (numL (l.take (dLen m l) ++ l3.take (dLen p l3) ++ List.replicate (p - (l3.take (dLen p l3)).length) 48), l3.drop (dLen p l3)) := by
  unfold decR; simp only [digR_yes h, Option.bind_some, h2, if_true, digR_yes h3]
theorem decR_whole {m p : Nat} {l l3 : List UInt8} (h : dLen m l ≠ 0) (h2 : takeR 46 (l.drop (dLen m l)) = (false, l3)) :
    decR m p l = some (numL (l.take (dLen m l) ++ [] ++ List.replicate p 48), l3) := by
  have h3 : l3 = l.drop (dLen m l) := by
    have := congrArg Prod.snd h2
    have hf := congrArg Prod.fst h2
    unfold takeR at this hf
    split at hf
    · cases hf
    · rename_i hn; rw [if_neg hn] at this; exact this.symm
  unfold decR; simp only [digR_yes h, Option.bind_some, h2, Bool.false_eq_true, if_false, h3]
theorem all_app {x y z : List UInt8} (hx : ∀ b ∈ x, isD b = true) (hy : ∀ b ∈ y, isD b = true) (hz : ∀ b ∈ z, isD b = true) : ∀ b ∈ x ++ y ++ z, isD b = true := by
  intro b hb
  rcases List.mem_append.1 hb with hb | hb
  · rcases List.mem_append.1 hb with hb | hb
    · exact hx b hb
    · exact hy b hb
  · exact hz b hb
theorem all_zeros (k : Nat) : ∀ b ∈ List.replicate k (48 : UInt8), isD b = true := by
  intro b hb
  rw [List.eq_of_mem_replicate hb]; decide
theorem bang_kept {R : Nat} {w w1 w2 : World} {e : Ending} (h : Bang [R] w1 e w2) (k : Kept [R] w w1) : Bang [R] w e w2 := ⟨h.1, k.trans h.2 (fun _ hx _ => hx)⟩

set_option maxHeartbeats 400000 in
set_option maxRecDepth 20000 in
theorem decimal_any (R m p : Nat) (l : List UInt8) (w : World) (h : Rdr w R l) (hl : l.length ≤ 1500000) (hm : 1 ≤ m) (hp : 1 ≤ p) (hmp : m + p ≤ 18) :
    Calls Tryz.prog 94 #[.pointer (some ⟨R, 0, none⟩), .int .i64 (m : Int), .int .i64 (p : Int)] w (DecRP R m p l w) := by
  have H := Lib.hid h
  have hpp : p ≤ 17 := by omega
  clear h
  go_enter Tryz.func94, Tryz.ntmps94
  go_wp2_with fail
  refine (digits_any R m l _ H.out (by omega) (by omega)).mono ?_
  rintro e w2 hd
  rcases hd with ⟨h6, ⟨u, x, rfl⟩, k2⟩ | ⟨h6, rfl, r2, k2⟩
  · have HV := Lib.hid (decR_noM (p := p) h6)
    have K2 := Lib.hid k2
    clear k2
    go_wp2_with fail
    exact ⟨rfl, .inl ⟨HV.out, ⟨_, _, rfl⟩, K2.out⟩⟩
  have H6 := Lib.hid h6
  have R2 := Lib.hid r2
  have K2 := Lib.hid k2
  clear h6 r2 k2
  obtain ⟨W, hW⟩ : ∃ W, l.take (dLen m l) = W := ⟨_, rfl⟩
  have HW := Lib.hid hW
  have hWl : W.length ≤ m := by rw [← hW, List.length_take]; have := dLen_le m l; omega
  have hWd : Hid (∀ b ∈ W, isD b = true) := by intro b hb; rw [← hW] at hb; exact dLen_all m l b hb
  have hW0 : Hid (W ≠ []) := by
    intro e
    have h1 := congrArg List.length (hW.trans e)
    rw [List.length_take] at h1
    have h2 := dLen_le m l
    have h3 := H6.out
    simp at h1
    rcases h1 with h1 | h1
    · exact h3 h1
    · rw [h1] at h3; exact h3 (by cases m <;> rfl)
  have zW : (strB W).size ≤ 18 := by rw [strB_size]; omega
  rw [hW]
  clear hW
  obtain ⟨d, l3, h3⟩ : ∃ d l3, takeR 46 (l.drop (dLen m l)) = (d, l3) := ⟨_, _, rfl⟩
  have hl3 : l3.length ≤ 1500000 := by
    have := takeR_len 46 (l.drop (dLen m l))
    rw [h3, List.length_drop] at this
    simp only at this
    omega
  have H3 := Lib.hid h3
  clear h3
  go_wp2_with fail
  refine (takesC_any _ _ _ _ R2.out).mono ?_
  rintro e w3 ⟨rfl, r3, k3⟩
  rw [H3.out] at r3 ⊢
  have R3 := Lib.hid r3
  have K3 := Lib.hid (K2.out.trans k3 (fun _ hx _ => hx))
  clear r3 k3
  cases d
  · have hz := Lib.hid (all_app hWd.out (y := []) (by simp) (all_zeros p))
    obtain ⟨v, hv⟩ : ∃ v : Nat, numL (W ++ [] ++ List.replicate p 48) = v := ⟨_, rfl⟩
    have hvl : v < 10 ^ 18 := by rw [← hv]; exact numL_lt hz.out (by simp; omega)
    have HC := Lib.hid (decR_whole (p := p) H6.out H3.out)
    rw [HW.out, hv] at HC
    have HV := Lib.hid hv
    have e1 : strB W ++ ⟨#[]⟩ ++ strB (List.replicate p 48) = strB (W ++ [] ++ List.replicate p 48) := by
      rw [show (⟨#[]⟩ : ByteArray) = strB [] from rfl, strB_append, strB_append]
    have hT0 := Lib.hid (show W ++ [] ++ List.replicate p 48 ≠ [] by intro e; have := congrArg List.length e; simp at this; omega)
    have hTl := Lib.hid (show (W ++ [] ++ List.replicate p 48).length ≤ 18 by simp; omega)
    have zZ : (strB (List.replicate p 48)).size ≤ 17 := by rw [strB_size]; simp; omega
    obtain ⟨Wt, hWt⟩ : ∃ T, strB W = T := ⟨_, rfl⟩
    obtain ⟨Zt, hZt⟩ : ∃ T, strB (List.replicate p 48) = T := ⟨_, rfl⟩
    rw [hWt, hZt] at e1
    rw [hZt] at zZ
    rw [hWt] at zW ⊢
    have E1 := Lib.hid e1
    have HZT := Lib.hid hZt
    have s1 : (⟨#[]⟩ : ByteArray).size = 0 := rfl
    have e3 : IntKind.i64.wrap ((p : Int) - 0) = (p : Int) := by rw [IntWalk.i64_in _ (by omega)]; omega
    have e4 : IntKind.i64.wrap (p : Int) = (p : Int) := IntWalk.i64_in _ (by omega)
    have HL := Lib.hid (show v < 1000000000000000000 from hvl)
    clear hv e1 hWt hZt hvl
    go_wp2_with fail
    refine (Repeat_zeros p _ (by omega)).mono ?_
    rintro e w4 ⟨rfl, k4⟩
    rw [HZT.out]
    have R4 := Lib.hid (R3.out.kept k4 (by simp))
    have K4 := Lib.hid (K3.out.trans0 k4)
    clear k4
    go_wp2_with fail
    rw [E1.out]
    refine (ParseInt_digits _ _ hz.out hT0.out hTl.out).mono ?_
    rintro e w5 ⟨rfl, k5⟩
    rw [HV.out]
    have R5 := Lib.hid (R4.out.kept k5 (by simp))
    have K5 := Lib.hid (K4.out.trans0 k5)
    clear k5
    go_wp2_with fail
    go_ret
    exact .inr ⟨_, _, HC.out, HL.out, rfl, R5.out, K5.out⟩
  · go_wp2_with fail
    refine (digits_any R p l3 _ R3.out (by omega) (by omega)).mono ?_
    rintro e w4 hd
    rcases hd with ⟨h9, ⟨u, x, rfl⟩, k4⟩ | ⟨h9, rfl, r4, k4⟩
    · have K4 := Lib.hid (K3.out.trans k4 (fun _ hx _ => hx))
      have HV := Lib.hid (decR_noP H6.out H3.out h9)
      clear k4
      go_wp2_with fail
      exact ⟨rfl, .inl ⟨HV.out, ⟨_, _, rfl⟩, K4.out⟩⟩
    have HC := Lib.hid (decR_part H6.out H3.out h9)
    have R4 := Lib.hid r4
    have K4 := Lib.hid (K3.out.trans k4 (fun _ hx _ => hx))
    clear r4 k4
    obtain ⟨P, hP⟩ : ∃ P, l3.take (dLen p l3) = P := ⟨_, rfl⟩
    have hPl : P.length ≤ p := by rw [← hP, List.length_take]; have := dLen_le p l3; omega
    have hPd : Hid (∀ b ∈ P, isD b = true) := by intro b hb; rw [← hP] at hb; exact dLen_all p l3 b hb
    rw [hP] at HC ⊢
    rw [HW.out] at HC
    clear hP h9
    obtain ⟨K, hK⟩ : ∃ K, K = p - P.length := ⟨_, rfl⟩
    rw [← hK] at HC
    have hz := Lib.hid (all_app hWd.out hPd.out (all_zeros K))
    obtain ⟨v, hv⟩ : ∃ v : Nat, numL (W ++ P ++ List.replicate K 48) = v := ⟨_, rfl⟩
    have hvl : v < 10 ^ 18 := by rw [← hv]; exact numL_lt hz.out (by simp; omega)
    rw [hv] at HC
    have HV := Lib.hid hv
    have e1 : strB W ++ strB P ++ strB (List.replicate K 48) = strB (W ++ P ++ List.replicate K 48) := by
      rw [strB_append, strB_append]
    have hT0 := Lib.hid (show W ++ P ++ List.replicate K 48 ≠ [] by intro e; have h1 := congrArg List.length e; have h2 := hW0.out; simp at h1; exact h2 h1.1)
    have hTl := Lib.hid (show (W ++ P ++ List.replicate K 48).length ≤ 18 by simp; omega)
    have zZ : (strB (List.replicate K 48)).size ≤ 17 := by rw [strB_size]; simp; omega
    have zP : (strB P).size = P.length := strB_size P
    obtain ⟨Wt, hWt⟩ : ∃ T, strB W = T := ⟨_, rfl⟩
    obtain ⟨Pt, hPt⟩ : ∃ T, strB P = T := ⟨_, rfl⟩
    obtain ⟨Zt, hZt⟩ : ∃ T, strB (List.replicate K 48) = T := ⟨_, rfl⟩
    rw [hWt, hPt, hZt] at e1
    rw [hZt] at zZ
    rw [hPt] at zP ⊢
    rw [hWt] at zW ⊢
    have E1 := Lib.hid e1
    have HZT := Lib.hid hZt
    have e3 : IntKind.i64.wrap ((p : Int) - (Pt.size : Int)) = (K : Int) := by rw [IntWalk.i64_in _ (by omega)]; omega
    have e4 : (p : Int) - (Pt.size : Int) = (K : Int) := by omega
    have hPt9 : Pt.size ≤ 17 := by omega
    have hK9 : K ≤ 17 := by omega
    have HL := Lib.hid (show v < 1000000000000000000 from hvl)
    clear hv e1 hWt hZt hPt hK zP hvl
    go_wp2_with fail
    refine (Repeat_zeros K _ (by omega)).mono ?_
    rintro e w5 ⟨rfl, k5⟩
    rw [HZT.out]
    have R5 := Lib.hid (R4.out.kept k5 (by simp))
    have K5 := Lib.hid (K4.out.trans0 k5)
    clear k5
    go_wp2_with fail
    rw [E1.out]
    refine (ParseInt_digits _ _ hz.out hT0.out hTl.out).mono ?_
    rintro e w6 ⟨rfl, k6⟩
    rw [HV.out]
    have R6 := Lib.hid (R5.out.kept k6 (by simp))
    have K6 := Lib.hid (K5.out.trans0 k6)
    clear k6
    go_wp2_with fail
    go_ret
    exact .inr ⟨_, _, HC.out, HL.out, rfl, R6.out, K6.out⟩

/-- What coord answers. -/
def CoordP (R : Nat) (l : List UInt8) (w : World) (e : Ending) (w' : World) : Prop :=
  (coordR l = none ∧ Bang [R] w e w') ∨ ∃ v r, coordR l = some (v, r) ∧ e = .returned (.int .i64 v) ∧ Rdr w' R r ∧ Kept [R] w w'
theorem decimal_69 (R : Nat) (l : List UInt8) (w : World) (h : Rdr w R l) (hl : l.length ≤ 1500000) :
    Calls Tryz.prog 94 #[.pointer (some ⟨R, 0, none⟩), .int .i64 6, .int .i64 9] w (DecRP R 6 9 l w) := decimal_any R 6 9 l w h hl (by decide) (by decide) (by decide)
theorem coordR_noD {l l1 : List UInt8} {b : Bool} (h1 : takeR 45 l = (b, l1)) (h : decR 6 9 l1 = none) : coordR l = none := by
  unfold coordR; rw [h1]; simp only [h]; rfl
theorem coordR_ofD {l l1 r : List UInt8} {b : Bool} {v : Nat} (h1 : takeR 45 l = (b, l1)) (h : decR 6 9 l1 = some (v, r)) : coordR l = some ((if b then -(v : Int) else v), r) := by
  unfold coordR; rw [h1]; simp only [h, Option.bind_some]

set_option maxHeartbeats 400000 in
set_option maxRecDepth 20000 in
theorem coord_any (R : Nat) (l : List UInt8) (w : World) (h : Rdr w R l) (hl : l.length ≤ 1500000) :
    Calls Tryz.prog 79 #[.pointer (some ⟨R, 0, none⟩)] w (CoordP R l w) := by
  obtain ⟨b, l1, h1⟩ : ∃ b l1, takeR 45 l = (b, l1) := ⟨_, _, rfl⟩
  have hl1 : l1.length ≤ 1500000 := by have := takeR_len 45 l; rw [h1] at this; simp only at this; omega
  have H := Lib.hid h
  have H1 := Lib.hid h1
  clear h h1
  go_enter Tryz.func79, Tryz.ntmps79
  go_wp2_with fail
  refine (takesC_any _ _ _ _ H.out).mono ?_
  rintro e w1 ⟨rfl, r1, k1⟩
  rw [H1.out] at r1 ⊢
  have R1 := Lib.hid r1
  have K1 := Lib.hid k1
  clear r1 k1
  go_wp2_with fail
  refine (decimal_69 R l1 _ R1.out hl1).mono ?_
  rintro e w2 hd
  rcases hd with ⟨h6, ⟨u, x, rfl⟩, k2⟩ | ⟨v, r, hs, hvl, rfl, r2, k2⟩
  · have K2 := Lib.hid (K1.out.trans k2 (fun _ hx _ => hx))
    have HV := Lib.hid (coordR_noD H1.out h6)
    clear k2
    go_wp2_with fail
    exact ⟨rfl, .inl ⟨HV.out, ⟨_, _, rfl⟩, K2.out⟩⟩
  have HC := Lib.hid (coordR_ofD H1.out hs)
  have R2 := Lib.hid r2
  have K2 := Lib.hid (K1.out.trans k2 (fun _ hx _ => hx))
  have e2 : IntKind.i64.wrap (-(v : Int)) = -(v : Int) := IntWalk.i64_in _ (by omega)
  clear r2 k2 hs
  cases b
  · go_wp2_with fail
    go_ret
    exact .inr ⟨_, _, HC.out, rfl, R2.out, K2.out⟩
  · go_wp2_with fail
    go_ret
    exact .inr ⟨_, _, HC.out, rfl, R2.out, K2.out⟩

/-- What metres answers. -/
def MetP (R : Nat) (l : List UInt8) (w : World) (e : Ending) (w' : World) : Prop :=
  (metR l = none ∧ Bang [R] w e w') ∨ ∃ v r, metR l = some (v, r) ∧ e = .returned (.int .i64 v) ∧ Rdr w' R r ∧ Kept [R] w w'
theorem decimal_106 (R : Nat) (l : List UInt8) (w : World) (h : Rdr w R l) (hl : l.length ≤ 1500000) :
    Calls Tryz.prog 94 #[.pointer (some ⟨R, 0, none⟩), .int .i64 10, .int .i64 6] w (DecRP R 10 6 l w) := decimal_any R 10 6 l w h hl (by decide) (by decide) (by decide)

end Go.Proofs.YtlhiahhpmjiioadGreatDoor
