/-
  Contracts of the model's l1Text and NatText. Condition: the slice reads as a list of numbers.
-/
import Derived.Test.YthahkicpkohfkaaShort
import Derived.Test.YthahkicpkohfkaaJ1
import Derived.Laws.BytesArg
namespace Go.Proofs.Ythahkicpkohfkaa
open Go.RowKit

theorem strOfNums_append (x y : List Int) : strOfNums x ++ strOfNums y = strOfNums (x ++ y) := by
  unfold strOfNums
  rw [ByteArray.mk_append_mk, List.map_append]

theorem len_ge' {xs ys : List Int} (hx : Canon xs) (hy : Canon ys) (h : val ys ≤ val xs) : ys.length ≤ xs.length := by
  rcases Nat.lt_or_ge xs.length ys.length with h1 | h1
  · have : val xs < val ys := by
      refine val_lt_at (canon_get hx).1 (canon_get hy).1 ys.length (ys.length - 1) (by omega) (by omega) (Nat.le_refl _) (fun j h1 h2 => by omega) ?_
      have h1 := (canon_get hy).2 (by omega)
      have h2 := limb_getD (canon_get hy).1 (ys.length - 1)
      have h3 : xs.getD (ys.length - 1) 0 = 0 := getD_past (by omega)
      omega
    omega
  · exact h1

def textLeft : Value → Nat
  | .string S => 16001 - S.size
  | _ => 0

set_option maxHeartbeats 2000000 in
theorem l1Text_any (a : Option Addr) (n c : Nat) (xs : List Int) (w : World) (h : Rd w a n xs) (hx : Canon xs) (hn : n ≤ 1000) :
    Calls Try.prog 63 #[.slice a n c] w (Ans w (.string (strOfNums (decText (val xs))))) := by
  have HR := Lib.hid h
  have HL := Lib.hid h.1
  have HX := Lib.hid hx
  by_cases h0 : n = 0
  · subst h0
    have hx0 : xs = [] := List.eq_nil_of_length_eq_zero h.1
    have e1 : Hid (strOfNums (decText (val xs)) = ⟨#[48]⟩) := by show strOfNums _ = _; rw [hx0]; rfl
    clear h hx
    go_enter Try.func63, Try.ntmps63
    go_wp2
    go_ret
    exact ⟨by rw [e1.out]; rfl, Kept.refl _ _⟩
  · have hv0 : 0 < val xs := (canon_nonneg hx).2 (fun e => h0 (by rw [← h.1, e]; rfl))
    have e1 : Hid (decText (val xs) = (dec (val xs)).reverse) := by show decText _ = _; unfold decText; rw [if_neg (by omega)]
    have hlim : (dec (val xs)).length ≤ 16 * 1000 := by
      have h1 := (canon_limbs hx).val
      have h2 := pw_mono xs.length 1000 (by rw [h.1]; exact hn)
      exact dec_len (by omega)
    have HLIM := Lib.hid hlim
    have hnz : ((n : Int) == 0) = false := by rw [beq_eq_false_iff_ne]; omega
    have HD0 : Hid (digits (val xs) = xs) := digits_val hx
    have hvw : 0 ≤ val xs ∧ val xs < pw 1000 := by
      have h1 := (canon_limbs hx).val
      have h2 := pw_mono xs.length 1000 (by rw [h.1]; exact hn)
      omega
    have HVW := Lib.hid hvw
    obtain ⟨V, hV⟩ : ∃ V, V = val xs := ⟨_, rfl⟩
    rw [← hV] at e1 HLIM HD0 HVW hv0 ⊢
    have HV := Lib.hid hV
    clear h hx hlim hV h0 hvw
    go_enter Try.func63, Try.ntmps63
    go_wp2
    go_loopw [0, 3] (fun q s wr => ∃ (a' : Option Addr) (c' : Nat) (m : Int) (bs : List Int) (S : ByteArray), q = .slice a' (digits m).length c' ∧ s = .string S ∧ Hid (S = strOfNums bs) ∧ 0 ≤ m ∧ Hid (m ≤ V) ∧ Hid ((dec m).reverse ++ bs = (dec V).reverse) ∧ Hid (Rd wr a' (digits m).length (digits m)) ∧ Hid (Kept [] w wr)) (fun _ s _ => textLeft s)
    case atStart => exact ⟨a, c, V, [], ⟨#[]⟩, by rw [HD0.out, HL.out], rfl, rfl, by omega, Int.le_refl _, by simp [Hid], by rw [HD0.out, HL.out]; exact HR.out, Kept.refl _ _⟩
    case round =>
      obtain ⟨a', c', m, bs, S, rfl, rfl, hS, hm0, hmV, hE, hRd, hK⟩ := hrel
      by_cases hm : 0 < m
      · have hpos : 0 < (digits m).length := by rw [digits_pos hm]; simp
        have hdl : (digits m).length ≤ 1000 := digits_len 1000 m (by have h1 := hmV.out; have h2 := HVW.out; omega)
        have hm9 : m / 10 < m := by omega
        have hshort : (digits (m / 10)).length ≤ (digits m).length := by
          refine len_ge' (canon_digits' _) (canon_digits' _) ?_
          rw [val_digits' (by omega), val_digits' (by omega)]; omega
        have hE2 : Hid ((dec (m / 10)).reverse ++ ([48 + m % 10] ++ bs) = (dec V).reverse) := by
          show _ = _
          rw [← hE.out, dec_pos hm]; simp
        have hsz : S.size < 16000 := by
          rw [hS.out, strOfNums_size]
          have h1 := congrArg List.length hE.out
          rw [dec_pos hm] at h1
          simp at h1
          have h2 := HLIM.out
          omega
        have hval : val (digits m) = m := val_digits' hm0
        have HVAL := Lib.hid hval
        have HHS := Lib.hid hS.out
        clear hval hE hS
        go_wp2_with fail
        refine (l1Short_any _ _ _ _ 10 _ hRd.out (canon_limbs (canon_digits' _)) (by omega) (by omega)).mono ?_
        rintro e w2 ⟨v2, rfl, hO, hk2⟩
        rw [HVAL.out] at hO ⊢
        obtain ⟨a2, c2, rfl, hS2, hF2⟩ := hO.sl
        obtain ⟨r, hr⟩ : ∃ r, r = m % 10 := ⟨_, rfl⟩
        rw [← hr] at hE2 ⊢
        have hr1 : 0 ≤ r := by omega
        have hr2 : r ≤ 9 := by omega
        have HS2 := Lib.hid hS2
        have HK2 := Lib.hid (hK.out.trans0 hk2)
        have e3 : IntKind.i64.wrap (48 + r) = 48 + r := IntWalk.i64_in _ (by omega)
        have e4 : IntKind.u8.wrap (48 + r) = 48 + r := IntWalk.u8_in _ (by omega)
        have hcv := run_convert_bytes_arg (P := Try.prog) (w2.alloc (.cells #[.int .u8 (48 + r)] 5)) 22 5 Try.underlying22 Try.underlying5 w2.heap.size 0 1 1 [48 + r] rfl (fun i hi => by
          obtain rfl : i = 0 := by omega
          simp) 9 Try.underlying9
        have hsz2 : (strOfNums [48 + r]).size = 1 := by rw [strOfNums_size]; rfl
        obtain ⟨T, hT⟩ : ∃ T, T = strOfNums [48 + r] := ⟨_, rfl⟩
        rw [← hT] at hcv hsz2
        have HT := Lib.hid hT
        have hTs : T.size ≤ 1 := by omega
        have hTS : (T ++ S).size = S.size + 1 := by rw [ByteArray.size_append]; omega
        have HTS := Lib.hid hTS
        have HT2 : Hid (T ++ S = strOfNums ([48 + r] ++ bs)) := by show _ = _; rw [HT.out, HHS.out, strOfNums_append]
        clear hTS
        clear hO hk2 hS2 hF2 hr hT hsz2
        go_wp2
        go_roundw
        case rel => exact ⟨a2, c2, m / 10, [48 + r] ++ bs, T ++ S, rfl, rfl, HT2, by omega, by have := hmV.out; show _ ≤ _; omega, hE2, HS2.out.rd.kept0 ((Kept.refl [] w2).alloc _), HK2.out.alloc _⟩
        case measure => (show 16001 - (T ++ S).size < 16001 - S.size); have := HTS.out; omega
      · obtain rfl : m = 0 := by omega
        have hz : (digits 0).length = 0 := rfl
        have hb : Hid (S = strOfNums (decText V)) := by
          show _ = _
          rw [hS.out, e1.out, ← hE.out]; rfl
        have HK2 := Lib.hid hK.out
        clear hS hE
        rw [hz]
        go_wp2
        go_ret
        exact ⟨by rw [hb.out]; rfl, HK2.out⟩

end Go.Proofs.Ythahkicpkohfkaa
