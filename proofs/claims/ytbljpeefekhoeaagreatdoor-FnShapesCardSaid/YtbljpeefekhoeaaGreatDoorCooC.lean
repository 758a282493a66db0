/-
  Contract of the program's CoordText. Condition: the library's table of powers of ten lies as its text lays it.
-/
import Derived.Test.YtbljpeefekhoeaaGreatDoorCooB
import Derived.Test.YtbljpeefekhoeaaGreatDoorOrd
import Derived.Test.YtbljpeefekhoeaaGreatDoorTabK
import Derived.Test.YtbljpeefekhoeaaGreatDoorShf
namespace Go.Proofs.YtbljpeefekhoeaaGreatDoor
open Go.RowKit

/-- The library's table of powers of ten. -/
def Pow10 (w : World) : Prop := Lib.TabIs Tryz.prog w "internal/strconv.uint64pow10" .u64 Lib.pow10Tab
theorem Pow10.kept {w w' : World} (h : Pow10 w) (hk : Kept [] w w') : Pow10 w' := tabKept h hk

theorem gPow : Tryz.prog.globalNamed "internal/strconv.uint64pow10" = some 0 := by kernel_rfl
theorem Pow10.of_laid {W : World} {rest : List (String × DataW Unit)} {d : DataW Unit} (h : laidMet Tryz.prog (("internal/strconv.uint64pow10", d) :: rest) W) (hd : d = Lib.tabData .u64 Lib.pow10Tab := by rfl) : Pow10 W := by
  subst hd
  exact Lib.tabIs_of_head gPow (by kernel_rfl) Tryz.underlying144 Tryz.underlying115 (by kernel_rfl) (by kernel_rfl) h

theorem FormatInt_nat (u : Nat) (w : World) (hu : u ≤ 9223372036854775807) (h : Pow10 w) :
    Calls Tryz.prog 41 #[.int .i64 (u : Int), .int .i64 10] w (Ans w (.string (strB (Lib.decDigits u)))) := by
  refine (Tryz.strconv_FormatInt_10 (u : Int) (by omega) (by omega) w h).mono ?_
  rintro e w' ⟨rfl, k, os, rfl⟩
  have : Lib.itoa (u : Int) = Lib.decDigits u := by unfold Lib.itoa; rw [if_neg (by omega)]; rfl
  rw [this]
  exact ⟨rfl, kept_grow _ _ _⟩
theorem TrimZeros (r : Nat) (w : World) :
    Calls Tryz.prog 42 #[.string (strB (nine r)), .string ⟨#[48]⟩] w (Ans w (.string (strB (Lib.trimRightB (nine r) 48)))) := by
  refine (Tryz.strings_TrimRight_one (strB (nine r)) 48 (by decide) w (by rw [strB_size]; exact (by decide : (9 : Nat) ≤ 9223372036854775807))).mono ?_
  rintro e w' ⟨rfl, rfl⟩
  exact ⟨rfl, Kept.refl _ _⟩

set_option maxHeartbeats 2000000 in
theorem CoordText_any (n : Int) (w : World) (hp : Pow10 w) : Calls Tryz.prog 18 #[.int .i64 n] w (Ans w (.agg #[.int .i64 (coordC n), .string (coordS n)])) := by
  have HP := Lib.hid hp
  clear hp
  obtain ⟨b, hb⟩ : ∃ b, inCoord n = b := ⟨_, rfl⟩
  have HB := Lib.hid (ord_xyz (x := -999999999999999) (y := n) (z := 999999999999999) b hb.symm)
  cases b
  · have hv := Lib.hid (coord_no hb)
    clear hb
    go_enter Tryz.func18, Tryz.ntmps18
    go_wp2_with fail
    refine (inOrder_any _ _ _ _ _ (rd_threeK _ _ _ _ (by simp)) _ HB.out).mono ?_
    rintro e w1 ⟨rfl, h1⟩
    have K1 := Lib.hid h1.peel
    obtain ⟨⟨c0, c1⟩, f0, f1⟩ := textBox K1.out
    clear h1
    go_wp2_with fail
    obtain ⟨_, s0, s1⟩ := cells2 (.int .i64 3) (.string ⟨#[]⟩) c0 c1
    refine bodyPost_ret (v := .agg #[.int .i64 3, .string ⟨#[]⟩]) (by simp [results, Tryz.results18, go_sem, s0, s1]) rfl ⟨by rw [hv.out.1, hv.out.2], ?_⟩
    exact (K1.out.peel.setCell _ _ (by simp)).setCell _ _ (by simp)
  · have hv := Lib.hid (coord_yes hb)
    have hn : -999999999999999 ≤ n ∧ n ≤ 999999999999999 := of_decide_eq_true hb
    obtain ⟨hn0, hn1⟩ := hn
    clear hb
    obtain ⟨u, hu⟩ : ∃ u : Nat, u = n.natAbs := ⟨_, rfl⟩
    have hu1 : u ≤ 999999999999999 := by omega
    obtain ⟨q, hq⟩ : ∃ q : Nat, q = u / 1000000000 := ⟨_, rfl⟩
    obtain ⟨r, hr⟩ : ∃ r : Nat, r = u % 1000000000 := ⟨_, rfl⟩
    have e1 : (u : Int).tdiv 1000000000 = (q : Int) := by
      rw [Int.tdiv_eq_ediv_of_nonneg (by omega)]; omega
    have e2 : (u : Int).tmod 1000000000 = (r : Int) := by
      rw [Int.tmod_eq_emod_of_nonneg (by omega)]; omega
    have e5 : (u : Int) / 1000000000 = (q : Int) := by omega
    have e6 : (u : Int) % 1000000000 = (r : Int) := by omega
    have hq1 : q ≤ 999999 := by omega
    have hr1 : r < 1000000000 := by omega
    have e7 : IntKind.i64.wrap (q : Int) = q := IntWalk.i64_in _ (by omega)
    have e8 : IntKind.i64.wrap (1000000000 + (r : Int)) = ((1000000000 + r : Nat) : Int) := by rw [IntWalk.i64_in _ (by omega)]; omega
    have z1 : (strB (Lib.decDigits q)).size ≤ 6 := by rw [strB_size]; exact decD_len (k := 6) (by omega) (by omega)
    have z2 : (strB (Lib.trimRightB (nine r) 48)).size ≤ 9 := by
      rw [strB_size]; have h3 := trim_len (nine r) 48; rw [nine_len] at h3; exact h3
    have hmax : max n (-n) = (u : Int) := by omega
    have hneg : IntKind.i64.wrap (-n) = -n := IntWalk.i64_in _ (by omega)
    obtain ⟨Q, hQ⟩ : ∃ D, strB (Lib.decDigits q) = D := ⟨_, rfl⟩
    obtain ⟨T, hT⟩ : ∃ D, strB (Lib.trimRightB (nine r) 48) = D := ⟨_, rfl⟩
    have hP0 : n < 0 → strB (coordT n) = ⟨#[45]⟩ ++ strB (coordP u) := fun h0 => by
      show _ = strB [45] ++ strB _
      rw [strB_append]; unfold coordT; rw [if_pos h0, ← hu]; rfl
    have hP1 : ¬ n < 0 → strB (coordT n) = ⟨#[]⟩ ++ strB (coordP u) := fun h0 => by
      show _ = strB [] ++ strB _
      rw [strB_append]; unfold coordT; rw [if_neg h0, show n.toNat = u by omega]; rfl
    by_cases hz : r = 0
    · have hc : strB (coordP u) = Q := by
        rw [coordP_zero (by omega), ← hq]; exact hQ
      rw [hc] at hP0 hP1
      rw [hQ] at z1
      have HQ := Lib.hid hQ
      subst hz
      by_cases h0 : n < 0
      · have hvs := Lib.hid (hP0 h0)
        clear hP0 hP1 hc hu hq hr hQ hT z2
        go_enter Tryz.func18, Tryz.ntmps18
        go_wp2_with fail
        refine (inOrder_any _ _ _ _ _ (rd_threeK _ _ _ _ (by simp)) _ HB.out).mono ?_
        rintro e w1 ⟨rfl, h1⟩
        have K1 := Lib.hid h1.peel
        clear h1
        go_wp2_with fail
        refine (FormatInt_nat q _ (by omega) (HP.out.kept K1.out.peel)).mono ?_
        rintro e w2 ⟨rfl, h2⟩
        rw [HQ.out]
        have K2 := Lib.hid (K1.out.trans0 h2)
        clear h2
        obtain ⟨⟨c0, c1⟩, f0, f1⟩ := textBox K2.out
        go_wp2_with fail
        obtain ⟨_, s0, s1⟩ := cells2 (.int .i64 0) (.string (⟨#[45]⟩ ++ Q)) c0 c1
        refine bodyPost_ret (v := .agg #[.int .i64 0, .string (⟨#[45]⟩ ++ Q)]) (by simp [results, Tryz.results18, go_sem, s0, s1]) rfl ⟨by rw [hv.out.1, hv.out.2, hvs.out], ?_⟩
        exact (K2.out.peel.setCell _ _ (by simp)).setCell _ _ (by simp)
      · have hvs := Lib.hid (hP1 h0)
        clear hP0 hP1 hc hu hq hr hQ hT z2
        go_enter Tryz.func18, Tryz.ntmps18
        go_wp2_with fail
        refine (inOrder_any _ _ _ _ _ (rd_threeK _ _ _ _ (by simp)) _ HB.out).mono ?_
        rintro e w1 ⟨rfl, h1⟩
        have K1 := Lib.hid h1.peel
        clear h1
        go_wp2_with fail
        refine (FormatInt_nat q _ (by omega) (HP.out.kept K1.out.peel)).mono ?_
        rintro e w2 ⟨rfl, h2⟩
        rw [HQ.out]
        have K2 := Lib.hid (K1.out.trans0 h2)
        clear h2
        obtain ⟨⟨c0, c1⟩, f0, f1⟩ := textBox K2.out
        go_wp2_with fail
        obtain ⟨_, s0, s1⟩ := cells2 (.int .i64 0) (.string (⟨#[]⟩ ++ Q)) c0 c1
        refine bodyPost_ret (v := .agg #[.int .i64 0, .string (⟨#[]⟩ ++ Q)]) (by simp [results, Tryz.results18, go_sem, s0, s1]) rfl ⟨by rw [hv.out.1, hv.out.2, hvs.out], ?_⟩
        exact (K2.out.peel.setCell _ _ (by simp)).setCell _ _ (by simp)
    · have hc : strB (coordP u) = Q ++ (⟨#[46]⟩ ++ T) := by
        rw [coordP_part (by omega), ← hq, ← hr, ← hQ, ← hT]
        show _ = strB _ ++ (strB [46] ++ strB _)
        rw [strB_append, strB_append]; rfl
      rw [hc, ← ByteArray.append_assoc] at hP0 hP1
      rw [hQ] at z1
      rw [hT] at z2
      have HQ := Lib.hid hQ
      have HT := Lib.hid hT
      obtain ⟨S, hS⟩ : ∃ S, strB (49 :: nine r) = S := ⟨_, rfl⟩
      obtain ⟨D, hD⟩ : ∃ D, strB (nine r) = D := ⟨_, rfl⟩
      have hd : Hid (strB (Lib.decDigits (1000000000 + r)) = S) := by show _ = _; rw [dec_nine hr1, hS]
      have hs : S.size = 10 := by rw [← hS, strB_size]; rfl
      have hx : S.extract 1 10 = D := by rw [← hs, Lib.extract_from, ← hS, ← hD]; rfl
      have HD := Lib.hid hD
      have hz' : (0 : Int) < (r : Int) := by omega
      clear hS hD
      by_cases h0 : n < 0
      · have hvs := Lib.hid (hP0 h0)
        clear hP0 hP1 hc hu hq hr hQ hT
        go_enter Tryz.func18, Tryz.ntmps18
        go_wp2_with fail
        refine (inOrder_any _ _ _ _ _ (rd_threeK _ _ _ _ (by simp)) _ HB.out).mono ?_
        rintro e w1 ⟨rfl, h1⟩
        have K1 := Lib.hid h1.peel
        clear h1
        go_wp2_with fail
        refine (FormatInt_nat q _ (by omega) (HP.out.kept K1.out.peel)).mono ?_
        rintro e w2 ⟨rfl, h2⟩
        rw [HQ.out]
        have K2 := Lib.hid (K1.out.trans0 h2)
        clear h2
        go_wp2_with fail
        refine (FormatInt_nat (1000000000 + r) _ (by omega) (HP.out.kept K2.out.peel)).mono ?_
        rintro e w3 ⟨rfl, h3⟩
        rw [hd.out]
        have K3 := Lib.hid (K2.out.trans0 h3)
        clear h3
        go_wp2_with fail
        rw [← HD.out]
        refine (TrimZeros r _).mono ?_
        rintro e w4 ⟨rfl, h4⟩
        rw [HT.out]
        have K4 := Lib.hid (K3.out.trans0 h4)
        clear h4
        obtain ⟨⟨c0, c1⟩, f0, f1⟩ := textBox K4.out
        go_wp2_with fail
        obtain ⟨_, s0, s1⟩ := cells2 (.int .i64 0) (.string (⟨#[45]⟩ ++ Q ++ (⟨#[46]⟩ ++ T))) c0 c1
        refine bodyPost_ret (v := .agg #[.int .i64 0, .string (⟨#[45]⟩ ++ Q ++ (⟨#[46]⟩ ++ T))]) (by simp [results, Tryz.results18, go_sem, s0, s1]) rfl ⟨by rw [hv.out.1, hv.out.2, hvs.out], ?_⟩
        exact (K4.out.peel.setCell _ _ (by simp)).setCell _ _ (by simp)
      · have hvs := Lib.hid (hP1 h0)
        clear hP0 hP1 hc hu hq hr hQ hT
        go_enter Tryz.func18, Tryz.ntmps18
        go_wp2_with fail
        refine (inOrder_any _ _ _ _ _ (rd_threeK _ _ _ _ (by simp)) _ HB.out).mono ?_
        rintro e w1 ⟨rfl, h1⟩
        have K1 := Lib.hid h1.peel
        clear h1
        go_wp2_with fail
        refine (FormatInt_nat q _ (by omega) (HP.out.kept K1.out.peel)).mono ?_
        rintro e w2 ⟨rfl, h2⟩
        rw [HQ.out]
        have K2 := Lib.hid (K1.out.trans0 h2)
        clear h2
        go_wp2_with fail
        refine (FormatInt_nat (1000000000 + r) _ (by omega) (HP.out.kept K2.out.peel)).mono ?_
        rintro e w3 ⟨rfl, h3⟩
        rw [hd.out]
        have K3 := Lib.hid (K2.out.trans0 h3)
        clear h3
        go_wp2_with fail
        rw [← HD.out]
        refine (TrimZeros r _).mono ?_
        rintro e w4 ⟨rfl, h4⟩
        rw [HT.out]
        have K4 := Lib.hid (K3.out.trans0 h4)
        clear h4
        obtain ⟨⟨c0, c1⟩, f0, f1⟩ := textBox K4.out
        go_wp2_with fail
        obtain ⟨_, s0, s1⟩ := cells2 (.int .i64 0) (.string (⟨#[]⟩ ++ Q ++ (⟨#[46]⟩ ++ T))) c0 c1
        refine bodyPost_ret (v := .agg #[.int .i64 0, .string (⟨#[]⟩ ++ Q ++ (⟨#[46]⟩ ++ T))]) (by simp [results, Tryz.results18, go_sem, s0, s1]) rfl ⟨by rw [hv.out.1, hv.out.2, hvs.out], ?_⟩
        exact (K4.out.peel.setCell _ _ (by simp)).setCell _ _ (by simp)

end Go.Proofs.YtbljpeefekhoeaaGreatDoor
