/-
  Contract of the program's CoordText. Condition: the library's table of powers of ten lies as its text lays it.
-/
import Derived.Test.YtlhiahhpmjiioadGreatDoorCooB
import Derived.Test.YtlhiahhpmjiioadGreatDoorDecT
namespace Go.Proofs.YtlhiahhpmjiioadGreatDoor
open Go.RowKit

theorem TrimZeros (l : List UInt8) (w : World) (hl : l.length ≤ 1000000) :
    Calls Tryz.prog 41 #[.string (strB l), .string ⟨#[48]⟩] w (Ans w (.string (strB (Lib.trimRightB l 48)))) := by
  refine (Tryz.strings_TrimRight_one (strB l) 48 (by decide) w (by rw [strB_size]; omega)).mono ?_
  rintro e w' ⟨rfl, rfl⟩
  exact ⟨rfl, Kept.refl _ _⟩
theorem TrimPoint (l : List UInt8) (w : World) (hl : l.length ≤ 1000000) :
    Calls Tryz.prog 43 #[.string (strB l), .string ⟨#[46]⟩] w (Ans w (.string (strB (Lib.trimSuffix l [46])))) := by
  refine (Tryz.strings_TrimSuffix (strB l) ⟨#[46]⟩ w (by rw [strB_size]; omega)).mono ?_
  rintro e w' ⟨rfl, rfl⟩
  exact ⟨rfl, Kept.refl _ _⟩
theorem decimalText_nine (n : Int) (w : World) (hn0 : -999999999999999 ≤ n) (hn1 : n ≤ 999999999999999) (hp : Pow10 w) :
    Calls Tryz.prog 42 #[.int .i64 n, .int .i64 1000000000] w (Ans w (.string (strB (decTx 1000000000 nine n)))) :=
  decimalText_any ten_nine n w (by omega) (by omega) hp

set_option maxHeartbeats 2000000 in
set_option maxRecDepth 20000 in
theorem CoordText_any (n : Int) (w : World) (hp : Pow10 w) : Calls Tryz.prog 18 #[.int .i64 n] w (Ans w (.agg #[.int .i64 (coordC n), .string (coordS n)])) := by
  have HP := Lib.hid hp
  clear hp
  obtain ⟨b, hb⟩ : ∃ b, inCoord n = b := ⟨_, rfl⟩
  have HB := Lib.hid (ord_xyz (x := -999999999999999) (y := n) (z := 999999999999999) b hb.symm)
  cases b
  · have hv := Lib.hid (coord_no hb)
    clear hb
    go_enter Tryz.func18, Tryz.ntmps18
    go_wp2_with fail
    refine (inOrder_any _ _ _ _ _ (rd_threeK _ _ _ _ (by simp)) _ HB.out).mono ?_
    rintro e w1 ⟨rfl, h1⟩
    have K1 := Lib.hid h1.peel
    obtain ⟨⟨c0, c1⟩, f0, f1⟩ := textBox K1.out
    clear h1
    go_wp2_with fail
    obtain ⟨_, s0, s1⟩ := cells2 (.int .i64 3) (.string ⟨#[]⟩) c0 c1
    refine bodyPost_ret (v := .agg #[.int .i64 3, .string ⟨#[]⟩]) (by simp [results, Tryz.results18, go_sem, s0, s1]) rfl ⟨by rw [hv.out.1, hv.out.2], ?_⟩
    exact (K1.out.peel.setCell _ _ (by simp)).setCell _ _ (by simp)
  · have hv := Lib.hid (coord_yes hb)
    have hn : -999999999999999 ≤ n ∧ n ≤ 999999999999999 := of_decide_eq_true hb
    obtain ⟨hn0, hn1⟩ := hn
    have hl := decTx_len ten_nine n (by omega) (by omega)
    have hl2 := trim_len (decTx 1000000000 nine n) 48
    have ht := coordT_of n
    obtain ⟨L, hL⟩ : ∃ L, decTx 1000000000 nine n = L := ⟨_, rfl⟩
    obtain ⟨M, hM⟩ : ∃ M, Lib.trimRightB L 48 = M := ⟨_, rfl⟩
    rw [hL] at hl hl2 ht
    rw [hM] at hl2 ht
    have HL := Lib.hid hL
    have HM := Lib.hid hM
    have HT := Lib.hid ht
    clear hb hL hM ht
    go_enter Tryz.func18, Tryz.ntmps18
    go_wp2_with fail
    refine (inOrder_any _ _ _ _ _ (rd_threeK _ _ _ _ (by simp)) _ HB.out).mono ?_
    rintro e w1 ⟨rfl, h1⟩
    have K1 := Lib.hid h1.peel
    clear h1
    go_wp2_with fail
    refine (decimalText_nine n _ hn0 hn1 (HP.out.kept K1.out.peel)).mono ?_
    rintro e w2 ⟨rfl, h2⟩
    rw [HL.out]
    have K2 := Lib.hid (K1.out.trans0 h2)
    clear h2
    go_wp2_with fail
    refine (TrimZeros L _ (by omega)).mono ?_
    rintro e w3 ⟨rfl, h3⟩
    rw [HM.out]
    have K3 := Lib.hid (K2.out.trans0 h3)
    clear h3
    go_wp2_with fail
    refine (TrimPoint M _ (by omega)).mono ?_
    rintro e w4 ⟨rfl, h4⟩
    rw [HT.out]
    have K4 := Lib.hid (K3.out.trans0 h4)
    clear h4
    obtain ⟨⟨c0, c1⟩, f0, f1⟩ := textBox K4.out
    obtain ⟨T, hT⟩ : ∃ T, strB (coordT n) = T := ⟨_, rfl⟩
    rw [hT] at hv ⊢
    go_wp2_with fail
    obtain ⟨_, s0, s1⟩ := cells2 (.int .i64 0) (.string T) c0 c1
    refine bodyPost_ret (v := .agg #[.int .i64 0, .string T]) (by simp [results, Tryz.results18, go_sem, s0, s1]) rfl ⟨by rw [hv.out.1, hv.out.2], ?_⟩
    exact (K4.out.peel.setCell _ _ (by simp)).setCell _ _ (by simp)

end Go.Proofs.YtlhiahhpmjiioadGreatDoor
