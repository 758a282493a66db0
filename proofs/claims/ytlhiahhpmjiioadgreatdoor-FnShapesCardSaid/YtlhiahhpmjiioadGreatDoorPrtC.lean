/-
  Contracts of the model's l8Name, l8Print and PrintShape. Condition: the slice reads as a list of numbers, two a point.
-/
import Derived.Test.YtlhiahhpmjiioadGreatDoorPrtB
namespace Go.Proofs.YtlhiahhpmjiioadGreatDoor
open Go.RowKit

set_option maxHeartbeats 1000000 in
set_option maxRecDepth 20000 in
theorem l8Name_any (k : Int) (w : World) (hk : inK k = true) : Calls Tryz.prog 52 #[.int .i64 k] w (Ans w (.string (strB (nameT k)))) := by
  have hk' : 1 ≤ k ∧ k ≤ 4 := of_decide_eq_true hk
  rcases (by omega : k = 1 ∨ k = 2 ∨ k = 3 ∨ k = 4) with rfl | rfl | rfl | rfl
  all_goals
    go_enter Tryz.func52, Tryz.ntmps52
    go_wp2
    go_ret
    exact ⟨rfl, (Kept.refl _ _).alloc _⟩

theorem joinC_next (ts : List (List UInt8)) (x : List UInt8) (h : ts ≠ []) : strB (joinC ts) ++ ⟨#[44]⟩ ++ strB x = strB (joinC (ts ++ [x])) := by
  show strB _ ++ strB [44] ++ strB _ = _
  rw [strB_append, strB_append, joinC_snoc ts x h]; simp
theorem mkL {w5 w' : World} {b d e f : Nat} {v0 v1 v2 v3 : Value} (c0 : w5.cell? ⟨b, 0, none⟩ = some v0) (c1 : w5.cell? ⟨b, 1, none⟩ = some v1) (c2 : w5.cell? ⟨d, e, none⟩ = some v2) (c3 : w5.cell? ⟨d, f, none⟩ = some v3) (k : Hid (Kept [] w5 w')) :
    Hid (Kept [] w5 w') ∧ w'.cell? ⟨b, 0, none⟩ = some v0 ∧ w'.cell? ⟨b, 1, none⟩ = some v1 ∧ w'.cell? ⟨d, e, none⟩ = some v2 ∧ w'.cell? ⟨d, f, none⟩ = some v3 :=
  ⟨k, k.out.cell c0 (by simp), k.out.cell c1 (by simp), k.out.cell c2 (by simp), k.out.cell c3 (by simp)⟩

set_option maxHeartbeats 2000000 in
set_option maxRecDepth 20000 in
theorem l8Print_in (A : Nat) (k : Int) (a : Option Addr) (n c : Nat) (xs : List Int) (w : World) (h : Rd w a (n * 2) xs) (hz : inK k = true ∧ 1 ≤ n ∧ n ≤ 12 ∧ ∀ i, i < n → (-999999999999999 ≤ xs.getD (i * 2) 0 ∧ xs.getD (i * 2) 0 ≤ 999999999999999) ∧ -999999999999999 ≤ xs.getD (i * 2 + 1) 0 ∧ xs.getD (i * 2 + 1) 0 ≤ 999999999999999) (b0 : w.cell? ⟨A, 0, none⟩ = some (.int .i64 k)) (b1 : w.cell? ⟨A, 1, none⟩ = some (.slice a n c)) :
    Calls Tryz.prog 24 #[.pointer (some ⟨A, 0, none⟩)] w (Ans w (.string (strB (printT k xs n)))) := by
  have HR := Lib.hid h
  have hmax := h.2.1
  obtain ⟨hk, hn1, hn2, hpt⟩ := hz
  have HPT := Lib.hid hpt
  have HK := Lib.hid hk
  have BB := Lib.hid (And.intro b0 b1)
  clear h hpt hk
  go_enter Tryz.func24, Tryz.ntmps24
  go_wp2_with fail
  go_loopw [3, 4] (fun v i wr => ∃ (j : Nat) (S : ByteArray), i = .int .i64 j ∧ v = .string S ∧ j ≤ n ∧ Hid (S = strB (joinC (ptsT xs j))) ∧ Hid (Kept [] w wr)) (fun _ i _ => n - (intOf i).toNat)
  case atStart => exact ⟨0, ⟨#[]⟩, rfl, rfl, Nat.zero_le _, rfl, Kept.refl _ _⟩
  case round =>
    obtain ⟨j, S, rfl, rfl, hj, hS, hK⟩ := hrel
    have b0 := hK.out.cell BB.out.1 (by simp)
    have b1 := hK.out.cell BB.out.2 (by simp)
    have hjl := joinC_len 35 (ptsT xs j) (ptsT_in (n := j) (fun i hi => HPT.out i (by omega)))
    rw [ptsT_len] at hjl
    have hS432 : S.size ≤ 432 := by
      rw [hS.out, strB_size]
      refine Nat.le_trans hjl ?_
      have : j * 36 ≤ 12 * 36 := Nat.mul_le_mul_right _ (by omega)
      omega
    clear hjl
    by_cases hlt : j < n
    · obtain ⟨g, off, rfl, p0, p1⟩ := rd_pt HR.out j hlt
      have p0 := hK.out.cell p0 (by simp)
      have p1 := hK.out.cell p1 (by simp)
      have hxy := HPT.out j hlt
      have hN := Lib.hid (ptsT_succ xs j)
      generalize xs.getD (j * 2) 0 = x at *
      generalize xs.getD (j * 2 + 1) 0 = y at *
      have hlt' : (j : Int) < n := by omega
      have hj0 : (0 : Int) ≤ j := by omega
      have z1 : (strB (coordT x)).size ≤ 17 := by rw [strB_size]; exact coordT_len x hxy.1.1 hxy.1.2
      have z2 : (strB (coordT y)).size ≤ 17 := by rw [strB_size]; exact coordT_len y hxy.2.1 hxy.2.2
      have ht := Lib.hid (ptText x y)
      obtain ⟨X, hX⟩ : ∃ X, strB (coordT x) = X := ⟨_, rfl⟩
      obtain ⟨Y, hY⟩ : ∃ X, strB (coordT y) = X := ⟨_, rfl⟩
      rw [hX] at z1 ht
      rw [hY] at z2 ht
      have HX := Lib.hid hX
      have HY := Lib.hid hY
      have HXY := Lib.hid hxy
      clear hX hY hxy
      by_cases hj0' : j = 0
      · subst hj0'
        simp only [Nat.zero_mul, Nat.add_zero] at p0 p1
        have hnx : Hid (S ++ X ++ ⟨#[32]⟩ ++ Y = strB (joinC (ptsT xs (0 + 1)))) := by
          show _ = _
          rw [hN.out, ptsT_zero, List.nil_append, joinC_one, ← ht.out, hS.out, ptsT_zero, joinC_nil]
          show strB [] ++ X ++ ⟨#[32]⟩ ++ Y = _
          have : strB [] ++ X = X := ByteArray.empty_append
          rw [this]
        go_upto_region 7 with fail
        obtain ⟨O, hO⟩ : ∃ O, S = O := ⟨_, rfl⟩
        have zO : O.size ≤ 433 := by rw [← hO]; omega
        rw [hO] at hnx ⊢
        clear hO hS
        have z6 : ¬ 9223372036854775807 < O.size + X.size := by omega
        have z7 : ¬ 9223372036854775807 < O.size + X.size + 1 := by omega
        have z8 : ¬ 9223372036854775807 < O.size + X.size + 1 + Y.size := by omega
        go_region_held3 (fun w' => Hid (Kept [] wr w') ∧ w'.cell? ⟨A, 0, none⟩ = some (.int .i64 k) ∧ w'.cell? ⟨A, 1, none⟩ = some (.slice (some ⟨g, off, none⟩) n c) ∧ w'.cell? ⟨g, off, none⟩ = some (.int .i64 x) ∧ w'.cell? ⟨g, off + 1, none⟩ = some (.int .i64 y))
          (with_reducible first | assumption | exact mkL b0 b1 p0 p1 (by with_reducible first | assumption | exact Lib.hid ((Kept.refl _ _).drew) | exact Lib.hid (Kept.trans0 (Hid.out (by assumption)) (by assumption))))
          (first
            | (go_at_call_of 51 (Value.int IntKind.i64 x); go_split_ands; refine (l8Coord_any x _ HXY.out.1.1 HXY.out.1.2).mono ?_; rw [HX.out]; rintro e v1 ⟨rfl, hj1⟩)
            | (go_at_call_of 51 (Value.int IntKind.i64 y); go_split_ands; refine (l8Coord_any y _ HXY.out.2.1 HXY.out.2.2).mono ?_; rw [HY.out]; rintro e v2 ⟨rfl, hj2⟩))
        rename_i hH
        have hK9 := Lib.hid (hK.out.trans0 hH.1.out)
        clear hK hH hj1 hj2 p0 p1 b0 b1
        go_wp2_with fail
        go_roundw
        case rel => exact ⟨0 + 1, _, by go_num, rfl, by omega, hnx.out, hK9.out⟩
        case measure => simp [intOf] <;> omega
      · have hjp : (0 : Int) < j := by omega
        have hjp2 : 0 < j := by omega
        have hnx : Hid ((S ++ ⟨#[44]⟩) ++ X ++ ⟨#[32]⟩ ++ Y = strB (joinC (ptsT xs (j + 1)))) := by
          show _ = _
          rw [hN.out, ← joinC_next _ _ (by intro e; have := congrArg List.length e; rw [ptsT_len] at this; simp at this; omega), ← hS.out, ← ht.out]
          simp only [ByteArray.append_assoc]
        have z5 : ¬ 9223372036854775807 < S.size + 1 := by omega
        go_upto_region 7 with fail
        obtain ⟨O, hO⟩ : ∃ O, S ++ ⟨#[44]⟩ = O := ⟨_, rfl⟩
        have zO : O.size ≤ 433 := by rw [← hO, ByteArray.size_append]; show S.size + 1 ≤ 433; omega
        rw [hO] at hnx ⊢
        clear hO hS
        have z6 : ¬ 9223372036854775807 < O.size + X.size := by omega
        have z7 : ¬ 9223372036854775807 < O.size + X.size + 1 := by omega
        have z8 : ¬ 9223372036854775807 < O.size + X.size + 1 + Y.size := by omega
        go_region_held3 (fun w' => Hid (Kept [] wr w') ∧ w'.cell? ⟨A, 0, none⟩ = some (.int .i64 k) ∧ w'.cell? ⟨A, 1, none⟩ = some (.slice (some ⟨g, off, none⟩) n c) ∧ w'.cell? ⟨g, off + j * 2, none⟩ = some (.int .i64 x) ∧ w'.cell? ⟨g, off + j * 2 + 1, none⟩ = some (.int .i64 y))
          (with_reducible first | assumption | exact mkL b0 b1 p0 p1 (by with_reducible first | assumption | exact Lib.hid ((Kept.refl _ _).drew) | exact Lib.hid (Kept.trans0 (Hid.out (by assumption)) (by assumption))))
          (first
            | (go_at_call_of 51 (Value.int IntKind.i64 x); go_split_ands; refine (l8Coord_any x _ HXY.out.1.1 HXY.out.1.2).mono ?_; rw [HX.out]; rintro e v1 ⟨rfl, hj1⟩)
            | (go_at_call_of 51 (Value.int IntKind.i64 y); go_split_ands; refine (l8Coord_any y _ HXY.out.2.1 HXY.out.2.2).mono ?_; rw [HY.out]; rintro e v2 ⟨rfl, hj2⟩))
        rename_i hH
        have hK9 := Lib.hid (hK.out.trans0 hH.1.out)
        clear hK hH hj1 hj2 p0 p1 b0 b1
        go_wp2_with fail
        go_roundw
        case rel => exact ⟨j + 1, _, by go_num, rfl, by omega, hnx.out, hK9.out⟩
        case measure => simp [intOf] <;> omega
    · obtain rfl : j = n := by omega
      obtain ⟨N, hN⟩ : ∃ N, strB (nameT k) = N := ⟨_, rfl⟩
      have hnl : (nameT k).length ≤ 10 := by unfold nameT; split; simp; split; simp; split; simp; split <;> simp
      have zN : N.size ≤ 10 := by rw [← hN, strB_size]; exact hnl
      have HN := Lib.hid hN
      by_cases h4 : k = 4
      · subst h4
        have hpr : Hid (N ++ ⟨#[40]⟩ ++ (⟨#[40]⟩ ++ S ++ ⟨#[41]⟩) ++ ⟨#[41]⟩ = strB (printT 4 xs j)) := by
          show _ = _
          rw [← hN, hS.out]
          show strB _ ++ strB [40] ++ (strB [40] ++ strB _ ++ strB [41]) ++ strB [41] = _
          simp only [strB_append]
          unfold printT aroundN
          simp
        clear hN hnl hS
        go_wp2_with fail
        refine (l8Name_any _ _ HK.out).mono ?_
        rintro e w2 ⟨rfl, k2⟩
        rw [HN.out]
        have K2 := Lib.hid (hK.out.trans0 k2)
        clear k2 hK
        go_wp2_with fail
        go_ret
        exact ⟨by rw [← hpr.out]; rfl, K2.out⟩
      · have hpr : Hid (N ++ ⟨#[40]⟩ ++ S ++ ⟨#[41]⟩ = strB (printT k xs j)) := by
          show _ = _
          rw [← hN, hS.out]
          show strB _ ++ strB [40] ++ strB _ ++ strB [41] = _
          simp only [strB_append]
          unfold printT aroundN
          rw [if_neg h4]
          simp
        have h4' : (k == 4) = false := beq_eq_false_iff_ne.2 h4
        clear hN hnl hS
        go_wp2_with fail
        refine (l8Name_any _ _ HK.out).mono ?_
        rintro e w2 ⟨rfl, k2⟩
        rw [HN.out]
        have K2 := Lib.hid (hK.out.trans0 k2)
        clear k2 hK
        go_wp2_with fail
        go_ret
        exact ⟨by rw [← hpr.out]; rfl, K2.out⟩
theorem l8Print_any (A : Nat) (k : Int) (a : Option Addr) (n c : Nat) (xs : List Int) (w : World) (h : Rd w a (n * 2) xs) (hz : shapeC k xs n = 0) (b0 : w.cell? ⟨A, 0, none⟩ = some (.int .i64 k)) (b1 : w.cell? ⟨A, 1, none⟩ = some (.slice a n c)) :
    Calls Tryz.prog 24 #[.pointer (some ⟨A, 0, none⟩)] w (Ans w (.string (strB (printT k xs n)))) :=
  l8Print_in A k a n c xs w h (shape_in hz) b0 b1

set_option maxHeartbeats 2000000 in
set_option maxRecDepth 20000 in
theorem sPrintShape_any (k : Int) (a : Option Addr) (n c : Nat) (xs : List Int) (w : World) (h : Rd w a (n * 2) xs) :
    Calls Tryz.prog 10 #[.agg #[.int .i64 k, .slice a n c]] w (Ans w (.agg #[.int .i64 (shapeC k xs n), .string (printS k xs n)])) := by
  have HR := Lib.hid h
  clear h
  by_cases hz : shapeC k xs n = 0
  · have HZ := Lib.hid hz
    have hS : Hid (printS k xs n = strB (printT k xs n)) := if_pos hz
    obtain ⟨T, hT⟩ : ∃ T, strB (printT k xs n) = T := ⟨_, rfl⟩
    have HT := Lib.hid hT
    clear hz hT
    go_enter Tryz.func10, Tryz.ntmps10
    go_wp2_with fail
    refine (sShapeFault_any _ _ _ _ _ _ (HR.out.kept0 (((Kept.refl _ _).alloc _).alloc _))).mono ?_
    rintro e wB ⟨rfl, hk⟩
    rw [HZ.out]
    obtain ⟨⟨b0, b1⟩, r0, r1, f0, f1⟩ := pr_box hk
    have KB := Lib.hid hk
    have RB := Lib.hid (HR.out.kept0 hk.peel.peel)
    clear hk
    go_wp2_with fail
    refine (l8Print_any _ k a n c xs _ RB.out HZ.out b0 b1).mono ?_
    rintro e w2 ⟨rfl, k2⟩
    rw [HT.out]
    have K2 := Lib.hid (KB.out.trans0 k2)
    clear k2
    obtain ⟨_, r0, r1, f0, f1⟩ := pr_box K2.out
    go_wp2_with fail
    obtain ⟨_, t0, t1⟩ := cells2 (.int .i64 0) (.string T) r0 r1
    refine bodyPost_ret (v := .agg #[.int .i64 0, .string T]) (by simp [results, Tryz.results10, go_sem, t0, t1]) rfl ⟨by rw [HZ.out, hS.out, HT.out], ?_⟩
    exact (K2.out.peel.peel.setCell _ _ (by simp)).setCell _ _ (by simp)
  · have hS : Hid (printS k xs n = ⟨#[]⟩) := if_neg hz
    obtain ⟨f, hf⟩ : ∃ f, shapeC k xs n = f := ⟨_, rfl⟩
    have hne : (f == 0) = false := by rw [beq_eq_false_iff_ne, ← hf]; exact hz
    have HF := Lib.hid hf
    clear hf hz
    go_enter Tryz.func10, Tryz.ntmps10
    go_wp2_with fail
    refine (sShapeFault_any _ _ _ _ _ _ (HR.out.kept0 (((Kept.refl _ _).alloc _).alloc _))).mono ?_
    rintro e wB ⟨rfl, hk⟩
    rw [HF.out]
    obtain ⟨⟨b0, b1⟩, r0, r1, f0, f1⟩ := pr_box hk
    have KB := Lib.hid hk
    clear hk
    go_wp2_with fail
    obtain ⟨_, t0, t1⟩ := cells2 (.int .i64 f) (.string ⟨#[]⟩) r0 r1
    refine bodyPost_ret (v := .agg #[.int .i64 f, .string ⟨#[]⟩]) (by simp [results, Tryz.results10, go_sem, t0, t1]) rfl ⟨by rw [HF.out, hS.out], ?_⟩
    exact (KB.out.peel.peel.setCell _ _ (by simp)).setCell _ _ (by simp)

end Go.Proofs.YtlhiahhpmjiioadGreatDoor
