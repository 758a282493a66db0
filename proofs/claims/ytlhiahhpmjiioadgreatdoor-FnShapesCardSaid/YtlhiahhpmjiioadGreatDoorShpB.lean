/-
  Contracts of ShapeFault, the program's and the model's. Condition: the slice reads as a list of numbers, two a point.
-/
import Derived.Test.YtlhiahhpmjiioadGreatDoorShpA
namespace Go.Proofs.YtlhiahhpmjiioadGreatDoor
open Go.RowKit

theorem few_ord {k : Int} {n : Nat} (hk : inK k = true) (h1 : 1 ≤ n ∧ n ≤ 12) : decide (szLo k ≤ (n : Int) ∧ (n : Int) ≤ szHi k) = decide (¬ fewS k n) := by
  have hk' : 1 ≤ k ∧ k ≤ 4 := of_decide_eq_true hk
  apply decide_eq_decide.2
  unfold fewS szLo szHi
  rcases (by omega : k = 1 ∨ k = 2 ∨ k = 3 ∨ k = 4) with rfl | rfl | rfl | rfl <;> simp <;> omega

set_option maxHeartbeats 4000000 in
theorem ShapeFault_any (k : Int) (a : Option Addr) (n c : Nat) (xs : List Int) (w : World) (h : Rd w a (n * 2) xs) :
    Calls Tryz.prog 14 #[.agg #[.int .i64 k, .slice a n c]] w (Ans w (.int .i64 (shapeC k xs n))) := by
  have HR := Lib.hid h
  clear h
  obtain ⟨b, hb⟩ : ∃ b, inK k = b := ⟨_, rfl⟩
  have HB := Lib.hid (ord_xyz (x := 1) (y := k) (z := 4) b hb.symm)
  cases b
  · have hv := Lib.hid (shapeC_kind (xs := xs) (n := n) hb)
    clear hb
    go_enter Tryz.func14, Tryz.ntmps14
    go_wp2_with fail
    refine (inOrder_any _ _ _ _ _ (rd_threeK _ _ _ _ (by simp)) _ HB.out).mono ?_
    rintro e w1 ⟨rfl, h1⟩
    go_wp2_with fail
    go_ret
    exact ⟨by rw [hv.out]; rfl, h1.peel.peel⟩
  have HK := Lib.hid hb
  clear hb
  by_cases hp : ptsFault xs n = 0
  · have hp' := Lib.hid hp
    have hn := Lib.hid (ptsFault_len hp)
    clear hp
    obtain ⟨b2, hb2⟩ : ∃ b, decide (¬ fewS k n) = b := ⟨_, rfl⟩
    have HB2 := Lib.hid (ord_xyz (x := szLo k) (y := (n : Int)) (z := szHi k) b2 (by rw [few_ord HK.out hn.out]; exact hb2.symm))
    obtain ⟨lo, hlo⟩ : ∃ l, szLo k = l := ⟨_, rfl⟩
    obtain ⟨hi, hhi⟩ : ∃ l, szHi k = l := ⟨_, rfl⟩
    rw [hlo, hhi] at HB2
    have HLO := Lib.hid hlo
    have HHI := Lib.hid hhi
    clear hlo hhi
    cases b2
    · have hv := Lib.hid (shapeC_few HK.out hp'.out (Decidable.of_not_not (of_decide_eq_false hb2)))
      clear hb2
      go_enter Tryz.func14, Tryz.ntmps14
      go_wp2_with fail
      refine (inOrder_any _ _ _ _ _ (rd_threeK _ _ _ _ (by simp)) _ HB.out).mono ?_
      rintro e w1 ⟨rfl, h1⟩
      have K1 := Lib.hid h1.peel
      obtain ⟨c0, c1⟩ := boxS K1.out
      clear h1
      go_wp2_with fail
      refine (PointsFault_any _ _ _ _ _ (HR.out.kept0 K1.out.peel)).mono ?_
      rintro e w2 ⟨rfl, h2⟩
      rw [hp'.out]
      have K2 := Lib.hid (K1.out.trans0 h2)
      obtain ⟨c0, c1⟩ := boxS K2.out
      clear h2 K1
      go_wp2_with fail
      refine (sizesOf_any _ _).mono ?_
      rintro e w3 ⟨rfl, h3⟩
      rw [HLO.out, HHI.out]
      have K3 := Lib.hid (K2.out.trans0 h3)
      obtain ⟨c0, c1⟩ := boxS K3.out
      clear h3 K2
      go_wp2_with fail
      refine (inOrder_any _ _ _ _ _ (rd_threeK _ _ _ _ (by simp)) _ HB2.out).mono ?_
      rintro e w4 ⟨rfl, h4⟩
      have K4 := Lib.hid (K3.out.trans0 h4.peel)
      obtain ⟨c0, c1⟩ := boxS K4.out
      clear h4 K3
      go_wp2_with fail
      go_ret
      exact ⟨by rw [hv.out]; rfl, K4.out.peel⟩
    · have hf := Lib.hid (of_decide_eq_true hb2)
      clear hb2
      by_cases hr : k = 4
      · subst hr
        have hn4 : 4 ≤ n := by
          have := hf.out
          unfold fewS at this
          omega
        obtain ⟨r, hr⟩ : ∃ r, sameEnds xs n = r := ⟨_, rfl⟩
        have HRr := Lib.hid hr
        have hv : Hid (shapeC 4 xs n = if r = true then 0 else 1) := by
          cases r
          · exact shapeC_ring HK.out hp'.out hf.out ⟨rfl, hr⟩
          · exact shapeC_ok HK.out hp'.out hf.out (by rintro ⟨_, h⟩; rw [hr] at h; cases h)
        clear hr
        have hn4' := Lib.hid hn4
        clear hn4
        cases r
        all_goals
          go_enter Tryz.func14, Tryz.ntmps14
          go_wp2_with fail
          refine (inOrder_any _ _ _ _ _ (rd_threeK _ _ _ _ (by simp)) _ HB.out).mono ?_
          rintro e w1 ⟨rfl, h1⟩
          have K1 := Lib.hid h1.peel
          obtain ⟨c0, c1⟩ := boxS K1.out
          clear h1
          go_wp2_with fail
          refine (PointsFault_any _ _ _ _ _ (HR.out.kept0 K1.out.peel)).mono ?_
          rintro e w2 ⟨rfl, h2⟩
          rw [hp'.out]
          have K2 := Lib.hid (K1.out.trans0 h2)
          obtain ⟨c0, c1⟩ := boxS K2.out
          clear h2 K1
          go_wp2_with fail
          refine (sizesOf_any _ _).mono ?_
          rintro e w3 ⟨rfl, h3⟩
          rw [HLO.out, HHI.out]
          have K3 := Lib.hid (K2.out.trans0 h3)
          obtain ⟨c0, c1⟩ := boxS K3.out
          clear h3 K2
          go_wp2_with fail
          refine (inOrder_any _ _ _ _ _ (rd_threeK _ _ _ _ (by simp)) _ HB2.out).mono ?_
          rintro e w4 ⟨rfl, h4⟩
          have K4 := Lib.hid (K3.out.trans0 h4.peel)
          obtain ⟨c0, c1⟩ := boxS K4.out
          clear h4 K3
          go_wp2_with fail
          refine (isRing_yes _ _ _ _ _ (HR.out.kept0 K4.out.peel) hn4'.out).mono ?_
          rintro e w5 ⟨rfl, h5⟩
          rw [HRr.out]
          have K5 := Lib.hid (K4.out.trans0 h5)
          clear h5 K4
          go_wp2_with fail
          go_ret
          exact ⟨by rw [hv.out]; rfl, K5.out.peel⟩
      · have hv := Lib.hid (shapeC_ok HK.out hp'.out hf.out (fun x => hr x.1))
        go_enter Tryz.func14, Tryz.ntmps14
        go_wp2_with fail
        refine (inOrder_any _ _ _ _ _ (rd_threeK _ _ _ _ (by simp)) _ HB.out).mono ?_
        rintro e w1 ⟨rfl, h1⟩
        have K1 := Lib.hid h1.peel
        obtain ⟨c0, c1⟩ := boxS K1.out
        clear h1
        go_wp2_with fail
        refine (PointsFault_any _ _ _ _ _ (HR.out.kept0 K1.out.peel)).mono ?_
        rintro e w2 ⟨rfl, h2⟩
        rw [hp'.out]
        have K2 := Lib.hid (K1.out.trans0 h2)
        obtain ⟨c0, c1⟩ := boxS K2.out
        clear h2 K1
        go_wp2_with fail
        refine (sizesOf_any _ _).mono ?_
        rintro e w3 ⟨rfl, h3⟩
        rw [HLO.out, HHI.out]
        have K3 := Lib.hid (K2.out.trans0 h3)
        obtain ⟨c0, c1⟩ := boxS K3.out
        clear h3 K2
        go_wp2_with fail
        refine (inOrder_any _ _ _ _ _ (rd_threeK _ _ _ _ (by simp)) _ HB2.out).mono ?_
        rintro e w4 ⟨rfl, h4⟩
        have K4 := Lib.hid (K3.out.trans0 h4.peel)
        obtain ⟨c0, c1⟩ := boxS K4.out
        clear h4 K3
        go_wp2_with fail
        go_ret
        exact ⟨by rw [hv.out]; rfl, K4.out.peel⟩
  · have hv := Lib.hid (shapeC_pts HK.out hp)
    generalize hf : ptsFault xs n = f at *
    have hne : (f == 0) = false := by rw [beq_eq_false_iff_ne]; exact hp
    have HF := Lib.hid hf
    clear hf hp
    go_enter Tryz.func14, Tryz.ntmps14
    go_wp2_with fail
    refine (inOrder_any _ _ _ _ _ (rd_threeK _ _ _ _ (by simp)) _ HB.out).mono ?_
    rintro e w1 ⟨rfl, h1⟩
    have K1 := Lib.hid h1.peel
    obtain ⟨c0, c1⟩ := boxS K1.out
    clear h1
    go_wp2_with fail
    refine (PointsFault_any _ _ _ _ _ (HR.out.kept0 K1.out.peel)).mono ?_
    rintro e w2 ⟨rfl, h2⟩
    rw [HF.out]
    have K2 := Lib.hid (K1.out.trans0 h2)
    clear h2 K1
    go_wp2_with fail
    go_ret
    exact ⟨by rw [hv.out]; rfl, K2.out.peel⟩

set_option maxHeartbeats 2000000 in
theorem l1InK_any (x : Int) (w : World) : Calls Tryz.prog 38 #[.int .i64 x, .int .i64 1, .int .i64 4] w (Ans w (.bool (inK x))) := by
  by_cases h1 : 1 ≤ x
  · by_cases h2 : x ≤ 4
    · have hv : Hid (inK x = true) := decide_eq_true ⟨h1, h2⟩
      go_enter Tryz.func38, Tryz.ntmps38
      go_wp2
      go_ret
      exact ⟨by rw [hv.out]; rfl, Kept.refl _ _⟩
    · have hv : Hid (inK x = false) := decide_eq_false (fun h => h2 h.2)
      go_enter Tryz.func38, Tryz.ntmps38
      go_wp2
      go_ret
      exact ⟨by rw [hv.out]; rfl, Kept.refl _ _⟩
  · have hv : Hid (inK x = false) := decide_eq_false (fun h => h1 h.1)
    go_enter Tryz.func38, Tryz.ntmps38
    go_wp2
    go_ret
    exact ⟨by rw [hv.out]; rfl, Kept.refl _ _⟩

attribute [local go_sem ↓] run_ptEq run_ptNe

set_option maxHeartbeats 1000000 in
theorem sShapeFault_any (k : Int) (a : Option Addr) (n c : Nat) (xs : List Int) (w : World) (h : Rd w a (n * 2) xs) :
    Calls Tryz.prog 15 #[.agg #[.int .i64 k, .slice a n c]] w (Ans w (.int .i64 (shapeC k xs n))) := by
  have HR := Lib.hid h
  clear h
  obtain ⟨b, hb⟩ : ∃ b, inK k = b := ⟨_, rfl⟩
  cases b
  · have hv := Lib.hid (shapeC_kind (xs := xs) (n := n) hb)
    have HB := Lib.hid hb
    clear hb
    go_enter Tryz.func15, Tryz.ntmps15
    go_wp2_with fail
    refine (l1InK_any _ _).mono ?_
    rintro e w1 ⟨rfl, h1⟩
    rw [HB.out]
    go_wp2_with fail
    go_ret
    exact ⟨by rw [hv.out]; rfl, h1.peel⟩
  have HB := Lib.hid hb
  have hk4 : 1 ≤ k ∧ k ≤ 4 := of_decide_eq_true hb
  clear hb
  by_cases hp : ptsFault xs n = 0
  · have hp' := Lib.hid hp
    have hn := ptsFault_len hp
    clear hp
    by_cases hf : fewS k n
    · have hv := Lib.hid (shapeC_few HB.out hp'.out hf)
      have g1 : (decide (k = 1) && decide (¬ (n : Int) = 1) || decide (k = 3) && decide ((n : Int) < 2) || decide (k = 4) && decide ((n : Int) < 4)) = true := by
        unfold fewS at hf
        simp only [Bool.or_eq_true, Bool.and_eq_true, decide_eq_true_eq]
        omega
      unfold fewS at hf
      rcases (by omega : (k = 1 ∧ n ≠ 1) ∨ (k = 3 ∧ n < 2) ∨ (k = 4 ∧ n < 4)) with ⟨rfl, hq⟩ | ⟨rfl, hq⟩ | ⟨rfl, hq⟩
      all_goals
        clear g1 hf hk4
        go_enter Tryz.func15, Tryz.ntmps15
        go_wp2_with fail
        refine (l1InK_any _ _).mono ?_
        rintro e w1 ⟨rfl, h1⟩
        rw [HB.out]
        obtain ⟨c0, c1⟩ := boxS h1
        have K1 := Lib.hid h1
        clear h1
        go_wp2_with fail
        refine (sPointsFault_any _ _ _ _ _ (HR.out.kept0 K1.out.peel)).mono ?_
        rintro e w2 ⟨rfl, h2⟩
        rw [hp'.out]
        have K2 := Lib.hid (K1.out.trans0 h2)
        obtain ⟨c0, c1⟩ := boxS K2.out
        clear h2 K1
        go_wp2_with fail
        go_ret
        exact ⟨by rw [hv.out]; rfl, K2.out.peel⟩
    · by_cases hr : k = 4
      · subst hr
        have hn4 : 4 ≤ n := by
          unfold fewS at hf
          omega
        obtain ⟨v, hse⟩ : ∃ v, sameEnds xs n = v := ⟨_, rfl⟩
        have hv : Hid (shapeC 4 xs n = if v = true then 0 else 1) := by
          cases v
          · exact shapeC_ring HB.out hp'.out hf ⟨rfl, hse⟩
          · exact shapeC_ok HB.out hp'.out hf (by rintro ⟨_, h⟩; rw [hse] at h; cases h)
        obtain ⟨g, off, rfl, p0, p1⟩ := rd_pt HR.out 0 (by omega)
        obtain ⟨g', off', he, d0, d1⟩ := rd_pt HR.out (n - 1) (by omega)
        simp at he
        obtain ⟨rfl, rfl⟩ := he
        unfold sameEnds at hse
        simp only [Nat.zero_mul, Nat.add_zero, Nat.zero_add] at p0 p1
        generalize xs.getD 0 0 = x0 at *
        generalize xs.getD 1 0 = x1 at *
        generalize xs.getD ((n - 1) * 2) 0 = y0 at *
        generalize xs.getD ((n - 1) * 2 + 1) 0 = y1 at *
        have P := Lib.hid (And.intro (And.intro p0 p1) (And.intro d0 d1))
        clear p0 p1 d0 d1 hf
        have e1 : IntKind.i64.wrap ((n : Int) - 1) = (n : Int) - 1 := IntWalk.i64_in _ (by omega)
        have hlt1 : n - 1 < n := by omega
        have hlt2 : (n : Int) - 1 < n := by omega
        have hnn : (1 : Int) ≤ n := by omega
        have h0n : 0 < n := by omega
        have h4 : decide ((n : Int) < 4) = false := decide_eq_false (by omega)
        cases v
        all_goals
          go_enter Tryz.func15, Tryz.ntmps15
          go_wp2_with fail
          refine (l1InK_any _ _).mono ?_
          rintro e w1 ⟨rfl, h1⟩
          rw [HB.out]
          obtain ⟨c0, c1⟩ := boxS h1
          have K1 := Lib.hid h1
          clear h1
          go_wp2_with fail
          refine (sPointsFault_any _ _ _ _ _ (HR.out.kept0 K1.out.peel)).mono ?_
          rintro e w2 ⟨rfl, h2⟩
          rw [hp'.out]
          have K2 := Lib.hid (K1.out.trans0 h2)
          obtain ⟨c0, c1⟩ := boxS K2.out
          have p0 := K2.out.peel.cell P.out.1.1 (by simp)
          have p1 := K2.out.peel.cell P.out.1.2 (by simp)
          have p2 := K2.out.peel.cell P.out.2.1 (by simp)
          have p3 := K2.out.peel.cell P.out.2.2 (by simp)
          clear h2 K1
          go_wp2_with fail
          go_quiet (fail)
          go_wp2_with fail
          go_ret
          exact ⟨by rw [hv.out]; rfl, K2.out.peel.drewN _⟩
      · have hv := Lib.hid (shapeC_ok HB.out hp'.out hf (fun x => hr x.1))
        unfold fewS at hf
        rcases (by omega : (k = 1 ∧ n = 1) ∨ k = 2 ∨ (k = 3 ∧ 2 ≤ n)) with ⟨rfl, rfl⟩ | rfl | ⟨rfl, hq⟩
        all_goals
          clear hf hk4 hr
          go_enter Tryz.func15, Tryz.ntmps15
          go_wp2_with fail
          refine (l1InK_any _ _).mono ?_
          rintro e w1 ⟨rfl, h1⟩
          rw [HB.out]
          obtain ⟨c0, c1⟩ := boxS h1
          have K1 := Lib.hid h1
          clear h1
          go_wp2_with fail
          refine (sPointsFault_any _ _ _ _ _ (HR.out.kept0 K1.out.peel)).mono ?_
          rintro e w2 ⟨rfl, h2⟩
          rw [hp'.out]
          have K2 := Lib.hid (K1.out.trans0 h2)
          obtain ⟨c0, c1⟩ := boxS K2.out
          clear h2 K1
          go_wp2_with fail
          go_quiet (fail)
          go_wp2_with fail
          go_ret
          exact ⟨by rw [hv.out]; rfl, K2.out.peel.drewN _⟩
  · have hv := Lib.hid (shapeC_pts HB.out hp)
    generalize hf : ptsFault xs n = f at *
    have hne : (f == 0) = false := by rw [beq_eq_false_iff_ne]; exact hp
    have HF := Lib.hid hf
    clear hf hp
    go_enter Tryz.func15, Tryz.ntmps15
    go_wp2_with fail
    refine (l1InK_any _ _).mono ?_
    rintro e w1 ⟨rfl, h1⟩
    rw [HB.out]
    obtain ⟨c0, c1⟩ := boxS h1
    have K1 := Lib.hid h1
    clear h1
    go_wp2_with fail
    refine (sPointsFault_any _ _ _ _ _ (HR.out.kept0 K1.out.peel)).mono ?_
    rintro e w2 ⟨rfl, h2⟩
    rw [HF.out]
    have K2 := Lib.hid (K1.out.trans0 h2)
    clear h2 K1
    go_wp2_with fail
    go_ret
    exact ⟨by rw [hv.out]; rfl, K2.out.peel⟩

end Go.Proofs.YtlhiahhpmjiioadGreatDoor
