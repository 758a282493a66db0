/-
  Contracts of limbAt, firstNatFault, CompareNats, l1Two, l1Compare. Condition: the slices read as lists of numbers.
-/
import Derived.Test.YtjndjjdffifgcaaFault
namespace Go.Proofs.Ytjndjjdffifgcaa
open Go.RowKit

set_option maxHeartbeats 400000 in
theorem limbAt_any (a : Option Addr) (n c : Nat) (xs : List Int) (p : Int) (w : World) (h : Rd w a n xs) (hp : -9223372036854775808 ≤ p ∧ p ≤ 9223372036854775807) :
    Calls Try.prog 139 #[.slice a n c, .int .i64 p] w fun e w' => e = .returned (.int .i64 (atP xs p)) ∧ w' = w := by
  have HR := Lib.hid h
  have hmax := h.2.1
  have HL := Lib.hid h.1
  clear h
  obtain ⟨hp1, hp2⟩ := hp
  by_cases hneg : p < 0
  · have hv : Hid (atP xs p = 0) := if_pos hneg
    go_enter Try.func139, Try.ntmps139
    go_wp2
    go_ret
    exact ⟨by rw [hv.out]; rfl, rfl⟩
  · obtain ⟨k, rfl⟩ := Int.eq_ofNat_of_zero_le (Int.not_lt.1 hneg)
    have hneg' : decide ((k : Int) < 0) = false := decide_eq_false hneg
    by_cases hlt : k < n
    · have hv : Hid (atP xs k = xs.getD k 0) := atP_nat xs k
      obtain ⟨g, off, rfl, hc⟩ := HR.out.2.2 k hlt
      have hge : decide ((n : Int) ≤ (k : Int)) = false := decide_eq_false (by omega)
      go_enter Try.func139, Try.ntmps139
      go_wp2
      go_ret
      exact ⟨by rw [hv.out]; rfl, rfl⟩
    · have hv : Hid (atP xs k = 0) := by
        show atP xs k = 0
        rw [atP_nat, List.getD_eq_getElem?_getD, List.getElem?_eq_none (by rw [HL.out]; omega)]; rfl
      have hge : decide ((n : Int) ≤ (k : Int)) = true := decide_eq_true (by omega)
      go_enter Try.func139, Try.ntmps139
      go_wp2
      go_ret
      exact ⟨by rw [hv.out]; rfl, rfl⟩

theorem limbAt_at (a : Option Addr) (n c : Nat) (xs : List Int) (p y : Int) (w : World) (h : Rd w a n xs) (hp : -9223372036854775808 ≤ p ∧ p ≤ 9223372036854775807) (hv : atP xs p = y) :
    Calls Try.prog 139 #[.slice a n c, .int .i64 p] w fun e w' => e = .returned (.int .i64 y) ∧ w' = w := by
  subst hv; exact limbAt_any a n c xs p w h hp

set_option maxHeartbeats 400000 in
theorem firstNatFault_two (a b : Option Addr) (n c m c' : Nat) (xs ys : List Int) (w : World) (h : Rd w a n xs) (h' : Rd w b m ys) :
    Calls Try.prog 134 #[.slice (some ⟨w.heap.size, 0, none⟩) 2 2] (w.alloc (.cells #[.slice a n c, .slice b m c'] 22)) (Ans w (.int .i64 (fault2 xs ys))) := by
  have HR := Lib.hid h
  have HR' := Lib.hid h'
  clear h h'
  go_enter Try.func134, Try.ntmps134
  go_wp2
  go_loopw [8] (fun i wr => (i = .int .i64 0 ∧ Hid (Kept [] (w.alloc (.cells #[.slice a n c, .slice b m c'] 22)) wr)) ∨ (i = .int .i64 1 ∧ Hid (natFault xs = 0) ∧ Hid (Kept [] (w.alloc (.cells #[.slice a n c, .slice b m c'] 22)) wr)) ∨ (i = .int .i64 2 ∧ Hid (natFault xs = 0) ∧ Hid (natFault ys = 0) ∧ Hid (Kept [] (w.alloc (.cells #[.slice a n c, .slice b m c'] 22)) wr))) (fun i _ => 2 - (intOf i).toNat)
  case atStart => exact Or.inl ⟨rfl, Kept.refl [] _⟩
  case round =>
    have k0 : Kept [] w (w.alloc (.cells #[.slice a n c, .slice b m c'] 22)) := (Kept.refl [] w).alloc _
    have HK0 := Lib.hid k0
    clear k0
    rcases hrel with ⟨rfl, hK⟩ | ⟨rfl, hx, hK⟩ | ⟨rfl, hx, hy, hK⟩
    · have hc := hK.out.cell (p := ⟨w.heap.size, 0, none⟩) (v := .slice a n c) (by simp) (by simp)
      have hd : Rd wr a n xs := (HR.out.kept0 HK0.out).kept0 hK.out
      have HD := Lib.hid hd
      clear hd
      by_cases hz : natFault xs = 0
      · have hz' := Lib.hid hz
        clear hz
        go_wp2_with (go_at_call 121; refine (NatFault_any _ _ _ _ _ HD.out).mono ?_; rintro e w1 ⟨rfl, hq⟩; rw [hz'.out])
        have hK2 : Hid (Kept [] (w.alloc (.cells #[.slice a n c, .slice b m c'] 22)) w1) := hK.out.trans0 hq
        clear hK hq
        go_roundw
        case rel => exact Or.inr (Or.inl ⟨rfl, hz', hK2⟩)
        case measure => simp [intOf]
      · have hv : Hid (fault2 xs ys = natFault xs) := fault2_first hz
        generalize hf : natFault xs = f at *
        have hne : (f == 0) = false := by rw [beq_eq_false_iff_ne]; exact hz
        have HF := Lib.hid hf
        clear hf hz
        go_wp2_with (go_at_call 121; refine (NatFault_any _ _ _ _ _ HD.out).mono ?_; rintro e w1 ⟨rfl, hq⟩; rw [HF.out])
        have hK2 : Hid (Kept [] w w1) := (HK0.out.trans0 hK.out).trans0 hq
        clear hK hq
        go_ret
        exact ⟨by rw [hv.out]; rfl, hK2.out⟩
    · have hc := hK.out.cell (p := ⟨w.heap.size, 1, none⟩) (v := .slice b m c') (by simp) (by simp)
      have hd : Rd wr b m ys := (HR'.out.kept0 HK0.out).kept0 hK.out
      have HD := Lib.hid hd
      clear hd
      by_cases hz : natFault ys = 0
      · have hz' := Lib.hid hz
        clear hz
        go_wp2_with (go_at_call 121; refine (NatFault_any _ _ _ _ _ HD.out).mono ?_; rintro e w1 ⟨rfl, hq⟩; rw [hz'.out])
        have hK2 : Hid (Kept [] (w.alloc (.cells #[.slice a n c, .slice b m c'] 22)) w1) := hK.out.trans0 hq
        clear hK hq
        go_roundw
        case rel => exact Or.inr (Or.inr ⟨rfl, hx, hz', hK2⟩)
        case measure => simp [intOf]
      · have hv : Hid (fault2 xs ys = natFault ys) := fault2_second hx.out
        generalize hf : natFault ys = f at *
        have hne : (f == 0) = false := by rw [beq_eq_false_iff_ne]; exact hz
        have HF := Lib.hid hf
        clear hf hz
        go_wp2_with (go_at_call 121; refine (NatFault_any _ _ _ _ _ HD.out).mono ?_; rintro e w1 ⟨rfl, hq⟩; rw [HF.out])
        have hK2 : Hid (Kept [] w w1) := (HK0.out.trans0 hK.out).trans0 hq
        clear hK hq
        go_ret
        exact ⟨by rw [hv.out]; rfl, hK2.out⟩
    · have hv : Hid (fault2 xs ys = 0) := (fault2_second hx.out).trans hy.out
      have hK2 : Hid (Kept [] w wr) := HK0.out.trans0 hK.out
      clear hK
      go_wp2
      go_ret
      exact ⟨by rw [hv.out]; rfl, hK2.out⟩

theorem firstNatFault_at (g : Nat) (a b : Option Addr) (n c m c' : Nat) (xs ys : List Int) (w : World) (hg : g = w.heap.size) (h : Rd w a n xs) (h' : Rd w b m ys) :
    Calls Try.prog 134 #[.slice (some ⟨g, 0, none⟩) 2 2] (w.alloc (.cells #[.slice a n c, .slice b m c'] 22)) (Ans w (.int .i64 (fault2 xs ys))) := by
  subst hg; exact firstNatFault_two a b n c m c' xs ys w h h'

set_option maxHeartbeats 400000 in
theorem l1Compare_any (a b : Option Addr) (n c m c' : Nat) (xs ys : List Int) (w : World) (h : Rd w a n xs) (h' : Rd w b m ys) (hx : Nat40 xs) (hy : Nat40 ys) :
    Calls Try.prog 123 #[.slice a n c, .slice b m c'] w (Ans w (.int .i64 (cmpV (val xs) (val ys)))) := by
  have HR := Lib.hid h
  have HR' := Lib.hid h'
  have HL := Lib.hid h.1
  have HL' := Lib.hid h'.1
  have hm := h.2.1
  have hm' := h'.2.1
  have HX := Lib.hid hx
  have HY := Lib.hid hy
  clear h h' hx hy
  by_cases hne : n = m
  · subst hne
    go_enter Try.func123, Try.ntmps123
    go_wp2
    go_loopw [5] (fun i wr => ∃ k : Nat, k ≤ n ∧ i = .int .i64 ((k : Int) - 1) ∧ Hid (∀ j, k ≤ j → j < n → xs.getD j 0 = ys.getD j 0) ∧ Hid (Kept [] w wr)) (fun i _ => (intOf i + 1).toNat)
    case atStart => exact ⟨n, Nat.le_refl _, rfl, fun j h1 h2 => by omega, Kept.refl [] w⟩
    case round =>
      obtain ⟨k, hk, rfl, hE, hK⟩ := hrel
      by_cases hlt : 0 < k
      · obtain ⟨g, off, rfl, hc0⟩ := HR.out.2.2 (k - 1) (by omega)
        obtain ⟨g', off', rfl, hc0'⟩ := HR'.out.2.2 (k - 1) (by omega)
        have hc := hK.out.cell hc0 (by simp)
        have hc' := hK.out.cell hc0' (by simp)
        have h0 : (0 : Int) ≤ (k : Int) - 1 := by omega
        have h1 : (1 : Int) ≤ (k : Int) := by omega
        have h2 : (k : Int) - 1 < (n : Int) := by omega
        have e1 : IntKind.i64.wrap ((k : Int) - 1 - 1) = (k : Int) - 1 - 1 := IntWalk.i64_in _ (by omega)
        clear hc0 hc0'
        rcases Int.lt_trichotomy (xs.getD (k - 1) 0) (ys.getD (k - 1) 0) with hl | hl | hl
        · have hv : Hid (cmpV (val xs) (val ys) = -1) := cmpV_lt (val_lt_at HX.out.limb HY.out.limb n (k - 1) (by omega) (Nat.le_of_eq HL.out) (Nat.le_of_eq HL'.out) (fun j h1 h2 => hE.out j (by omega) h2) hl)
          generalize hy : xs.getD (k - 1) 0 = y at *
          generalize hz : ys.getD (k - 1) 0 = z at *
          clear hy hz
          go_wp2
          go_quiet (fail)
          have hK2 : Hid (Kept [] w (wr.drewN nq)) := hK.out.drewN _
          clear hK
          go_wp2
          go_ret
          exact ⟨by rw [hv.out]; rfl, hK2.out⟩
        · have hE2 : Hid (∀ j, k - 1 ≤ j → j < n → xs.getD j 0 = ys.getD j 0) := fun j h1 h2 => by
            by_cases e : j = k - 1
            · subst e; exact hl
            · exact hE.out j (by omega) h2
          rw [← hl] at hc'
          clear hl
          generalize hy : xs.getD (k - 1) 0 = y at *
          clear hy
          go_wp2
          go_quiet (fail)
          go_wp2
          go_quiet (fail)
          go_wp2
          go_roundw
          case rel => exact ⟨k - 1, by omega, by congr 1; omega, hE2, by first | exact (hK.out.drewN _).drewN _ | exact hK.out.drewN _⟩
          case measure => simp [intOf]; omega
        · have hv : Hid (cmpV (val xs) (val ys) = 1) := cmpV_gt (val_lt_at HY.out.limb HX.out.limb n (k - 1) (by omega) (Nat.le_of_eq HL'.out) (Nat.le_of_eq HL.out) (fun j h1 h2 => (hE.out j (by omega) h2).symm) hl)
          have hnl : ¬ xs.getD (k - 1) 0 < ys.getD (k - 1) 0 := by omega
          generalize hy : xs.getD (k - 1) 0 = y at *
          generalize hz : ys.getD (k - 1) 0 = z at *
          clear hy hz
          go_wp2
          go_quiet (fail)
          go_wp2
          go_quiet (fail)
          go_wp2
          go_ret
          exact ⟨by rw [hv.out]; rfl, by first | exact (hK.out.drewN _).drewN _ | exact hK.out.drewN _⟩
      · obtain rfl : k = 0 := by omega
        have hv : Hid (cmpV (val xs) (val ys) = 0) := cmpV_eq (val_eq_at n (Nat.le_of_eq HL.out) (Nat.le_of_eq HL'.out) (fun j hj => hE.out j (Nat.zero_le _) hj))
        go_wp2
        go_ret
        exact ⟨by rw [hv.out]; rfl, hK.out⟩
  · have hne' : ((n : Int) == (m : Int)) = false := by rw [beq_eq_false_iff_ne]; omega
    by_cases hl : n < m
    · have hv : Hid (cmpV (val xs) (val ys) = -1) := cmpV_lt (val_lt_len HX.out HY.out (by rw [HL.out, HL'.out]; exact hl))
      go_enter Try.func123, Try.ntmps123
      go_wp2
      go_ret
      exact ⟨by rw [hv.out]; rfl, Kept.refl _ _⟩
    · have hv : Hid (cmpV (val xs) (val ys) = 1) := cmpV_gt (val_lt_len HY.out HX.out (by rw [HL.out, HL'.out]; omega))
      go_enter Try.func123, Try.ntmps123
      go_wp2
      go_ret
      exact ⟨by rw [hv.out]; rfl, Kept.refl _ _⟩

set_option maxHeartbeats 400000 in
theorem CompareNats_any (a b : Option Addr) (n c m c' : Nat) (xs ys : List Int) (w : World) (h : Rd w a n xs) (h' : Rd w b m ys) :
    Calls Try.prog 117 #[.slice a n c, .slice b m c'] w (Ans w (.int .i64 (if fault2 xs ys = 0 then cmpV (val xs) (val ys) else 0))) := by
  have HR := Lib.hid h
  have HR' := Lib.hid h'
  have hmn := h.2.1
  have hmm := h'.2.1
  have HL := Lib.hid h.1
  have HL' := Lib.hid h'.1
  clear h h'
  by_cases hz : fault2 xs ys = 0
  · have hz' := Lib.hid hz
    have hx := Lib.hid (natFault_zero (fault2_zero hz).1)
    have hy := Lib.hid (natFault_zero (fault2_zero hz).2)
    rw [if_pos hz]
    clear hz
    obtain ⟨t, ht⟩ : ∃ t : Nat, t = max n m := ⟨_, rfl⟩
    have hnt : n ≤ t := by omega
    have hmt : m ≤ t := by omega
    have ht63 : t ≤ 9223372036854775807 := by omega
    have HT := Lib.hid ht
    clear ht
    go_enter Try.func117, Try.ntmps117
    go_wp2_with fail
    refine (firstNatFault_two _ _ _ _ _ _ _ _ _ HR.out HR'.out).mono ?_
    rintro e w1 ⟨rfl, hq⟩
    rw [hz'.out]
    have HQ := Lib.hid hq
    clear hq
    go_wp2_with fail
    all_goals
      go_loopw [5] (fun i wr => ∃ k : Nat, k ≤ t ∧ i = .int .i64 ((k : Int) - 1) ∧ Hid (∀ j, k ≤ j → j < t → xs.getD j 0 = ys.getD j 0) ∧ Hid (Kept [] w wr)) (fun i _ => (intOf i + 1).toNat)
      case atStart => exact ⟨_, by first | exact hnt | exact hmt, rfl, fun j h1 h2 => by have := HT.out; omega, HQ.out⟩
      case round =>
        obtain ⟨k, hk, rfl, hE, hK⟩ := hrel
        by_cases hlt : 0 < k
        · have hr : Rd wr a n xs := HR.out.kept0 hK.out
          have hr' : Rd wr b m ys := HR'.out.kept0 hK.out
          have HRr := Lib.hid hr
          have HRr' := Lib.hid hr'
          have h0 : (0 : Int) ≤ (k : Int) - 1 := by omega
          have h1 : (1 : Int) ≤ (k : Int) := by omega
          have e1 : IntKind.i64.wrap ((k : Int) - 1 - 1) = (k : Int) - 1 - 1 := IntWalk.i64_in _ (by omega)
          have ea : Hid (atP xs ((k : Int) - 1) = xs.getD (k - 1) 0) := by
            show atP xs ((k : Int) - 1) = xs.getD (k - 1) 0
            rw [show (k : Int) - 1 = ((k - 1 : Nat) : Int) by omega, atP_nat]
          have eb : Hid (atP ys ((k : Int) - 1) = ys.getD (k - 1) 0) := by
            show atP ys ((k : Int) - 1) = ys.getD (k - 1) 0
            rw [show (k : Int) - 1 = ((k - 1 : Nat) : Int) by omega, atP_nat]
          clear hr hr'
          rcases Int.lt_trichotomy (xs.getD (k - 1) 0) (ys.getD (k - 1) 0) with hl | hl | hl
          · have hv : Hid (cmpV (val xs) (val ys) = -1) := cmpV_lt (val_lt_at hx.out.limb hy.out.limb t (k - 1) (by omega) (by rw [HL.out]; exact hnt) (by rw [HL'.out]; exact hmt) (fun j h1 h2 => hE.out j (by omega) h2) hl)
            generalize hyy : xs.getD (k - 1) 0 = y at *
            generalize hzz : ys.getD (k - 1) 0 = z at *
            clear hyy hzz
            go_wp2_with fail
            refine (limbAt_any _ _ _ _ _ _ HRr.out (by omega)).mono ?_
            rintro e w2 ⟨rfl, rfl⟩
            rw [ea.out]
            go_wp2_with fail
            refine (limbAt_any _ _ _ _ _ _ HRr'.out (by omega)).mono ?_
            rintro e w2 ⟨rfl, rfl⟩
            rw [eb.out]
            go_wp2_with fail
            go_ret
            exact ⟨by rw [hv.out]; rfl, hK.out⟩
          · have hE2 : Hid (∀ j, k - 1 ≤ j → j < t → xs.getD j 0 = ys.getD j 0) := fun j h1 h2 => by
              by_cases e : j = k - 1
              · subst e; exact hl
              · exact hE.out j (by omega) h2
            rw [← hl] at eb
            clear hl
            generalize hyy : xs.getD (k - 1) 0 = y at *
            clear hyy
            go_wp2_with fail
            refine (limbAt_any _ _ _ _ _ _ HRr.out (by omega)).mono ?_
            rintro e w2 ⟨rfl, rfl⟩
            rw [ea.out]
            go_wp2_with fail
            refine (limbAt_any _ _ _ _ _ _ HRr'.out (by omega)).mono ?_
            rintro e w2 ⟨rfl, rfl⟩
            rw [eb.out]
            go_wp2_with fail
            refine (limbAt_any _ _ _ _ _ _ HRr.out (by omega)).mono ?_
            rintro e w2 ⟨rfl, rfl⟩
            rw [ea.out]
            go_wp2_with fail
            refine (limbAt_any _ _ _ _ _ _ HRr'.out (by omega)).mono ?_
            rintro e w2 ⟨rfl, rfl⟩
            rw [eb.out]
            go_wp2_with fail
            go_roundw
            case rel => exact ⟨k - 1, by omega, by congr 1; omega, hE2, hK⟩
            case measure => simp [intOf]; omega
          · have hv : Hid (cmpV (val xs) (val ys) = 1) := cmpV_gt (val_lt_at hy.out.limb hx.out.limb t (k - 1) (by omega) (by rw [HL'.out]; exact hmt) (by rw [HL.out]; exact hnt) (fun j h1 h2 => (hE.out j (by omega) h2).symm) hl)
            have hnl : ¬ xs.getD (k - 1) 0 < ys.getD (k - 1) 0 := by omega
            generalize hyy : xs.getD (k - 1) 0 = y at *
            generalize hzz : ys.getD (k - 1) 0 = z at *
            clear hyy hzz
            go_wp2_with fail
            refine (limbAt_any _ _ _ _ _ _ HRr.out (by omega)).mono ?_
            rintro e w2 ⟨rfl, rfl⟩
            rw [ea.out]
            go_wp2_with fail
            refine (limbAt_any _ _ _ _ _ _ HRr'.out (by omega)).mono ?_
            rintro e w2 ⟨rfl, rfl⟩
            rw [eb.out]
            go_wp2_with fail
            refine (limbAt_any _ _ _ _ _ _ HRr.out (by omega)).mono ?_
            rintro e w2 ⟨rfl, rfl⟩
            rw [ea.out]
            go_wp2_with fail
            refine (limbAt_any _ _ _ _ _ _ HRr'.out (by omega)).mono ?_
            rintro e w2 ⟨rfl, rfl⟩
            rw [eb.out]
            go_wp2_with fail
            go_ret
            exact ⟨by rw [hv.out]; rfl, hK.out⟩
        · obtain rfl : k = 0 := by omega
          have hv : Hid (cmpV (val xs) (val ys) = 0) := cmpV_eq (val_eq_at t (by rw [HL.out]; exact hnt) (by rw [HL'.out]; exact hmt) (fun j hj => hE.out j (Nat.zero_le _) hj))
          go_wp2
          go_ret
          exact ⟨by rw [hv.out]; rfl, hK.out⟩
  · rw [if_neg hz]
    go_enter Try.func117, Try.ntmps117
    go_wp2_with fail
    refine (firstNatFault_two _ _ _ _ _ _ _ _ _ HR.out HR'.out).mono ?_
    rintro e w1 ⟨rfl, hq⟩
    generalize hf : fault2 xs ys = f at *
    have hne : (f == 0) = false := by rw [beq_eq_false_iff_ne]; exact hz
    have HQ := Lib.hid hq
    have HF := Lib.hid hf
    clear hf hz hq
    go_wp2_with fail
    go_ret
    exact ⟨rfl, HQ.out⟩

end Go.Proofs.Ytjndjjdffifgcaa
