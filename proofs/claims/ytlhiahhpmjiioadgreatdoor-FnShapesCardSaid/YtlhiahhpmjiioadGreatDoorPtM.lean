/-
  Contracts of PointsFault, the program's and the model's, of firstFault over points, of eqPointS. Condition: the slices read as lists of numbers, two a point.
-/
import Derived.Deep.RegionHeld3
import Derived.Deep.DrawnRows
import Derived.Deep.DeepCutAuto
import Derived.Test.YtlhiahhpmjiioadGreatDoorPtL
import Derived.Test.YtlhiahhpmjiioadGreatDoorRngA
namespace Go.Proofs.YtlhiahhpmjiioadGreatDoor
open Go.RowKit

set_option maxHeartbeats 2000000 in
theorem firstPoint_any (a : Option Addr) (n c : Nat) (xs : List Int) (w : World) (h : Rd w a (n * 2) xs) :
    Calls Tryz.prog 62 #[.func (.func 63) #[] #[], .slice a n c] w (Ans w (.int .i64 (ptsFirst xs n))) := by
  have hmax := h.2.1
  have HR := Lib.hid h
  clear h
  go_enter Tryz.func62, Tryz.ntmps62
  go_wp2
  go_loopw [10] (fun i wr => ∃ k : Nat, k ≤ n ∧ i = .int .i64 k ∧ Hid (PtsTo xs k) ∧ Hid (Kept [] w wr)) (fun i _ => n - (intOf i).toNat)
  case atStart => exact ⟨0, Nat.zero_le _, rfl, fun i hi => by omega, Kept.refl [] w⟩
  case round =>
    obtain ⟨k, hk, rfl, hO, hK⟩ := hrel
    by_cases hlt : k < n
    · obtain ⟨g, off, rfl, hc0, hc1⟩ := rd_pt HR.out k hlt
      have hc := hK.out.cell hc0 (by simp)
      have hc' := hK.out.cell hc1 (by simp)
      clear hc0 hc1
      generalize hx0 : xs.getD (k * 2) 0 = x0 at *
      generalize hx1 : xs.getD (k * 2 + 1) 0 = x1 at *
      have X0 := Lib.hid hx0
      have X1 := Lib.hid hx1
      clear hx0 hx1
      have hk1 : Kept [] wr (wr.alloc (.cells #[.int .i64 x0, .int .i64 x1] 44)) := (Kept.refl [] wr).alloc _
      have HK1 := Lib.hid (hK.out.trans0 hk1)
      clear hk1
      by_cases hz : ptFault x0 x1 = 0
      · have hz' := Lib.hid hz
        have hO2 := Lib.hid (hO.out.more X0.out X1.out hz)
        clear hz
        go_wp2_with (refine (PointFault_any _ _ _).mono ?_; rintro e w1 ⟨rfl, hq⟩; rw [hz'.out])
        have hK2 := Lib.hid (HK1.out.trans0 hq)
        clear hK hq
        go_roundw
        case rel => exact ⟨k + 1, by omega, by go_num, hO2, hK2⟩
        case measure => simp [intOf]; omega
      · have hv := Lib.hid (ptsFirst_no hlt X0.out X1.out hz)
        generalize hf : ptFault x0 x1 = f at *
        have hne : (f == 0) = false := by rw [beq_eq_false_iff_ne]; exact hz
        have HF := Lib.hid hf
        clear hf hz
        go_wp2_with (refine (PointFault_any _ _ _).mono ?_; rintro e w1 ⟨rfl, hq⟩; rw [HF.out])
        have hK2 := Lib.hid (HK1.out.trans0 hq)
        clear hK hq
        go_ret
        exact ⟨by rw [hv.out]; rfl, hK2.out⟩
    · obtain rfl : k = n := by omega
      have hv := Lib.hid (ptsFirst_yes hO.out)
      go_wp2
      go_ret
      exact ⟨by rw [hv.out]; rfl, hK.out⟩

theorem rd_three12 (w : World) (x : Int) : Rd (w.alloc (.cells #[.int .i64 1, .int .i64 x, .int .i64 12] 2)) (some ⟨w.heap.size, 0, none⟩) 3 [1, x, 12] := by
  have := Sl.ofBlk (Blk.new w [1, x, 12]) (by simp)
  exact this.rd
def OrdB (b : Bool) (n : Nat) : Prop := b = true ↔ OrdTo [1, (n : Int), 12] 3
theorem ord_three12 (n : Nat) (b : Bool) (hb : b = decide (¬ (n < 1 ∨ 12 < n))) : OrdB b n := by
  subst hb
  unfold OrdB
  rw [decide_eq_true_eq]
  constructor
  · intro h i hi
    rcases (by omega : i = 0 ∨ i = 1) with rfl | rfl
    · simp; omega
    · simp; omega
  · intro h
    have h0 := h 0 (by omega)
    have h1 := h 1 (by omega)
    simp at h0 h1
    omega

set_option maxHeartbeats 2000000 in
theorem PointsFault_any (a : Option Addr) (n c : Nat) (xs : List Int) (w : World) (h : Rd w a (n * 2) xs) :
    Calls Tryz.prog 35 #[.slice a n c] w (Ans w (.int .i64 (ptsFault xs n))) := by
  have hmax := h.2.1
  have hm2 : n ≤ 9223372036854775807 := by omega
  have HR := Lib.hid h
  clear h
  obtain ⟨b, hb⟩ : ∃ b, b = decide (¬ (n < 1 ∨ 12 < n)) := ⟨_, rfl⟩
  have HB := Lib.hid (ord_three12 n b hb)
  cases b
  · have hv := Lib.hid (ptsFault_many (xs := xs) (n := n) (Decidable.of_not_not (of_decide_eq_false hb.symm)))
    clear hb
    go_enter Tryz.func35, Tryz.ntmps35
    go_wp2_with fail
    refine (inOrder_any _ _ _ _ _ (rd_three12 _ _) _ HB.out).mono ?_
    rintro e w1 ⟨rfl, h1⟩
    go_wp2_with fail
    go_ret
    exact ⟨by rw [hv.out]; rfl, h1.peel⟩
  · have hv := Lib.hid (ptsFault_in (xs := xs) (n := n) (of_decide_eq_true hb.symm))
    clear hb
    go_enter Tryz.func35, Tryz.ntmps35
    go_wp2_with fail
    refine (inOrder_any _ _ _ _ _ (rd_three12 _ _) _ HB.out).mono ?_
    rintro e w1 ⟨rfl, h1⟩
    have HR2 := Lib.hid (HR.out.kept0 h1.peel)
    go_wp2_with fail
    refine (firstPoint_any _ _ _ _ _ HR2.out).mono ?_
    rintro e w2 ⟨rfl, h2⟩
    rw [← hv.out]
    go_wp2_with fail
    go_ret
    exact ⟨rfl, h1.peel.trans0 h2⟩

set_option maxHeartbeats 2000000 in
theorem sPointsFault_any (a : Option Addr) (n c : Nat) (xs : List Int) (w : World) (h : Rd w a (n * 2) xs) :
    Calls Tryz.prog 39 #[.slice a n c] w (Ans w (.int .i64 (ptsFault xs n))) := by
  have hmax := h.2.1
  have hm2 : n ≤ 9223372036854775807 := by omega
  have HR := Lib.hid h
  clear h
  by_cases h1 : n < 1
  · have hv := Lib.hid (ptsFault_many (xs := xs) (n := n) (Or.inl h1))
    go_enter Tryz.func39, Tryz.ntmps39
    go_wp2
    go_ret
    exact ⟨by rw [hv.out]; rfl, Kept.refl _ _⟩
  by_cases h12 : 12 < n
  · have hv := Lib.hid (ptsFault_many (xs := xs) (n := n) (Or.inr h12))
    go_enter Tryz.func39, Tryz.ntmps39
    go_wp2
    go_ret
    exact ⟨by rw [hv.out]; rfl, Kept.refl _ _⟩
  have hv := Lib.hid (ptsFault_in (xs := xs) (n := n) (by omega))
  rw [hv.out]
  go_enter Tryz.func39, Tryz.ntmps39
  go_wp2
  go_loopw [3] (fun i wr => ∃ k : Nat, k ≤ n ∧ i = .int .i64 k ∧ Hid (PtsTo xs k) ∧ Hid (Kept [] w wr)) (fun i _ => n - (intOf i).toNat)
  case atStart => exact ⟨0, Nat.zero_le _, rfl, fun i hi => by omega, Kept.refl [] w⟩
  case round =>
    obtain ⟨k, hk, rfl, hO, hK⟩ := hrel
    by_cases hlt : k < n
    · obtain ⟨g, off, rfl, hc0, hc1⟩ := rd_pt HR.out k hlt
      have hc := hK.out.cell hc0 (by simp)
      have hc' := hK.out.cell hc1 (by simp)
      clear hc0 hc1
      generalize hx0 : xs.getD (k * 2) 0 = x0 at *
      generalize hx1 : xs.getD (k * 2 + 1) 0 = x1 at *
      have X0 := Lib.hid hx0
      have X1 := Lib.hid hx1
      clear hx0 hx1
      by_cases hz : ptFault x0 x1 = 0
      · have hz' := Lib.hid hz
        have hO2 := Lib.hid (hO.out.more X0.out X1.out hz)
        clear hz
        go_wp2_with (refine (sPointFault_any _ _ _).mono ?_; rintro e w1 ⟨rfl, hq⟩; rw [hz'.out])
        have hK2 := Lib.hid (hK.out.trans0 hq)
        clear hK hq
        go_roundw
        case rel => exact ⟨k + 1, by omega, by go_num, hO2, hK2⟩
        case measure => simp [intOf]; omega
      · have hv := Lib.hid (ptsFirst_no hlt X0.out X1.out hz)
        generalize hf : ptFault x0 x1 = f at *
        have hne : (f == 0) = false := by rw [beq_eq_false_iff_ne]; exact hz
        have HF := Lib.hid hf
        clear hf hz
        go_wp2_with (refine (sPointFault_any _ _ _).mono ?_; rintro e w1 ⟨rfl, hq⟩; rw [HF.out])
        have hK2 := Lib.hid (hK.out.trans0 hq)
        clear hK hq
        go_ret
        exact ⟨by rw [hv.out]; rfl, hK2.out⟩
    · obtain rfl : k = n := by omega
      have hv := Lib.hid (ptsFirst_yes hO.out)
      go_wp2
      go_ret
      exact ⟨by rw [hv.out]; rfl, hK.out⟩

end Go.Proofs.YtlhiahhpmjiioadGreatDoor
