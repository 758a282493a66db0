/-
  Contracts of the model's l1Compare at canonical lists and of l1Take. Conditions: the slices read as lists of limbs.
-/
import Derived.Test.YtlhiahhpmjiioaaShort
namespace Go.Proofs.Ytlhiahhpmjiioaa
open Go.RowKit

theorem val_lt_lenC {xs ys : List Int} (hx : Canon xs) (hy : Canon ys) (h : xs.length < ys.length) : val xs < val ys := by
  refine val_lt_at (canon_get hx).1 (canon_get hy).1 ys.length (ys.length - 1) (by omega) (by omega) (Nat.le_refl _) (fun j h1 h2 => by omega) ?_
  have h1 := (canon_get hy).2 (by omega)
  have h2 := limb_getD (canon_get hy).1 (ys.length - 1)
  have h3 : xs.getD (ys.length - 1) 0 = 0 := getD_past (by omega)
  omega

set_option maxHeartbeats 400000 in
theorem l1Compare_canon (a b : Option Addr) (n c m c' : Nat) (xs ys : List Int) (w : World) (h : Rd w a n xs) (h' : Rd w b m ys) (hx : Canon xs) (hy : Canon ys) :
    Calls Try.prog 51 #[.slice a n c, .slice b m c'] w (Ans w (.int .i64 (cmpV (val xs) (val ys)))) := by
  have HR := Lib.hid h
  have HR' := Lib.hid h'
  have HL := Lib.hid h.1
  have HL' := Lib.hid h'.1
  have hm := h.2.1
  have hm' := h'.2.1
  have HX := Lib.hid hx
  have HY := Lib.hid hy
  clear h h' hx hy
  by_cases hne : n = m
  · subst hne
    go_enter Try.func51, Try.ntmps51
    go_wp2
    go_loopw [5] (fun i wr => ∃ k : Nat, k ≤ n ∧ i = .int .i64 ((k : Int) - 1) ∧ Hid (∀ j, k ≤ j → j < n → xs.getD j 0 = ys.getD j 0) ∧ Hid (Kept [] w wr)) (fun i _ => (intOf i + 1).toNat)
    case atStart => exact ⟨n, Nat.le_refl _, rfl, fun j h1 h2 => by omega, Kept.refl [] w⟩
    case round =>
      obtain ⟨k, hk, rfl, hE, hK⟩ := hrel
      by_cases hlt : 0 < k
      · obtain ⟨g, off, rfl, hc0⟩ := HR.out.2.2 (k - 1) (by omega)
        obtain ⟨g', off', rfl, hc0'⟩ := HR'.out.2.2 (k - 1) (by omega)
        have hc := hK.out.cell hc0 (by simp)
        have hc' := hK.out.cell hc0' (by simp)
        have h0 : (0 : Int) ≤ (k : Int) - 1 := by omega
        have h1 : (1 : Int) ≤ (k : Int) := by omega
        have h2 : (k : Int) - 1 < (n : Int) := by omega
        have e1 : IntKind.i64.wrap ((k : Int) - 1 - 1) = (k : Int) - 1 - 1 := IntWalk.i64_in _ (by omega)
        clear hc0 hc0'
        rcases Int.lt_trichotomy (xs.getD (k - 1) 0) (ys.getD (k - 1) 0) with hl | hl | hl
        · have hv : Hid (cmpV (val xs) (val ys) = -1) := cmpV_lt (val_lt_at (canon_get HX.out).1 (canon_get HY.out).1 n (k - 1) (by omega) (Nat.le_of_eq HL.out) (Nat.le_of_eq HL'.out) (fun j h1 h2 => hE.out j (by omega) h2) hl)
          generalize hy : xs.getD (k - 1) 0 = y at *
          generalize hz : ys.getD (k - 1) 0 = z at *
          clear hy hz
          go_wp2
          go_quiet (fail)
          have hK2 : Hid (Kept [] w (wr.drewN nq)) := hK.out.drewN _
          clear hK
          go_wp2
          go_ret
          exact ⟨by rw [hv.out]; rfl, hK2.out⟩
        · have hE2 : Hid (∀ j, k - 1 ≤ j → j < n → xs.getD j 0 = ys.getD j 0) := fun j h1 h2 => by
            by_cases e : j = k - 1
            · subst e; exact hl
            · exact hE.out j (by omega) h2
          rw [← hl] at hc'
          clear hl
          generalize hy : xs.getD (k - 1) 0 = y at *
          clear hy
          go_wp2
          go_quiet (fail)
          go_wp2
          go_quiet (fail)
          go_wp2
          go_roundw
          case rel => exact ⟨k - 1, by omega, by congr 1; omega, hE2, by first | exact (hK.out.drewN _).drewN _ | exact hK.out.drewN _⟩
          case measure => simp [intOf]; omega
        · have hv : Hid (cmpV (val xs) (val ys) = 1) := cmpV_gt (val_lt_at (canon_get HY.out).1 (canon_get HX.out).1 n (k - 1) (by omega) (Nat.le_of_eq HL'.out) (Nat.le_of_eq HL.out) (fun j h1 h2 => (hE.out j (by omega) h2).symm) hl)
          have hnl : ¬ xs.getD (k - 1) 0 < ys.getD (k - 1) 0 := by omega
          generalize hy : xs.getD (k - 1) 0 = y at *
          generalize hz : ys.getD (k - 1) 0 = z at *
          clear hy hz
          go_wp2
          go_quiet (fail)
          go_wp2
          go_quiet (fail)
          go_wp2
          go_ret
          exact ⟨by rw [hv.out]; rfl, by first | exact (hK.out.drewN _).drewN _ | exact hK.out.drewN _⟩
      · obtain rfl : k = 0 := by omega
        have hv : Hid (cmpV (val xs) (val ys) = 0) := cmpV_eq (val_eq_at n (Nat.le_of_eq HL.out) (Nat.le_of_eq HL'.out) (fun j hj => hE.out j (Nat.zero_le _) hj))
        go_wp2
        go_ret
        exact ⟨by rw [hv.out]; rfl, hK.out⟩
  · have hne' : ((n : Int) == (m : Int)) = false := by rw [beq_eq_false_iff_ne]; omega
    by_cases hl : n < m
    · have hv : Hid (cmpV (val xs) (val ys) = -1) := cmpV_lt (val_lt_lenC HX.out HY.out (by rw [HL.out, HL'.out]; exact hl))
      go_enter Try.func51, Try.ntmps51
      go_wp2
      go_ret
      exact ⟨by rw [hv.out]; rfl, Kept.refl _ _⟩
    · have hv : Hid (cmpV (val xs) (val ys) = 1) := cmpV_gt (val_lt_lenC HY.out HX.out (by rw [HL.out, HL'.out]; omega))
      go_enter Try.func51, Try.ntmps51
      go_wp2
      go_ret
      exact ⟨by rw [hv.out]; rfl, Kept.refl _ _⟩


/-- What a try to take a limb's multiple off answers. -/
def TryR (w : World) (g j : Nat) (us : List Int) (n : Nat) (X Y : Int) (e : Ending) (w' : World) : Prop :=
  (X < Y ∧ e = .returned (.bool false) ∧ Kept [] w w') ∨
  (¬ X < Y ∧ ∃ (out ds : List Int), e = .returned (.bool true) ∧ out.length = n ∧ AllLimbs out ∧ val out = X - Y ∧ Upd us j out ds ∧ Blk w' g ds ∧ Kept [g] w w')

theorem getD_pad (xs : List Int) (k i : Nat) : (xs ++ List.replicate k 0).getD i 0 = xs.getD i 0 := by
  simp only [List.getD_eq_getElem?_getD]
  by_cases e : i < xs.length
  · rw [List.getElem?_append_left e]
  · rw [List.getElem?_append_right (by omega), List.getElem?_eq_none (show xs.length ≤ i by omega)]
    by_cases e2 : i - xs.length < k
    · simp [e2]
    · rw [List.getElem?_eq_none (by simp; omega)]

end Go.Proofs.Ytlhiahhpmjiioaa
