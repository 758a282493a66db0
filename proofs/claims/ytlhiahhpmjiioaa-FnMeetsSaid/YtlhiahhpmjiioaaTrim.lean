/-
  Contracts of the model's l1Ints, l1Trim. Condition: the slices read as lists of numbers, for l1Trim of limbs.
-/
import Derived.Test.YtlhiahhpmjiioaaJ2
namespace Go.Proofs.Ytlhiahhpmjiioaa
open Go.RowKit

set_option maxHeartbeats 400000 in
theorem l1Ints_any (a : Option Addr) (n c : Nat) (xs : List Int) (w : World) (h : Sl w a n c xs) (hn : n ≤ 10000000) :
    Calls Try.prog 61 #[.slice a n c] w (SlR w xs) := by
  have HR := Lib.hid h.rd
  have hnc := h.2.1
  have HN := Lib.hid (show a = none → n = 0 ∧ c = 0 from fun e => by have := h.2.2.2.1 e; omega)
  clear h
  go_enter Try.func61, Try.ntmps61
  go_wp2_with (at_builtin; refine appS rfl _ _ rfl w.heap.size _ [] rfl (Ow.empty _ w (Nat.le_refl _)) a n c xs rfl (HR.out.kept0 ((Kept.refl [] w).alloc _)) HN.out (by simp; omega) (by simp) ?_)
  intro v' w1 hW hG
  have hW2 : Hid (Ow w.heap.size w1 v' xs) := hW
  have HK : Hid (Kept [] w w1) := kept_grown ((Kept.refl [] w).alloc _) (Ow.empty _ w (Nat.le_refl _)) hG (Nat.le_refl _)
  clear hW hG
  go_wp2
  go_ret
  exact ⟨_, rfl, hW2.out, HK.out⟩

set_option maxHeartbeats 400000 in
theorem l1Trim_any (a : Option Addr) (n c : Nat) (xs : List Int) (w : World) (h : Sl w a n c xs) (hl : AllLimbs xs) (hn : n ≤ 10000000) :
    Calls Try.prog 55 #[.slice a n c] w (SlR w (digits (val xs))) := by
  have hmax := h.rd.2.1
  have hnc := h.2.1
  have HR := Lib.hid h.rd
  have HS := Lib.hid h
  have HL := Lib.hid h.1
  have HLL := Lib.hid hl
  clear h hl
  go_enter Try.func55, Try.ntmps55
  go_wp2
  go_loopw [3] (fun i wr => ∃ k : Nat, k ≤ n ∧ i = .int .i64 k ∧ Hid (∀ j, k ≤ j → j < n → xs.getD j 0 = 0) ∧ wr = w) (fun i _ => (intOf i).toNat)
  case atStart => exact ⟨n, Nat.le_refl _, rfl, fun j h1 h2 => by omega, rfl⟩
  case round =>
    obtain ⟨k, hk, rfl, hZ, rfl⟩ := hrel
    by_cases hp : 0 < k
    · obtain ⟨g, off, rfl, hc0⟩ := HR.out.2.2 (k - 1) (by omega)
      have hp' : (0 : Int) < (k : Int) := by omega
      have h1 : (1 : Int) ≤ (k : Int) := by omega
      have h2 : (k : Int) - 1 < (n : Int) := by omega
      have h0 : (0 : Int) ≤ (k : Int) - 1 := by omega
      by_cases hz : xs.getD (k - 1) 0 = 0
      · have hZ2 : Hid (∀ j, k - 1 ≤ j → j < n → xs.getD j 0 = 0) := fun j h1 h2 => by
          by_cases e : j = k - 1
          · subst e; exact hz
          · exact hZ.out j (by omega) h2
        rw [hz] at hc0
        clear hz
        go_wp2
        go_roundw
        case rel => exact ⟨k - 1, by omega, by congr 1; omega, hZ2, by trivial⟩
        case measure => simp [intOf]; omega
      · have hd : Hid (xs.take k = digits (val xs)) := take_digits HLL.out k (by rw [HL.out]; exact hk) (fun j h1 h2 => hZ.out j h1 (by rw [← HL.out]; exact h2)) (fun _ => hz)
        have hz' : (xs.getD (k - 1) 0 == 0) = false := by rw [beq_eq_false_iff_ne]; exact hz
        have hkc : k ≤ c := by omega
        have HP := Lib.hid (HS.out.front k hk)
        clear hz
        generalize hy : xs.getD (k - 1) 0 = y at *
        clear hy
        go_wp2_with fail
        refine (l1Ints_any _ _ _ _ _ HP.out (by omega)).mono ?_
        rintro e w2 ⟨v, rfl, hO, hq⟩
        rw [hd.out] at hO
        have HO := Lib.hid hO
        have HQ := Lib.hid hq
        clear hO hq
        go_wp2_with fail
        go_ret
        exact ⟨v, rfl, HO.out, HQ.out⟩
    · obtain rfl : k = 0 := by omega
      have hd : Hid (xs.take 0 = digits (val xs)) := take_digits HLL.out 0 (by omega) (fun j h1 h2 => hZ.out j h1 (by rw [← HL.out]; exact h2)) (fun h => by omega)
      have HP := Lib.hid (HS.out.front 0 (by omega))
      go_wp2_with fail
      refine (l1Ints_any _ _ _ _ _ HP.out (by omega)).mono ?_
      rintro e w2 ⟨v, rfl, hO, hq⟩
      rw [hd.out] at hO
      have HO := Lib.hid hO
      have HQ := Lib.hid hq
      clear hO hq
      go_wp2_with fail
      go_ret
      exact ⟨v, rfl, HO.out, HQ.out⟩

end Go.Proofs.Ytlhiahhpmjiioaa
