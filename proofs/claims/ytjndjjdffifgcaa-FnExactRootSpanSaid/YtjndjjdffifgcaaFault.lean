/-
  Contracts of NatFault, the program's and the model's. Condition: the slice reads as a list of numbers.
-/
import Derived.Test.YtjndjjdffifgcaaLib
import Derived.Test.YtjndjjdffifgcaaPlain
namespace Go.Proofs.Ytjndjjdffifgcaa
open Go.RowKit

theorem rd_three (w : World) (x : Int) : Rd (w.alloc (.cells #[.int .i64 0, .int .i64 x, .int .i64 65535] 2)) (some ⟨w.heap.size, 0, none⟩) 3 [0, x, 65535] := by
  have := Sl.ofBlk (Blk.new w [0, x, 65535]) (by simp)
  exact this.rd
theorem ord_three (x : Int) : (decide (0 ≤ x ∧ x ≤ 65535)) = true ↔ OrdTo [0, x, 65535] 3 := by
  rw [decide_eq_true_eq]
  constructor
  · intro h i hi
    rcases (by omega : i = 0 ∨ i = 1) with rfl | rfl
    · simpa using h.1
    · simpa using h.2
  · intro h
    have h0 := h 0 (by omega)
    have h1 := h 1 (by omega)
    simp at h0 h1
    exact ⟨h0, h1⟩

set_option maxHeartbeats 400000 in
theorem NatFault_any (a : Option Addr) (n c : Nat) (xs : List Int) (w : World) (h : Rd w a n xs) :
    Calls Try.prog 121 #[.slice a n c] w (Ans w (.int .i64 (natFault xs))) := by
  have hlen := h.1
  have hmax := h.2.1
  have HR := Lib.hid h
  have HL := Lib.hid hlen
  clear h hlen
  by_cases h40 : 40 < n
  · have hv : Hid (natFault xs = 2) := natFault_many (by rw [HL.out]; exact h40)
    go_enter Try.func121, Try.ntmps121
    go_wp2
    go_ret
    exact ⟨by rw [hv.out]; rfl, Kept.refl _ _⟩
  · go_enter Try.func121, Try.ntmps121
    go_wp2
    go_loopw [10] (fun i wr => ∃ k : Nat, k ≤ n ∧ i = .int .i64 k ∧ Hid (LimbsTo xs k) ∧ Hid (Kept [] w wr)) (fun i _ => n - (intOf i).toNat)
    case atStart => exact ⟨0, Nat.zero_le _, rfl, fun i hi => by omega, Kept.refl [] w⟩
    case round =>
      obtain ⟨k, hk, rfl, hO, hK⟩ := hrel
      by_cases hlt : k < n
      · obtain ⟨g, off, rfl, hc0⟩ := HR.out.2.2 k hlt
        have hc := hK.out.cell hc0 (by simp)
        clear hc0
        by_cases hin : 0 ≤ xs.getD k 0 ∧ xs.getD k 0 ≤ 65535
        · have hb : Hid (decide (0 ≤ xs.getD k 0 ∧ xs.getD k 0 ≤ 65535) = true) := decide_eq_true hin
          have hO2 : Hid (LimbsTo xs (k + 1)) := fun i hi => by
            by_cases he : i < k
            · exact hO.out i he
            · obtain rfl : i = k := by omega
              exact hin
          clear hin
          generalize hz : xs.getD k 0 = z at *
          clear hz
          go_wp2_with (go_at_call 141; refine (inOrder_any _ _ _ _ _ (rd_three _ _) _ (ord_three _)).mono ?_; rintro e w1 ⟨rfl, hq⟩; rw [hb.out])
          have hK2 : Hid (Kept [] w w1) := (hK.out.alloc _).trans0 hq
          clear hK hq
          go_roundw
          case rel => exact ⟨k + 1, by omega, by go_num, hO2, hK2⟩
          case measure => simp [intOf]; omega
        · have hb : Hid (decide (0 ≤ xs.getD k 0 ∧ xs.getD k 0 ≤ 65535) = false) := decide_eq_false hin
          have hv : Hid (natFault xs = 3) := natFault_range (by rw [HL.out]; exact h40) k (by rw [HL.out]; exact hlt) hin
          clear hin
          generalize hz : xs.getD k 0 = z at *
          clear hz
          go_wp2_with (go_at_call 141; refine (inOrder_any _ _ _ _ _ (rd_three _ _) _ (ord_three _)).mono ?_; rintro e w1 ⟨rfl, hq⟩; rw [hb.out])
          have hK2 : Hid (Kept [] w w1) := (hK.out.alloc _).trans0 hq
          clear hK hq
          go_ret
          exact ⟨by rw [hv.out]; rfl, hK2.out⟩
      · obtain rfl : k = n := by omega
        by_cases hp : 0 < k
        · obtain ⟨g, off, rfl, hc0⟩ := HR.out.2.2 (k - 1) (by omega)
          have hc := hK.out.cell hc0 (by simp)
          clear hc0
          have e1 : IntKind.i64.wrap ((k : Int) - 1) = (k : Int) - 1 := IntWalk.i64_in _ (by omega)
          have hp' : (0 : Int) < (k : Int) := by omega
          have hlt2 : (k : Int) - 1 < k := by omega
          by_cases hz : xs.getD (k - 1) 0 = 0
          · have hv : Hid (natFault xs = 1) := natFault_form (by rw [HL.out]; exact h40) (by rw [HL.out]; exact hO.out) (by rw [HL.out]; exact hp) (by rw [HL.out]; exact hz)
            rw [hz] at hc
            clear hz
            go_wp2
            go_ret
            exact ⟨by rw [hv.out]; rfl, hK.out⟩
          · have hv : Hid (natFault xs = 0) := natFault_ok (by rw [HL.out]; exact h40) (by rw [HL.out]; exact hO.out) (fun _ => by rw [HL.out]; exact hz)
            have hz' : (xs.getD (k - 1) 0 == 0) = false := by rw [beq_eq_false_iff_ne]; exact hz
            clear hz
            generalize hy : xs.getD (k - 1) 0 = y at *
            clear hy
            go_wp2
            go_ret
            exact ⟨by rw [hv.out]; rfl, hK.out⟩
        · obtain rfl : k = 0 := by omega
          have hv : Hid (natFault xs = 0) := natFault_ok (by rw [HL.out]; exact h40) (by rw [HL.out]; exact hO.out) (fun h9 => by have := HL.out; omega)
          go_wp2
          go_ret
          exact ⟨by rw [hv.out]; rfl, hK.out⟩

set_option maxHeartbeats 400000 in
theorem sNatFault_any (a : Option Addr) (n c : Nat) (xs : List Int) (w : World) (h : Rd w a n xs) :
    Calls Try.prog 119 #[.slice a n c] w (Ans w (.int .i64 (natFault xs))) := by
  have hlen := h.1
  have hmax := h.2.1
  have HR := Lib.hid h
  have HL := Lib.hid hlen
  clear h hlen
  by_cases h40 : 40 < n
  · have hv : Hid (natFault xs = 2) := natFault_many (by rw [HL.out]; exact h40)
    go_enter Try.func119, Try.ntmps119
    go_wp2
    go_ret
    exact ⟨by rw [hv.out]; rfl, Kept.refl _ _⟩
  · go_enter Try.func119, Try.ntmps119
    go_wp2
    go_loopw [3] (fun i wr => ∃ k : Nat, k ≤ n ∧ i = .int .i64 k ∧ Hid (LimbsTo xs k) ∧ Hid (Kept [] w wr)) (fun i _ => n - (intOf i).toNat)
    case atStart => exact ⟨0, Nat.zero_le _, rfl, fun i hi => by omega, Kept.refl [] w⟩
    case round =>
      obtain ⟨k, hk, rfl, hO, hK⟩ := hrel
      by_cases hlt : k < n
      · obtain ⟨g, off, rfl, hc0⟩ := HR.out.2.2 k hlt
        have hc := hK.out.cell hc0 (by simp)
        clear hc0
        by_cases hin : 0 ≤ xs.getD k 0 ∧ xs.getD k 0 ≤ 65535
        · have hb : Hid (decide (0 ≤ xs.getD k 0 ∧ xs.getD k 0 ≤ 65535) = true) := decide_eq_true hin
          have hO2 : Hid (LimbsTo xs (k + 1)) := fun i hi => by
            by_cases he : i < k
            · exact hO.out i he
            · obtain rfl : i = k := by omega
              exact hin
          obtain ⟨hi1, hi2⟩ := hin
          generalize hz : xs.getD k 0 = z at *
          clear hz
          go_wp2
          go_roundw
          case rel => exact ⟨k + 1, by omega, by go_num, hO2, hK⟩
          case measure => simp [intOf]; omega
        · have hb : Hid (decide (0 ≤ xs.getD k 0 ∧ xs.getD k 0 ≤ 65535) = false) := decide_eq_false hin
          have hv : Hid (natFault xs = 3) := natFault_range (by rw [HL.out]; exact h40) k (by rw [HL.out]; exact hlt) hin
          generalize hz : xs.getD k 0 = z at *
          clear hz
          by_cases hlo : 0 ≤ z
          · have hhi : decide (z ≤ 65535) = false := decide_eq_false (by omega)
            clear hin
            go_wp2
            go_ret
            exact ⟨by rw [hv.out]; rfl, hK.out⟩
          · have hlo' : z < 0 := by omega
            clear hin
            go_wp2
            go_ret
            exact ⟨by rw [hv.out]; rfl, hK.out⟩
      · obtain rfl : k = n := by omega
        by_cases hp : 0 < k
        · obtain ⟨g, off, rfl, hc0⟩ := HR.out.2.2 (k - 1) (by omega)
          have hc := hK.out.cell hc0 (by simp)
          clear hc0
          have e1 : IntKind.i64.wrap ((k : Int) - 1) = (k : Int) - 1 := IntWalk.i64_in _ (by omega)
          have hp' : (0 : Int) < (k : Int) := by omega
          have hlt2 : (k : Int) - 1 < k := by omega
          by_cases hz : xs.getD (k - 1) 0 = 0
          · have hv : Hid (natFault xs = 1) := natFault_form (by rw [HL.out]; exact h40) (by rw [HL.out]; exact hO.out) (by rw [HL.out]; exact hp) (by rw [HL.out]; exact hz)
            rw [hz] at hc
            clear hz
            go_wp2
            go_ret
            exact ⟨by rw [hv.out]; rfl, hK.out⟩
          · have hv : Hid (natFault xs = 0) := natFault_ok (by rw [HL.out]; exact h40) (by rw [HL.out]; exact hO.out) (fun _ => by rw [HL.out]; exact hz)
            have hz' : (xs.getD (k - 1) 0 == 0) = false := by rw [beq_eq_false_iff_ne]; exact hz
            clear hz
            generalize hy : xs.getD (k - 1) 0 = y at *
            clear hy
            go_wp2
            go_ret
            exact ⟨by rw [hv.out]; rfl, hK.out⟩
        · obtain rfl : k = 0 := by omega
          have hv : Hid (natFault xs = 0) := natFault_ok (by rw [HL.out]; exact h40) (by rw [HL.out]; exact hO.out) (fun h9 => by have := HL.out; omega)
          go_wp2
          go_ret
          exact ⟨by rw [hv.out]; rfl, hK.out⟩

end Go.Proofs.Ytjndjjdffifgcaa
