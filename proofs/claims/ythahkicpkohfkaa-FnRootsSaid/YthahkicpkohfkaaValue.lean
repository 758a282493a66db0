/-
  Contracts of NatValue, the program's and the model's, and of l1Value. Condition: the slice reads as a list of numbers.
-/
import Derived.Test.YthahkicpkohfkaaSSub
import Derived.Test.YthahkicpkohfkaaNatOf
import Derived.Test.YthahkicpkohfkaaJ1
namespace Go.Proofs.Ythahkicpkohfkaa
open Go.RowKit

/-- The greatest int64. -/
def maxI : Int := 9223372036854775807
def valCode (xs : List Int) : Int := if natFault xs = 0 then (if maxI < val xs then 7 else 0) else natFault xs
def valVal (xs : List Int) : Int := if natFault xs = 0 then (if maxI < val xs then 0 else val xs) else 0

theorem val_drop_le {xs : List Int} (h : AllLimbs xs) : ∀ k, 0 ≤ val (xs.drop k) ∧ val (xs.drop k) ≤ val xs
  | 0 => by have := h.val; simp; omega
  | k + 1 => by
    have h1 := val_drop_le h k
    have h2 := val_drop xs k
    have h3 := (h.drop (k + 1)).val
    have h4 := getD_limb h k
    omega

set_option maxHeartbeats 1000000 in
theorem l1Value_any (a : Option Addr) (n c : Nat) (xs : List Int) (w : World) (h : Rd w a n xs) (hl : AllLimbs xs) (hv : val xs ≤ maxI) :
    Calls Try.prog 92 #[.slice a n c] w (Ans w (.int .i64 (val xs))) := by
  have HR := Lib.hid h
  have HL := Lib.hid h.1
  have hmax := h.2.1
  have HLL := Lib.hid hl
  have HV := Lib.hid hv
  clear h hl hv
  go_enter Try.func92, Try.ntmps92
  go_wp2
  go_loopw [3, 4] (fun q i wr => ∃ k : Nat, k ≤ n ∧ i = .int .i64 ((k : Int) - 1) ∧ q = .int .i64 (val (xs.drop k)) ∧ Hid (Kept [] w wr)) (fun _ i _ => (intOf i + 1).toNat)
  case atStart => exact ⟨n, Nat.le_refl _, rfl, by rw [List.drop_of_length_le (Nat.le_of_eq HL.out)]; rfl, Kept.refl [] w⟩
  case round =>
    obtain ⟨k, hk, rfl, rfl, hK⟩ := hrel
    by_cases hlt : 0 < k
    · obtain ⟨g, off, rfl, hc0⟩ := HR.out.2.2 (k - 1) (by omega)
      have hc := hK.out.cell hc0 (by simp)
      have h0 : (0 : Int) ≤ (k : Int) - 1 := by omega
      have h1 : (1 : Int) ≤ (k : Int) := by omega
      have h2 : (k : Int) - 1 < (n : Int) := by omega
      have hst := val_drop xs (k - 1)
      rw [Nat.sub_add_cancel hlt] at hst
      have hb1 := val_drop_le HLL.out (k - 1)
      have hb2 := val_drop_le HLL.out k
      have hx := getD_limb HLL.out (k - 1)
      have hm := HV.out
      unfold maxI at hm
      obtain ⟨v', hv'⟩ : ∃ v', v' = val (xs.drop (k - 1)) := ⟨_, rfl⟩
      have HV' := Lib.hid hv'
      rw [← hv'] at hst hb1
      generalize hx0 : xs.getD (k - 1) 0 = x at *
      generalize hv0 : val (xs.drop k) = v at *
      have e1 : IntKind.i64.wrap (v * 65536) = v * 65536 := IntWalk.i64_in _ (by omega)
      have e2 : IntKind.i64.wrap (v * 65536 + x) = v' := by rw [show v * 65536 + x = v' by omega]; exact IntWalk.i64_in _ (by omega)
      have e3 : IntKind.i64.wrap ((k : Int) - 1 - 1) = (k : Int) - 1 - 1 := IntWalk.i64_in _ (by omega)
      clear hc0 hst hb1 hb2 hx hm hv' hx0 hv0
      go_wp2
      go_roundw
      case rel => exact ⟨k - 1, by omega, by congr 1; omega, by rw [HV'.out], hK⟩
      case measure => simp [intOf]; omega
    · obtain rfl : k = 0 := by omega
      go_wp2
      go_ret
      exact ⟨by simp, hK.out⟩

theorem resCellsI {w w1 : World} {L : List Nat} (hK : Kept L (w.alloc (.cells #[.int .i64 0, .int .i64 0] 36)) w1) (hL : w.heap.size ∉ L) :
    w1.cell? ⟨w.heap.size, 0, none⟩ = some (.int .i64 0) ∧ w1.cell? ⟨w.heap.size, 1, none⟩ = some (.int .i64 0) ∧ w1.frozen? ⟨w.heap.size, 0, none⟩ = false ∧ w1.frozen? ⟨w.heap.size, 1, none⟩ = false ∧ w.heap.size + 1 ≤ w1.heap.size :=
  ⟨hK.cell (p := ⟨w.heap.size, 0, none⟩) (by simp) hL, hK.cell (p := ⟨w.heap.size, 1, none⟩) (by simp) hL, hK.free (p := ⟨w.heap.size, 0, none⟩) (by simp) (by simp) hL, hK.free (p := ⟨w.heap.size, 1, none⟩) (by simp) (by simp) hL,
    by have := hK.size; simpa using this⟩
theorem intR_fin {w w1 : World} (u v : Int) (hK : Kept [] (w.alloc (.cells #[.int .i64 0, .int .i64 0] 36)) w1) :
    Ans w (.agg #[.int .i64 u, .int .i64 v]) (.returned (.agg #[.int .i64 u, .int .i64 v])) ((w1.setCell ⟨w.heap.size, 0, none⟩ (.int .i64 u)).setCell ⟨w.heap.size, 1, none⟩ (.int .i64 v)) :=
  ⟨rfl, ((((Kept.refl [] w).alloc _).trans0 hK).setCell _ _ (by simp)).setCell _ _ (by simp)⟩

end Go.Proofs.Ythahkicpkohfkaa
