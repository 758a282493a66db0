/-
  The text of metres is read back. No program is walked here. No condition.
-/
import Derived.Test.YtbkfjebmpccbladDoorDecQ
import Derived.Test.YtbkfjebmpccbladDoorDecP
import Derived.Test.YtbkfjebmpccbladDoorRmP
namespace Go.Proofs.YtbkfjebmpccbladDoor
open Go.RowKit

theorem six_isD (r : Nat) : ∀ b ∈ six r, isD b = true := by
  intro b hb
  simp only [six, List.mem_cons, List.not_mem_nil, or_false] at hb
  rcases hb with rfl | rfl | rfl | rfl | rfl | rfl <;> exact dg_isD _
theorem numL_six {r : Nat} (h : r < 1000000) : numL (six r) = r := by
  have h1 := numL_dec (1000000 + r) (1000000 + r) (Nat.le_refl _)
  rw [dec_six h] at h1
  have h2 : numL (49 :: six r) = numA 1 (six r) := rfl
  have h6 : (six r).length = 6 := rfl
  rw [h2, numA_plus, h6] at h1
  have : (10 : Nat) ^ 6 = 1000000 := by decide
  rw [this] at h1
  omega
theorem decPt_back {u : Nat} (h : u ≤ 9999999999999999) : decM 10 6 (decPt 1000000 six u) = some u := by
  have hq := dec_isD (u / 1000000) (u / 1000000) (Nat.le_refl _)
  have hl := decD_len (u := u / 1000000) (k := 10) (by omega) (by have : (10 : Nat) ^ 10 = 10000000000 := by decide
                                                                  omega)
  have ho : okNum 10 (Lib.decDigits (u / 1000000)) = true := okNum_iff.2 ⟨dec_ne _, hl, hq⟩
  have hn := numL_dec (u / 1000000) (u / 1000000) (Nat.le_refl _)
  have h9 : (10 : Nat) ^ 6 = 1000000 := by decide
  have hr : u % 1000000 < 1000000 := by omega
  have h6 : (six (u % 1000000)).length = 6 := rfl
  have hp : okNum 6 (six (u % 1000000)) = true := okNum_iff.2 ⟨by rw [h6]; omega, by rw [h6]; omega, six_isD _⟩
  unfold decPt decM
  rw [cutL_at 46 _ _ (okNum_dots ho), cutL_none 46 _ (okNum_dots hp)]
  simp only [ho, hp, Bool.and_self, if_true, hn]
  rw [h6, show 6 - 6 = 0 from rfl, List.replicate_zero, List.append_nil, numL_six hr, h9]
  congr 1; omega
theorem fullM_back {v : Int} (h0 : 0 ≤ v) (h1 : v ≤ 9999999999999999) : fullM (decTx 1000000 six v) = some v := by
  rw [fullM_eq, decTx_pos (by omega), decPt_back (by omega)]
  simp only [Option.bind_some, Option.some.injEq]
  omega
theorem fullM_in {l : List UInt8} {v : Int} (h : fullM l = some v) : 0 ≤ v := by
  rw [fullM_eq] at h
  cases hd : decM 10 6 l with
  | none => rw [hd] at h; cases h
  | some u =>
    rw [hd] at h
    simp only [Option.bind_some, Option.some.injEq] at h
    omega
theorem rm_zero {l : List UInt8} {v : Int} (h : rmC l = 0) (hv : rmV l = v) : fullM l = some v := by
  cases hf : fullM l with
  | none => rw [(rm_no hf).1] at h; cases h
  | some u => rw [(rm_yes hf).2] at hv; rw [hv]

end Go.Proofs.YtbkfjebmpccbladDoor
