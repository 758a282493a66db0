/-
  Contract of the model's ReadCoord. Condition: the text is no longer than a million and a half.
-/
import Derived.Test.YtbkfjebmpccbladDoorRdD
namespace Go.Proofs.YtbkfjebmpccbladDoor
open Go.RowKit

theorem intBoxM {w w1 : World} {T : TypeId} (hk : Kept [] (w.alloc (.cells #[.int .i64 0, .int .i64 0] T)) w1) :
    (w1.cell? ⟨w.heap.size, 0, none⟩ = some (.int .i64 0) ∧ w1.cell? ⟨w.heap.size, 1, none⟩ = some (.int .i64 0)) ∧ w1.frozen? ⟨w.heap.size, 0, none⟩ = false ∧ w1.frozen? ⟨w.heap.size, 1, none⟩ = false :=
  ⟨⟨(hk.top rfl (by simp) 0 (v := .int .i64 0) rfl).1, (hk.top rfl (by simp) 1 (v := .int .i64 0) rfl).1⟩, (hk.top rfl (by simp) 0 (v := .int .i64 0) rfl).2.1, (hk.top rfl (by simp) 1 (v := .int .i64 0) rfl).2.1⟩

theorem strB_from {l : List UInt8} {S : ByteArray} (h : S.data.toList = l) (n : Nat) : S.extract n S.size = strB (l.drop n) := by subst h; exact Lib.extract_from _ _
theorem rc_dec {l r : List UInt8} {b : Bool} (h : takeR 45 l = (b, r)) : (decB 6 9 r = true ∧ rcC l = 0 ∧ rcV l = (if b = true then -decV 6 9 r else decV 6 9 r)) ∨ (decB 6 9 r = false ∧ rcC l = 5 ∧ rcV l = 0) := by
  have hf := fullC_eq l
  rw [h] at hf
  cases hd : decM 6 9 r with
  | none =>
    rw [hd] at hf
    exact .inr ⟨(dec_none hd).2, rc_no hf⟩
  | some v =>
    rw [hd] at hf
    obtain ⟨h1, h2⟩ := dec_some hd
    refine .inl ⟨h2, ?_⟩
    rw [h1]
    exact rc_yes hf
theorem decV_lt (r : List UInt8) : 0 ≤ decV 6 9 r ∧ decV 6 9 r < 1000000000000000 := by
  cases hd : decM 6 9 r with
  | none => rw [(dec_none hd).1]; omega
  | some v =>
    rw [(dec_some hd).1]
    unfold decM at hd
    split at hd
    · split at hd
      · rename_i x _ ho
        have ho := okNum_iff.1 ho
        have h1 := numL_lt ho.2.2 ho.2.1
        simp only [Option.some.injEq] at hd
        have : (10 : Nat) ^ 9 = 1000000000 := by decide
        have h6 : (10 : Nat) ^ 6 = 1000000 := by decide
        rw [this] at hd
        rw [h6] at h1
        omega
      · cases hd
    · split at hd
      · rename_i x y _ ho
        obtain ⟨hx, hy⟩ := Bool.and_eq_true .. ▸ ho
        have ho := okNum_iff.1 hx
        have h1 := numL_lt ho.2.2 ho.2.1
        have hy2 := okNum_iff.1 hy
        have hz := okNum_iff.1 (ok_filled (p := 9) (by omega) hy2.2.1 hy2.2.2)
        have h2 := numL_lt hz.2.2 hz.2.1
        simp only [Option.some.injEq] at hd
        have : (10 : Nat) ^ 9 = 1000000000 := by decide
        have h6 : (10 : Nat) ^ 6 = 1000000 := by decide
        rw [this] at hd h2
        rw [h6] at h1
        omega
      · cases hd
    · cases hd

end Go.Proofs.YtbkfjebmpccbladDoor
