/-
 Contract of the model's number of a big. Condition: the number fits a word.
-/
import Derived.Test.YtakomjocihlacaaPlain8
import Derived.Test.YtakomjocihlacaaBigOf
import Derived.Test.YtakomjocihlacaaBigH
import Derived.Test.YtakomjocihlacaaValue
namespace Go.Proofs.Ytakomjocihlacaa
open Go.RowKit

set_option maxHeartbeats 1000000 in
theorem l2Int_any (p : Bool) (a : Option Addr) (n c : Nat) (xs : List Int) (w : World) (h : Sl w a n c xs) (hx : BigOk p xs) (hv : ¬ outI (sv p xs)) :
  Calls Try.prog 14 #[.agg #[.bool p, .slice a n c]] w (Ans w (.int .i64 (sv p xs))) := by
 have h0 := (canon_nonneg hx.n40.canon).1
 have HL := Lib.hid (canon_limbs hx.n40.canon)
 have HS := Lib.hid h
 have K0 := Lib.hid ((Kept.refl [] w).alloc (.cells #[.bool p, .slice a n c] 29))
 have hn := h.1
 have h40 := hx.n40.len
 cases p
 ·have hle : val xs ≤ maxI := by unfold outI at hv; have e : sv false xs = val xs := rfl; rw [e] at hv; unfold maxI; omega
  have HLE := Lib.hid hle
  rw [show sv false xs = val xs from rfl]
  clear h hx hv hle
  go_enter Try.func14, Try.ntmps14
  go_wp2_with fail
  refine (l1Value_any _ _ _ _ _ (HS.out.kept0 K0.out).rd HL.out HLE.out).mono ?_
  rintro e w1 ⟨rfl, hk⟩
  have HK := Lib.hid (K0.out.trans0 hk)
  clear hk
  go_wp2_with fail
  go_ret
  exact ⟨rfl, HK.out⟩
 ·have e : sv true xs = -val xs := rfl
  rw [e]
  rw [e] at hv
  have h1 : 1 ≤ val xs := by
   rcases (by omega : val xs = 0 ∨ 1 ≤ val xs) with e0 | e0
   ·have e1 := digits_val hx.n40.canon
    rw [e0, digits_zero (by omega)] at e1
    have := hx.sign rfl
    rw [← e1] at this
    simp at this
   ·exact e0
  have hlow : val xs - 1 ≤ maxI := by unfold outI at hv; unfold maxI; omega
  have HLOW := Lib.hid hlow
  have h1c : Canon [1] := ⟨by omega, by omega, trivial, fun _ => by omega⟩
  have H1C := Lib.hid h1c
  have HXC := Lib.hid hx.n40.canon
  obtain ⟨V, hV⟩ : ∃ V, V = val xs := ⟨_, rfl⟩
  have HV := Lib.hid hV
  rw [← hV] at h1 hv h0 hlow ⊢
  have hvv : -9223372036854775808 ≤ -V := by unfold outI at hv; omega
  clear h hx hv hlow h1c e hV
  go_enter Try.func14, Try.ntmps14
  go_wp2_with fail
  have K1 := Lib.hid ((Kept.refl [] (w.alloc (.cells #[.bool true, .slice a n c] 29))).alloc (.cells #[.int .i64 1] 2))
  have hn1 : 1 ≤ n := by
   rcases (by omega : n = 0 ∨ 1 ≤ n) with e0 | e0
   ·have : xs = [] := List.eq_nil_of_length_eq_zero (by omega)
    subst this
    have := HV.out
    have e3 : val [] = 0 := rfl
    omega
   ·exact e0
  refine (l1Sub_any _ _ _ _ _ _ _ [1] _ (HS.out.kept0 (K0.out.trans0 K1.out)).rd (rd_row1 _ (by simp)) HL.out (canon_limbs H1C.out) (by omega) hn1 (by rw [← HV.out]; show 1 + 65536 * 0 ≤ V; omega)).mono ?_
  rintro e w1 ⟨v, rfl, hO, hk⟩
  rw [show val xs - val [1] = V - 1 by rw [← HV.out]; show V - (1 + 65536 * 0) = V - 1; omega] at hO
  obtain ⟨a1, c1, rfl, hs1, hf1⟩ := hO.sl
  have HS1 := Lib.hid hs1
  have HK1 := Lib.hid ((K0.out.trans0 K1.out).trans0 hk)
  clear hO hs1 hf1 hk
  go_wp2_with fail
  refine (l1Value_any _ _ _ _ _ HS1.out.rd (canon_limbs (canon_digits' _)) (by rw [val_digits' (by omega)]; have := HLOW.out; rw [← HV.out] at this; exact this)).mono ?_
  rintro e w2 ⟨rfl, hk⟩
  rw [val_digits' (by omega)]
  have HK2 := Lib.hid (HK1.out.trans0 hk)
  clear hk
  go_wp2_with fail
  go_ret
  rw [show -(V - 1) - 1 = -V by omega]
  exact ⟨rfl, HK2.out⟩

end Go.Proofs.Ytakomjocihlacaa
