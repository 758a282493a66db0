/-
 Chapter 3's contracts said by numbers, where nothing has a fault. Conditions: as said.
-/
import Derived.Test.YtfafjijoeanbhaaPlainC
import Derived.Test.YtfafjijoeanbhaaMulA
import Derived.Deep.RegionHeld3
import Derived.Deep.DrawnRows
import Derived.Deep.DeepCutAuto
import Derived.Test.YtfafjijoeanbhaaSpanM
import Derived.Test.YtfafjijoeanbhaaJ3
import Derived.Test.YtfafjijoeanbhaaJ4
import Derived.Test.YtfafjijoeanbhaaSpanI
import Derived.Test.YtfafjijoeanbhaaOneB
namespace Go.Proofs.Ytfafjijoeanbhaa
open Go.RowKit

theorem field_end0 (v1 v2 v3 v4 : Value) (w : World) : Sem.run Try.prog (Instr.field 43 (.agg #[v1, v2, v3, v4]) 0) w = .ok (.agg #[v1, v2]) w := by kernel_rfl
theorem field_end1 (v1 v2 v3 v4 : Value) (w : World) : Sem.run Try.prog (Instr.field 43 (.agg #[v1, v2, v3, v4]) 1) w = .ok (.agg #[v3, v4]) w := by kernel_rfl
theorem toNat_of (k : Nat) : ((k : Int)).toNat = k := rfl
theorem MulBigs_n (x n z : Int) (a b : Option Addr) (c d : Nat) (w : World) (h : Sl w a (mag x).length c (mag x)) (h' : Sl w b (mag n).length d (mag n)) (lx : (mag x).length ≤ 20) (ln : (mag n).length ≤ 20) (hz : z = x * n) :
  Calls Try.prog 49 #[.agg #[.bool (isNeg x), .slice a (mag x).length c], .agg #[.bool (isNeg n), .slice b (mag n).length d]] w (BigZ w z) := by
 have h1 := (bigOk_of (z := x) (by omega)).n40; have h2 := (bigOk_of (z := n) (by omega)).n40
 refine MulBigs_z _ _ _ _ _ _ _ _ _ _ z w h h' (bigOk_of (by omega)) (bigOk_of (by omega)) ?_ (by rw [sv_mag, sv_mag]; exact hz)
 have := mul_len (p := isNeg x) (q := isNeg n) h1 h2 lx ln
 rw [sv_mag, sv_mag] at this; rw [hz]; exact this
theorem divs_n {n : Int} (hn : 0 < n) : isNeg n = false ∧ val (mag n) = n ∧ (mag n).length ≠ 0 := by
 refine ⟨isNeg_no (by omega), by rw [val_mag, if_neg (by omega)], fun e => ?_⟩
 have h1 : mag n = [] := List.eq_nil_of_length_eq_zero e
 have h2 : val (mag n) = n := by rw [val_mag, if_neg (by omega)]
 rw [h1] at h2; simp [val] at h2; omega
theorem FloorDiv_n (x n z : Int) (a b : Option Addr) (c d : Nat) (w : World) (h : Sl w a (mag x).length c (mag x)) (h' : Sl w b (mag n).length d (mag n)) (lx : (mag x).length ≤ 20) (ln : (mag n).length ≤ 20) (hn : 0 < n) (hz : z = x / n) :
  Calls Try.prog 27 #[.agg #[.bool (isNeg x), .slice a (mag x).length c], .agg #[.bool (isNeg n), .slice b (mag n).length d]] w (BigZ w z) := by
 obtain ⟨e1, e2, e3⟩ := divs_n hn
 refine FloorDiv_z _ _ _ _ _ _ _ _ _ _ z w h h' (bigOk_of (by omega)) (bigOk_of (by omega)) e3 (by omega) ?_
 rw [e1, e2, divZ_f hn]; exact hz
theorem CeilDiv_n (x n z : Int) (a b : Option Addr) (c d : Nat) (w : World) (h : Sl w a (mag x).length c (mag x)) (h' : Sl w b (mag n).length d (mag n)) (lx : (mag x).length ≤ 20) (ln : (mag n).length ≤ 20) (hn : 0 < n) (hz : z = cdiv x n) :
  Calls Try.prog 28 #[.agg #[.bool (isNeg x), .slice a (mag x).length c], .agg #[.bool (isNeg n), .slice b (mag n).length d]] w (BigZ w z) := by
 obtain ⟨e1, e2, e3⟩ := divs_n hn
 refine CeilDiv_z _ _ _ _ _ _ _ _ _ _ z w h h' (bigOk_of (by omega)) (bigOk_of (by omega)) e3 (by omega) ?_
 rw [e1, e2, divZ_c hn]; exact hz
theorem SubBigs_n (x y z : Int) (a b : Option Addr) (c d : Nat) (w : World) (h : Sl w a (mag x).length c (mag x)) (h' : Sl w b (mag y).length d (mag y)) (lx : (mag x).length ≤ 20) (ly : (mag y).length ≤ 20) (hz : z = x - y) :
  Calls Try.prog 74 #[.agg #[.bool (isNeg x), .slice a (mag x).length c], .agg #[.bool (isNeg y), .slice b (mag y).length d]] w (BigZ w z) :=
 SubBigs_z _ _ _ _ _ _ _ _ _ _ z w h h' (bigOk_of (by omega)) (bigOk_of (by omega)) lx ly (by rw [sv_mag, sv_mag]; exact hz)
theorem SubBigs_0 (y z : Int) (b : Option Addr) (d : Nat) (w : World) (h' : Sl w b (mag y).length d (mag y)) (ly : (mag y).length ≤ 20) (hz : z = -y) :
  Calls Try.prog 74 #[.agg #[.bool false, .slice none 0 0], .agg #[.bool (isNeg y), .slice b (mag y).length d]] w (BigZ w z) := by
 have h := SubBigs_n 0 y z none b 0 d w (by rw [mag_zero]; exact Sl.nil _) h' (by rw [mag_zero]; simp) ly (by omega)
 rw [isNeg_zero, mag_zero] at h; exact h
theorem small_len {n : Int} (h : -9223372036854775808 ≤ n) (h' : n ≤ 9223372036854775807) : (mag n).length ≤ 20 := len20 (M := 9223372036854775808) (by omega) (by omega) (by omega)
end Go.Proofs.Ytfafjijoeanbhaa
