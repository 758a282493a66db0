/-
 Several of my texts in one, each as it was: SDiv, SDivN, BigG. No condition but theirs.
-/
import Derived.Test.YtfafjijoeanbhaaShort
import Derived.Test.YtfafjijoeanbhaaDiv
import Derived.Test.YtfafjijoeanbhaaNatOf
import Derived.Test.YtfafjijoeanbhaaJ1
import Derived.Test.YtfafjijoeanbhaaBigF
namespace Go.Proofs.Ytfafjijoeanbhaa
open Go.RowKit

end Go.Proofs.Ytfafjijoeanbhaa

namespace Go.Proofs.Ytfafjijoeanbhaa
open Go.RowKit

end Go.Proofs.Ytfafjijoeanbhaa

namespace Go.Proofs.Ytfafjijoeanbhaa
open Go.RowKit
attribute [local go_sem ↓] Go.wp_at_zero Go.wp_at_succ

theorem divZ_neg {p q : Bool} {X Y : Int} : - divZ false (!p) q X Y = divZ true p q X Y := by
 unfold divZ
 cases p <;> cases q <;> simp [sg]
theorem divZ_zero {up p q : Bool} {Y : Int} : divZ up p q 0 Y = 0 := by unfold divZ; simp [sg]
theorem divZ_ceil {p q : Bool} {xs : List Int} {Y : Int} (h : Canon xs) : - divZ false (isNeg (- sv p xs)) q (val xs) Y = divZ true p q (val xs) Y := by
 have h0 := (canon_nonneg h).1
 by_cases e : val xs = 0
 ·rw [e, divZ_zero, divZ_zero]; rfl
 ·have : isNeg (- sv p xs) = !p := by
   unfold sv
   rw [← sg_not, isNeg_sg h0, decide_eq_true (digits_len_pos (by omega))]
   simp
  rw [this]; exact divZ_neg
end Go.Proofs.Ytfafjijoeanbhaa
