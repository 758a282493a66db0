/-
  Contracts of hasZero, the model's l3Zero, and outOfUnits. Conditions: the ends have no fault; what is taken out of units has 40 limbs at most.
-/
import Derived.Deep.RegionHeld3
import Derived.Deep.DrawnRows
import Derived.Deep.DeepCutAuto
import Derived.Test.YtofpommikmdlfaaJ5
import Derived.Test.YtofpommikmdlfaaJ1
namespace Go.Proofs.Ytofpommikmdlfaa
open Go.RowKit

theorem FloorDiv_w (p q : Bool) (a b : Option Addr) (n c m d : Nat) (xs ys : List Int) (z : Int) (w : World) (h : Sl w a n c xs) (h' : Sl w b m d ys) (hx : BigOk p xs) (hy : BigOk q ys) (hy0 : ys.length ≠ 0) (hl : (mag z).length ≤ 40) (hz : z = divZ false p q (val xs) (val ys)) :
    Calls Try.prog 27 #[.agg #[.bool p, .slice a n c], .agg #[.bool q, .slice b m d]] w (BigZ w z) := by
  have := FloorDiv_any p q a b n c m d xs ys w h h'
  rw [divB_w hx hy hy0 hl hz] at this
  exact this
theorem CeilDiv_w (p q : Bool) (a b : Option Addr) (n c m d : Nat) (xs ys : List Int) (z : Int) (w : World) (h : Sl w a n c xs) (h' : Sl w b m d ys) (hx : BigOk p xs) (hy : BigOk q ys) (hy0 : ys.length ≠ 0) (hl : (mag z).length ≤ 40) (hz : z = divZ true p q (val xs) (val ys)) :
    Calls Try.prog 28 #[.agg #[.bool p, .slice a n c], .agg #[.bool q, .slice b m d]] w (BigZ w z) := by
  have := CeilDiv_any p q a b n c m d xs ys w h h'
  rw [divB_w hx hy hy0 hl hz] at this
  exact this
attribute [local go_sem ↓] field_big
set_option maxHeartbeats 2000000 in
set_option maxRecDepth 20000 in
theorem hasZero_any (p q : Bool) (a b : Option Addr) (n c m d : Nat) (xs : List Int) (w : World) (h : Sl w a n c xs) (hx : BigOk p xs) :
    Calls Try.prog 24 #[.agg #[.bool p, .slice a n c, .bool q, .slice b m d]] w (Ans w (.bool (hasZ p xs q))) := by
  have HS := Lib.hid h
  clear h
  cases q
  · skip
    obtain ⟨r, hr⟩ : ∃ r, r = decide (sv false [] < sv p xs) := ⟨_, rfl⟩
    have HE := Lib.hid (show hasZ p xs false = !r by rw [hr]; unfold hasZ; rw [show sv false [] = 0 from rfl]; by_cases h9 : sv p xs ≤ 0 <;> simp [h9] <;> omega)
    have HD := Lib.hid hr.symm
    have HX := Lib.hid hx
    have HO := Lib.hid (show BigOk false [] from ⟨by decide, by simp⟩)
    clear hr hx
    go_enter Try.func24, Try.ntmps24
    go_wp2_with fail
    generalize hW : (w.alloc (.cells #[.bool p, .slice a n c, .bool false, .slice b m d] 30)) = ww0
    have hkk : Kept [] (w.alloc (.cells #[.bool p, .slice a n c, .bool false, .slice b m d] 30)) ww0 := by rw [hW]; exact Kept.refl _ _
    have zzA : w.heap.size + 1 = ww0.heap.size := by rw [← hW]; simp
    obtain ⟨⟨nA0, nA1, nA2, nA3⟩, _⟩ := tp4 hkk (g := w.heap.size) (by simp) (by simp)
    have hk := hkk.peel
    clear hkk hW
    have z0 := hk.size
    have KT := Lib.hid hk
    clear hk
    replace HS := Lib.hid (HS.out.kept0 KT.out)
    refine (isAbove_any _ _ _ _ _ _ _ _ _ _ r _ HS.out (Sl.nil _) HX.out HO.out HD.out).mono ?_
    rintro e ww1 ⟨rfl, hk⟩
    have z1 := hk.size
    replace nA0 := kc hk nA0
    replace nA1 := kc hk nA1
    replace nA2 := kc hk nA2
    replace nA3 := kc hk nA3
    replace HS := Lib.hid (HS.out.kept0 hk)
    replace KT := Lib.hid (KT.out.trans0 hk)
    clear hk
    go_wp2_with fail
    go_ret
    exact ⟨by rw [HE.out] <;> rfl, KT.out⟩
  · skip
    rw [show hasZ p xs true = false from rfl]
    clear hx
    go_enter Try.func24, Try.ntmps24
    go_wp2
    go_ret
    exact ⟨rfl, (Kept.refl [] w).alloc _⟩

set_option maxHeartbeats 2000000 in
set_option maxRecDepth 20000 in
theorem l3Zero_any (p q : Bool) (a b : Option Addr) (n c m d : Nat) (xs : List Int) (w : World) (h : Sl w a n c xs) (hx : BigOk p xs) :
    Calls Try.prog 18 #[.agg #[.bool p, .slice a n c, .bool q, .slice b m d]] w (Ans w (.bool (hasZ p xs q))) := by
  have hl := h.1
  have hv := canon_nonneg hx.n40.canon
  clear h
  cases p
  · by_cases hn : n = 0
    · have hxs : xs = [] := List.eq_nil_of_length_eq_zero (by omega)
      have HE := Lib.hid (show hasZ false xs q = !q by unfold hasZ; rw [hxs]; simp [sv, sg, val])
      have hn0 : ((n : Int) == 0) = true := by rw [beq_iff_eq]; omega
      clear hxs hn
      clear hv hl hx
      go_enter Try.func18, Try.ntmps18
      go_wp2
      go_ret
      exact ⟨by rw [HE.out] <;> rfl, (Kept.refl [] w).alloc _⟩
    · have hpos : 0 < val xs := hv.2 (fun e => hn (by rw [← hl, e]; rfl))
      have HE := Lib.hid (show hasZ false xs q = false by unfold hasZ; rw [show sv false xs = val xs from rfl, decide_eq_false (by omega), Bool.and_false])
      have hn0 : ((n : Int) == 0) = false := by rw [beq_eq_false_iff_ne]; omega
      clear hpos hn
      clear hv hl hx
      go_enter Try.func18, Try.ntmps18
      go_wp2
      go_ret
      exact ⟨by rw [HE.out] <;> rfl, (Kept.refl [] w).alloc _⟩
  · have HE := Lib.hid (show hasZ true xs q = !q by unfold hasZ; rw [show sv true xs = - val xs from rfl, decide_eq_true (by omega), Bool.and_true])
    clear hv hl hx
    go_enter Try.func18, Try.ntmps18
    go_wp2
    go_ret
    exact ⟨by rw [HE.out] <;> rfl, (Kept.refl [] w).alloc _⟩

end Go.Proofs.Ytofpommikmdlfaa
