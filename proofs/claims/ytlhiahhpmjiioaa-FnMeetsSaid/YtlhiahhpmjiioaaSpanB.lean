/-
  Contracts of isTooLong, isBelow, isAbove, SpanFault and of the model's SpanFault. No condition but that the limbs read as lists of numbers.
-/
import Derived.Test.YtlhiahhpmjiioaaSpanA
import Derived.Test.YtlhiahhpmjiioaaBigH
namespace Go.Proofs.Ytlhiahhpmjiioaa
open Go.RowKit

set_option maxHeartbeats 400000 in
set_option maxRecDepth 20000 in
theorem isTooLong_yes (p : Bool) (a : Option Addr) (n c : Nat) (w : World) (h : 20 < n) :
    Calls Try.prog 47 #[.agg #[.bool p, .slice a n c]] w (Ans w (.bool true)) := by
  have e : decide ((20 : Int) < (n : Int)) = true := decide_eq_true (by omega)
  go_enter Try.func47, Try.ntmps47
  go_wp2
  go_ret
  exact ⟨rfl, (Kept.refl [] w).alloc _⟩

set_option maxHeartbeats 400000 in
set_option maxRecDepth 20000 in
theorem isTooLong_no (p : Bool) (a : Option Addr) (n c : Nat) (w : World) (h : ¬ 20 < n) :
    Calls Try.prog 47 #[.agg #[.bool p, .slice a n c]] w (Ans w (.bool false)) := by
  have e : decide ((20 : Int) < (n : Int)) = false := decide_eq_false (by omega)
  go_enter Try.func47, Try.ntmps47
  go_wp2
  go_ret
  exact ⟨rfl, (Kept.refl [] w).alloc _⟩

set_option maxHeartbeats 2000000 in
set_option maxRecDepth 20000 in
theorem isBelow_any (p q : Bool) (a b : Option Addr) (n c m d : Nat) (xs ys : List Int) (r : Bool) (w : World) (h : Sl w a n c xs) (h' : Sl w b m d ys) (hx : BigOk p xs) (hy : BigOk q ys) (hr : decide (sv p xs < sv q ys) = r) :
    Calls Try.prog 27 #[.agg #[.bool p, .slice a n c], .agg #[.bool q, .slice b m d]] w (Ans w (.bool r)) := by
  have HS := Lib.hid h
  have HS' := Lib.hid h'
  obtain ⟨v, hv⟩ : ∃ v : Int, v = cmpB p xs q ys := ⟨_, rfl⟩
  have HD := Lib.hid (show decide (v < 0) = r by rw [hv, cmpB_ok hx hy, cmpV_neg]; exact hr)
  have HV := Lib.hid hv
  clear hv hx hy hr h h'
  go_enter Try.func27, Try.ntmps27
  go_wp2_with fail
  generalize hW : ((w.alloc (.cells #[.bool p, .slice a n c] 26)).alloc (.cells #[.bool q, .slice b m d] 26)) = ww0
  have hkk : Kept [] ((w.alloc (.cells #[.bool p, .slice a n c] 26)).alloc (.cells #[.bool q, .slice b m d] 26)) ww0 := by rw [hW]; exact Kept.refl _ _
  have zzA : w.heap.size + 1 + 1 = ww0.heap.size := by rw [← hW]; simp
  obtain ⟨⟨nA0, nA1⟩, _⟩ := tp2 hkk.peel (g := w.heap.size) (by simp) (by simp)
  obtain ⟨⟨nB0, nB1⟩, _⟩ := tp2 hkk (g := w.heap.size + 1) (by simp) (by simp)
  have hk := hkk.peel.peel
  clear hkk hW
  have z0 := hk.size
  have KT := Lib.hid hk
  clear hk
  replace HS := Lib.hid (HS.out.kept0 KT.out)
  replace HS' := Lib.hid (HS'.out.kept0 KT.out)
  refine (CompareBigs_any _ _ _ _ _ _ _ _ _ _ _ HS.out HS'.out).mono ?_
  rintro e ww1 ⟨rfl, hk⟩
  rw [← HV.out]
  have z1 := hk.size
  replace nA0 := kc hk nA0
  replace nA1 := kc hk nA1
  replace nB0 := kc hk nB0
  replace nB1 := kc hk nB1
  replace HS := Lib.hid (HS.out.kept0 hk)
  replace HS' := Lib.hid (HS'.out.kept0 hk)
  replace KT := Lib.hid (KT.out.trans0 hk)
  clear hk
  go_wp2_with fail
  go_ret
  exact ⟨by rw [HD.out] <;> rfl, KT.out⟩

set_option maxHeartbeats 2000000 in
set_option maxRecDepth 20000 in
theorem isAbove_any (p q : Bool) (a b : Option Addr) (n c m d : Nat) (xs ys : List Int) (r : Bool) (w : World) (h : Sl w a n c xs) (h' : Sl w b m d ys) (hx : BigOk p xs) (hy : BigOk q ys) (hr : decide (sv q ys < sv p xs) = r) :
    Calls Try.prog 26 #[.agg #[.bool p, .slice a n c], .agg #[.bool q, .slice b m d]] w (Ans w (.bool r)) := by
  have HS := Lib.hid h
  have HS' := Lib.hid h'
  obtain ⟨v, hv⟩ : ∃ v : Int, v = cmpB p xs q ys := ⟨_, rfl⟩
  have HD := Lib.hid (show decide (0 < v) = r by rw [hv, cmpB_ok hx hy, cmpV_pos]; exact hr)
  have HV := Lib.hid hv
  clear hv hx hy hr h h'
  go_enter Try.func26, Try.ntmps26
  go_wp2_with fail
  generalize hW : ((w.alloc (.cells #[.bool p, .slice a n c] 26)).alloc (.cells #[.bool q, .slice b m d] 26)) = ww0
  have hkk : Kept [] ((w.alloc (.cells #[.bool p, .slice a n c] 26)).alloc (.cells #[.bool q, .slice b m d] 26)) ww0 := by rw [hW]; exact Kept.refl _ _
  have zzA : w.heap.size + 1 + 1 = ww0.heap.size := by rw [← hW]; simp
  obtain ⟨⟨nA0, nA1⟩, _⟩ := tp2 hkk.peel (g := w.heap.size) (by simp) (by simp)
  obtain ⟨⟨nB0, nB1⟩, _⟩ := tp2 hkk (g := w.heap.size + 1) (by simp) (by simp)
  have hk := hkk.peel.peel
  clear hkk hW
  have z0 := hk.size
  have KT := Lib.hid hk
  clear hk
  replace HS := Lib.hid (HS.out.kept0 KT.out)
  replace HS' := Lib.hid (HS'.out.kept0 KT.out)
  refine (CompareBigs_any _ _ _ _ _ _ _ _ _ _ _ HS.out HS'.out).mono ?_
  rintro e ww1 ⟨rfl, hk⟩
  rw [← HV.out]
  have z1 := hk.size
  replace nA0 := kc hk nA0
  replace nA1 := kc hk nA1
  replace nB0 := kc hk nB0
  replace nB1 := kc hk nB1
  replace HS := Lib.hid (HS.out.kept0 hk)
  replace HS' := Lib.hid (HS'.out.kept0 hk)
  replace KT := Lib.hid (KT.out.trans0 hk)
  clear hk
  go_wp2_with fail
  go_ret
  exact ⟨by rw [HD.out] <;> rfl, KT.out⟩

set_option maxHeartbeats 4000000 in
set_option maxRecDepth 20000 in
theorem SpanFault_any (p q : Bool) (a b : Option Addr) (n c m d : Nat) (xs ys : List Int) (w : World) (h : Sl w a n c xs) (h' : Sl w b m d ys) :
    Calls Try.prog 24 #[.agg #[.bool p, .slice a n c, .bool q, .slice b m d]] w (Ans w (.int .i64 (spanFault p xs q ys))) := by
  have HL : xs.length = n := h.1
  have HM : ys.length = m := h'.1
  have HS := Lib.hid h
  have HS' := Lib.hid h'
  clear h h'
  by_cases hz : bigFault2 p xs q ys = 0
  · have HZ := Lib.hid hz
    obtain ⟨hx, hy⟩ := bigFault2_zero hz
    have HX := Lib.hid hx
    have HY := Lib.hid hy
    clear hx hy
    by_cases h20 : 20 < n
    · skip
      rw [spanFault_many hz (Or.inl (by omega))]
      clear hz
      go_enter Try.func24, Try.ntmps24
      go_wp2_with fail
      generalize hW : (w.alloc (.cells #[.bool p, .slice a n c, .bool q, .slice b m d] 28)) = ww0
      have hkk : Kept [] (w.alloc (.cells #[.bool p, .slice a n c, .bool q, .slice b m d] 28)) ww0 := by rw [hW]; exact Kept.refl _ _
      have zzA : w.heap.size + 1 = ww0.heap.size := by rw [← hW]; simp
      obtain ⟨⟨nA0, nA1, nA2, nA3⟩, _⟩ := tp4 hkk (g := w.heap.size) (by simp) (by simp)
      have hk := hkk.peel
      clear hkk hW
      have z0 := hk.size
      have KT := Lib.hid hk
      clear hk
      replace HS := Lib.hid (HS.out.kept0 KT.out)
      replace HS' := Lib.hid (HS'.out.kept0 KT.out)
      refine (firstBigFault_two _ _ _ _ _ _ _ _ _ _ _ _ (by omega) HS.out.rd HS'.out.rd).mono ?_
      rintro e ww1 ⟨rfl, hk⟩
      rw [HZ.out]
      have z1 := hk.size
      replace nA0 := kc hk nA0
      replace nA1 := kc hk nA1
      replace nA2 := kc hk nA2
      replace nA3 := kc hk nA3
      replace HS := Lib.hid (HS.out.kept0 hk)
      replace HS' := Lib.hid (HS'.out.kept0 hk)
      replace KT := Lib.hid (KT.out.trans0 hk)
      clear hk
      have tA0 := nA0.out
      have tA1 := nA1.out
      have tA2 := nA2.out
      have tA3 := nA3.out
      go_wp2_with fail
      clear tA0 tA1 tA2 tA3
      refine (isTooLong_yes _ _ _ _ _ h20).mono ?_
      rintro e ww2 ⟨rfl, hk⟩
      have z2 := hk.size
      replace nA0 := kc hk nA0
      replace nA1 := kc hk nA1
      replace nA2 := kc hk nA2
      replace nA3 := kc hk nA3
      replace HS := Lib.hid (HS.out.kept0 hk)
      replace HS' := Lib.hid (HS'.out.kept0 hk)
      replace KT := Lib.hid (KT.out.trans0 hk)
      clear hk
      go_wp2_with fail
      go_ret
      exact ⟨rfl, KT.out⟩
    have g20 := h20
    clear h20
    by_cases h20 : 20 < m
    · skip
      rw [spanFault_many hz (Or.inr (by omega))]
      clear hz
      go_enter Try.func24, Try.ntmps24
      go_wp2_with fail
      generalize hW : (w.alloc (.cells #[.bool p, .slice a n c, .bool q, .slice b m d] 28)) = ww0
      have hkk : Kept [] (w.alloc (.cells #[.bool p, .slice a n c, .bool q, .slice b m d] 28)) ww0 := by rw [hW]; exact Kept.refl _ _
      have zzA : w.heap.size + 1 = ww0.heap.size := by rw [← hW]; simp
      obtain ⟨⟨nA0, nA1, nA2, nA3⟩, _⟩ := tp4 hkk (g := w.heap.size) (by simp) (by simp)
      have hk := hkk.peel
      clear hkk hW
      have z0 := hk.size
      have KT := Lib.hid hk
      clear hk
      replace HS := Lib.hid (HS.out.kept0 KT.out)
      replace HS' := Lib.hid (HS'.out.kept0 KT.out)
      refine (firstBigFault_two _ _ _ _ _ _ _ _ _ _ _ _ (by omega) HS.out.rd HS'.out.rd).mono ?_
      rintro e ww1 ⟨rfl, hk⟩
      rw [HZ.out]
      have z1 := hk.size
      replace nA0 := kc hk nA0
      replace nA1 := kc hk nA1
      replace nA2 := kc hk nA2
      replace nA3 := kc hk nA3
      replace HS := Lib.hid (HS.out.kept0 hk)
      replace HS' := Lib.hid (HS'.out.kept0 hk)
      replace KT := Lib.hid (KT.out.trans0 hk)
      clear hk
      have tA0 := nA0.out
      have tA1 := nA1.out
      have tA2 := nA2.out
      have tA3 := nA3.out
      go_wp2_with fail
      clear tA0 tA1 tA2 tA3
      refine (isTooLong_no _ _ _ _ _ g20).mono ?_
      rintro e ww2 ⟨rfl, hk⟩
      have z2 := hk.size
      replace nA0 := kc hk nA0
      replace nA1 := kc hk nA1
      replace nA2 := kc hk nA2
      replace nA3 := kc hk nA3
      replace HS := Lib.hid (HS.out.kept0 hk)
      replace HS' := Lib.hid (HS'.out.kept0 hk)
      replace KT := Lib.hid (KT.out.trans0 hk)
      clear hk
      have tA0 := nA0.out
      have tA1 := nA1.out
      have tA2 := nA2.out
      have tA3 := nA3.out
      go_wp2_with fail
      clear tA0 tA1 tA2 tA3
      refine (isTooLong_yes _ _ _ _ _ h20).mono ?_
      rintro e ww3 ⟨rfl, hk⟩
      have z3 := hk.size
      replace nA0 := kc hk nA0
      replace nA1 := kc hk nA1
      replace nA2 := kc hk nA2
      replace nA3 := kc hk nA3
      replace HS := Lib.hid (HS.out.kept0 hk)
      replace HS' := Lib.hid (HS'.out.kept0 hk)
      replace KT := Lib.hid (KT.out.trans0 hk)
      clear hk
      go_wp2_with fail
      go_ret
      exact ⟨rfl, KT.out⟩
    by_cases hlt : sv q ys < sv p xs
    · skip
      rw [spanFault_form hz (by omega) (by omega) hlt]
      have HD := Lib.hid (show decide (sv q ys < sv p xs) = true from decide_eq_true hlt)
      clear hlt hz
      go_enter Try.func24, Try.ntmps24
      go_wp2_with fail
      generalize hW : (w.alloc (.cells #[.bool p, .slice a n c, .bool q, .slice b m d] 28)) = ww0
      have hkk : Kept [] (w.alloc (.cells #[.bool p, .slice a n c, .bool q, .slice b m d] 28)) ww0 := by rw [hW]; exact Kept.refl _ _
      have zzA : w.heap.size + 1 = ww0.heap.size := by rw [← hW]; simp
      obtain ⟨⟨nA0, nA1, nA2, nA3⟩, _⟩ := tp4 hkk (g := w.heap.size) (by simp) (by simp)
      have hk := hkk.peel
      clear hkk hW
      have z0 := hk.size
      have KT := Lib.hid hk
      clear hk
      replace HS := Lib.hid (HS.out.kept0 KT.out)
      replace HS' := Lib.hid (HS'.out.kept0 KT.out)
      refine (firstBigFault_two _ _ _ _ _ _ _ _ _ _ _ _ (by omega) HS.out.rd HS'.out.rd).mono ?_
      rintro e ww1 ⟨rfl, hk⟩
      rw [HZ.out]
      have z1 := hk.size
      replace nA0 := kc hk nA0
      replace nA1 := kc hk nA1
      replace nA2 := kc hk nA2
      replace nA3 := kc hk nA3
      replace HS := Lib.hid (HS.out.kept0 hk)
      replace HS' := Lib.hid (HS'.out.kept0 hk)
      replace KT := Lib.hid (KT.out.trans0 hk)
      clear hk
      have tA0 := nA0.out
      have tA1 := nA1.out
      have tA2 := nA2.out
      have tA3 := nA3.out
      go_wp2_with fail
      clear tA0 tA1 tA2 tA3
      refine (isTooLong_no _ _ _ _ _ g20).mono ?_
      rintro e ww2 ⟨rfl, hk⟩
      have z2 := hk.size
      replace nA0 := kc hk nA0
      replace nA1 := kc hk nA1
      replace nA2 := kc hk nA2
      replace nA3 := kc hk nA3
      replace HS := Lib.hid (HS.out.kept0 hk)
      replace HS' := Lib.hid (HS'.out.kept0 hk)
      replace KT := Lib.hid (KT.out.trans0 hk)
      clear hk
      have tA0 := nA0.out
      have tA1 := nA1.out
      have tA2 := nA2.out
      have tA3 := nA3.out
      go_wp2_with fail
      clear tA0 tA1 tA2 tA3
      refine (isTooLong_no _ _ _ _ _ h20).mono ?_
      rintro e ww3 ⟨rfl, hk⟩
      have z3 := hk.size
      replace nA0 := kc hk nA0
      replace nA1 := kc hk nA1
      replace nA2 := kc hk nA2
      replace nA3 := kc hk nA3
      replace HS := Lib.hid (HS.out.kept0 hk)
      replace HS' := Lib.hid (HS'.out.kept0 hk)
      replace KT := Lib.hid (KT.out.trans0 hk)
      clear hk
      have tA0 := nA0.out
      have tA1 := nA1.out
      have tA2 := nA2.out
      have tA3 := nA3.out
      go_wp2_with fail
      clear tA0 tA1 tA2 tA3
      refine (isBelow_any _ _ _ _ _ _ _ _ _ _ _ _ HS'.out HS.out HY.out HX.out HD.out).mono ?_
      rintro e ww4 ⟨rfl, hk⟩
      have z4 := hk.size
      replace nA0 := kc hk nA0
      replace nA1 := kc hk nA1
      replace nA2 := kc hk nA2
      replace nA3 := kc hk nA3
      replace HS := Lib.hid (HS.out.kept0 hk)
      replace HS' := Lib.hid (HS'.out.kept0 hk)
      replace KT := Lib.hid (KT.out.trans0 hk)
      clear hk
      go_wp2_with fail
      go_ret
      exact ⟨rfl, KT.out⟩
    · skip
      rw [spanFault_ok hz (by omega) (by omega) hlt]
      have HD := Lib.hid (show decide (sv q ys < sv p xs) = false from decide_eq_false hlt)
      clear hlt hz
      go_enter Try.func24, Try.ntmps24
      go_wp2_with fail
      generalize hW : (w.alloc (.cells #[.bool p, .slice a n c, .bool q, .slice b m d] 28)) = ww0
      have hkk : Kept [] (w.alloc (.cells #[.bool p, .slice a n c, .bool q, .slice b m d] 28)) ww0 := by rw [hW]; exact Kept.refl _ _
      have zzA : w.heap.size + 1 = ww0.heap.size := by rw [← hW]; simp
      obtain ⟨⟨nA0, nA1, nA2, nA3⟩, _⟩ := tp4 hkk (g := w.heap.size) (by simp) (by simp)
      have hk := hkk.peel
      clear hkk hW
      have z0 := hk.size
      have KT := Lib.hid hk
      clear hk
      replace HS := Lib.hid (HS.out.kept0 KT.out)
      replace HS' := Lib.hid (HS'.out.kept0 KT.out)
      refine (firstBigFault_two _ _ _ _ _ _ _ _ _ _ _ _ (by omega) HS.out.rd HS'.out.rd).mono ?_
      rintro e ww1 ⟨rfl, hk⟩
      rw [HZ.out]
      have z1 := hk.size
      replace nA0 := kc hk nA0
      replace nA1 := kc hk nA1
      replace nA2 := kc hk nA2
      replace nA3 := kc hk nA3
      replace HS := Lib.hid (HS.out.kept0 hk)
      replace HS' := Lib.hid (HS'.out.kept0 hk)
      replace KT := Lib.hid (KT.out.trans0 hk)
      clear hk
      have tA0 := nA0.out
      have tA1 := nA1.out
      have tA2 := nA2.out
      have tA3 := nA3.out
      go_wp2_with fail
      clear tA0 tA1 tA2 tA3
      refine (isTooLong_no _ _ _ _ _ g20).mono ?_
      rintro e ww2 ⟨rfl, hk⟩
      have z2 := hk.size
      replace nA0 := kc hk nA0
      replace nA1 := kc hk nA1
      replace nA2 := kc hk nA2
      replace nA3 := kc hk nA3
      replace HS := Lib.hid (HS.out.kept0 hk)
      replace HS' := Lib.hid (HS'.out.kept0 hk)
      replace KT := Lib.hid (KT.out.trans0 hk)
      clear hk
      have tA0 := nA0.out
      have tA1 := nA1.out
      have tA2 := nA2.out
      have tA3 := nA3.out
      go_wp2_with fail
      clear tA0 tA1 tA2 tA3
      refine (isTooLong_no _ _ _ _ _ h20).mono ?_
      rintro e ww3 ⟨rfl, hk⟩
      have z3 := hk.size
      replace nA0 := kc hk nA0
      replace nA1 := kc hk nA1
      replace nA2 := kc hk nA2
      replace nA3 := kc hk nA3
      replace HS := Lib.hid (HS.out.kept0 hk)
      replace HS' := Lib.hid (HS'.out.kept0 hk)
      replace KT := Lib.hid (KT.out.trans0 hk)
      clear hk
      have tA0 := nA0.out
      have tA1 := nA1.out
      have tA2 := nA2.out
      have tA3 := nA3.out
      go_wp2_with fail
      clear tA0 tA1 tA2 tA3
      refine (isBelow_any _ _ _ _ _ _ _ _ _ _ _ _ HS'.out HS.out HY.out HX.out HD.out).mono ?_
      rintro e ww4 ⟨rfl, hk⟩
      have z4 := hk.size
      replace nA0 := kc hk nA0
      replace nA1 := kc hk nA1
      replace nA2 := kc hk nA2
      replace nA3 := kc hk nA3
      replace HS := Lib.hid (HS.out.kept0 hk)
      replace HS' := Lib.hid (HS'.out.kept0 hk)
      replace KT := Lib.hid (KT.out.trans0 hk)
      clear hk
      go_wp2_with fail
      go_ret
      exact ⟨rfl, KT.out⟩
  · skip
    rw [spanFault_big hz]
    generalize hf : bigFault2 p xs q ys = f at *
    have hne : (f == 0) = false := by rw [beq_eq_false_iff_ne]; exact hz
    have HZ := Lib.hid hf
    clear hf hz
    go_enter Try.func24, Try.ntmps24
    go_wp2_with fail
    generalize hW : (w.alloc (.cells #[.bool p, .slice a n c, .bool q, .slice b m d] 28)) = ww0
    have hkk : Kept [] (w.alloc (.cells #[.bool p, .slice a n c, .bool q, .slice b m d] 28)) ww0 := by rw [hW]; exact Kept.refl _ _
    have zzA : w.heap.size + 1 = ww0.heap.size := by rw [← hW]; simp
    obtain ⟨⟨nA0, nA1, nA2, nA3⟩, _⟩ := tp4 hkk (g := w.heap.size) (by simp) (by simp)
    have hk := hkk.peel
    clear hkk hW
    have z0 := hk.size
    have KT := Lib.hid hk
    clear hk
    replace HS := Lib.hid (HS.out.kept0 KT.out)
    replace HS' := Lib.hid (HS'.out.kept0 KT.out)
    refine (firstBigFault_two _ _ _ _ _ _ _ _ _ _ _ _ (by omega) HS.out.rd HS'.out.rd).mono ?_
    rintro e ww1 ⟨rfl, hk⟩
    rw [HZ.out]
    have z1 := hk.size
    replace nA0 := kc hk nA0
    replace nA1 := kc hk nA1
    replace nA2 := kc hk nA2
    replace nA3 := kc hk nA3
    replace HS := Lib.hid (HS.out.kept0 hk)
    replace HS' := Lib.hid (HS'.out.kept0 hk)
    replace KT := Lib.hid (KT.out.trans0 hk)
    clear hk
    go_wp2_with fail
    go_ret
    exact ⟨rfl, KT.out⟩

set_option maxHeartbeats 4000000 in
set_option maxRecDepth 20000 in
theorem sSpanFault_any (p q : Bool) (a b : Option Addr) (n c m d : Nat) (xs ys : List Int) (w : World) (h : Sl w a n c xs) (h' : Sl w b m d ys) :
    Calls Try.prog 53 #[.agg #[.bool p, .slice a n c, .bool q, .slice b m d]] w (Ans w (.int .i64 (spanFault p xs q ys))) := by
  have HL : xs.length = n := h.1
  have HM : ys.length = m := h'.1
  have HS := Lib.hid h
  have HS' := Lib.hid h'
  clear h h'
  by_cases hz : bigFault2 p xs q ys = 0
  · have HZ := Lib.hid hz
    obtain ⟨hx, hy⟩ := bigFault2_zero hz
    have HX := Lib.hid hx
    have HY := Lib.hid hy
    clear hx hy
    by_cases h20 : 20 < n
    · skip
      rw [spanFault_many hz (Or.inl (by omega))]
      clear hz
      have q2 : decide ((20 : Int) < (n : Int)) = true := decide_eq_true (by omega)
      go_enter Try.func53, Try.ntmps53
      go_wp2_with fail
      generalize hW : (w.alloc (.cells #[.bool p, .slice a n c, .bool q, .slice b m d] 28)) = ww0
      have hkk : Kept [] (w.alloc (.cells #[.bool p, .slice a n c, .bool q, .slice b m d] 28)) ww0 := by rw [hW]; exact Kept.refl _ _
      have zzA : w.heap.size + 1 = ww0.heap.size := by rw [← hW]; simp
      obtain ⟨⟨nA0, nA1, nA2, nA3⟩, _⟩ := tp4 hkk (g := w.heap.size) (by simp) (by simp)
      have hk := hkk.peel
      clear hkk hW
      have z0 := hk.size
      have KT := Lib.hid hk
      clear hk
      replace HS := Lib.hid (HS.out.kept0 KT.out)
      replace HS' := Lib.hid (HS'.out.kept0 KT.out)
      refine (l2Two_any _ _ _ _ _ _ _ _ _ _ _ HS.out.rd HS'.out.rd).mono ?_
      rintro e ww1 ⟨rfl, hk⟩
      rw [HZ.out]
      have z1 := hk.size
      replace nA0 := kc hk nA0
      replace nA1 := kc hk nA1
      replace nA2 := kc hk nA2
      replace nA3 := kc hk nA3
      replace HS := Lib.hid (HS.out.kept0 hk)
      replace HS' := Lib.hid (HS'.out.kept0 hk)
      replace KT := Lib.hid (KT.out.trans0 hk)
      clear hk
      have tA0 := nA0.out
      have tA1 := nA1.out
      have tA2 := nA2.out
      have tA3 := nA3.out
      go_wp2_with fail
      clear tA0 tA1 tA2 tA3
      go_ret
      exact ⟨rfl, KT.out⟩
    have g20 := h20
    clear h20
    by_cases h20 : 20 < m
    · skip
      rw [spanFault_many hz (Or.inr (by omega))]
      clear hz
      have q1 : decide ((20 : Int) < (n : Int)) = false := decide_eq_false (by omega)
      have q2 : decide ((20 : Int) < (m : Int)) = true := decide_eq_true (by omega)
      go_enter Try.func53, Try.ntmps53
      go_wp2_with fail
      generalize hW : (w.alloc (.cells #[.bool p, .slice a n c, .bool q, .slice b m d] 28)) = ww0
      have hkk : Kept [] (w.alloc (.cells #[.bool p, .slice a n c, .bool q, .slice b m d] 28)) ww0 := by rw [hW]; exact Kept.refl _ _
      have zzA : w.heap.size + 1 = ww0.heap.size := by rw [← hW]; simp
      obtain ⟨⟨nA0, nA1, nA2, nA3⟩, _⟩ := tp4 hkk (g := w.heap.size) (by simp) (by simp)
      have hk := hkk.peel
      clear hkk hW
      have z0 := hk.size
      have KT := Lib.hid hk
      clear hk
      replace HS := Lib.hid (HS.out.kept0 KT.out)
      replace HS' := Lib.hid (HS'.out.kept0 KT.out)
      refine (l2Two_any _ _ _ _ _ _ _ _ _ _ _ HS.out.rd HS'.out.rd).mono ?_
      rintro e ww1 ⟨rfl, hk⟩
      rw [HZ.out]
      have z1 := hk.size
      replace nA0 := kc hk nA0
      replace nA1 := kc hk nA1
      replace nA2 := kc hk nA2
      replace nA3 := kc hk nA3
      replace HS := Lib.hid (HS.out.kept0 hk)
      replace HS' := Lib.hid (HS'.out.kept0 hk)
      replace KT := Lib.hid (KT.out.trans0 hk)
      clear hk
      have tA0 := nA0.out
      have tA1 := nA1.out
      have tA2 := nA2.out
      have tA3 := nA3.out
      go_wp2_with fail
      clear tA0 tA1 tA2 tA3
      go_ret
      exact ⟨rfl, KT.out⟩
    by_cases hlt : sv q ys < sv p xs
    · skip
      rw [spanFault_form hz (by omega) (by omega) hlt]
      have HD := Lib.hid (show decide (sv q ys < sv p xs) = true from decide_eq_true hlt)
      have q1 : decide ((20 : Int) < (n : Int)) = false := decide_eq_false (by omega)
      have q2 : decide ((20 : Int) < (m : Int)) = false := decide_eq_false (by omega)
      obtain ⟨v, hv⟩ : ∃ v : Int, v = cmpV (sv p xs) (sv q ys) := ⟨_, rfl⟩
      have hd : decide (0 < v) = true := by rw [hv, cmpV_pos]; exact HD.out
      have HV := Lib.hid hv
      clear hv
      clear hlt hz
      go_enter Try.func53, Try.ntmps53
      go_wp2_with fail
      generalize hW : (w.alloc (.cells #[.bool p, .slice a n c, .bool q, .slice b m d] 28)) = ww0
      have hkk : Kept [] (w.alloc (.cells #[.bool p, .slice a n c, .bool q, .slice b m d] 28)) ww0 := by rw [hW]; exact Kept.refl _ _
      have zzA : w.heap.size + 1 = ww0.heap.size := by rw [← hW]; simp
      obtain ⟨⟨nA0, nA1, nA2, nA3⟩, _⟩ := tp4 hkk (g := w.heap.size) (by simp) (by simp)
      have hk := hkk.peel
      clear hkk hW
      have z0 := hk.size
      have KT := Lib.hid hk
      clear hk
      replace HS := Lib.hid (HS.out.kept0 KT.out)
      replace HS' := Lib.hid (HS'.out.kept0 KT.out)
      refine (l2Two_any _ _ _ _ _ _ _ _ _ _ _ HS.out.rd HS'.out.rd).mono ?_
      rintro e ww1 ⟨rfl, hk⟩
      rw [HZ.out]
      have z1 := hk.size
      replace nA0 := kc hk nA0
      replace nA1 := kc hk nA1
      replace nA2 := kc hk nA2
      replace nA3 := kc hk nA3
      replace HS := Lib.hid (HS.out.kept0 hk)
      replace HS' := Lib.hid (HS'.out.kept0 hk)
      replace KT := Lib.hid (KT.out.trans0 hk)
      clear hk
      have tA0 := nA0.out
      have tA1 := nA1.out
      have tA2 := nA2.out
      have tA3 := nA3.out
      go_wp2_with fail
      clear tA0 tA1 tA2 tA3
      refine (l2Compare_any _ _ _ _ _ _ _ _ _ _ _ HX.out.n40 HY.out.n40 HS.out HS'.out).mono ?_
      rintro e ww2 ⟨rfl, hk⟩
      rw [← HV.out]
      have z2 := hk.size
      replace nA0 := kc hk nA0
      replace nA1 := kc hk nA1
      replace nA2 := kc hk nA2
      replace nA3 := kc hk nA3
      replace HS := Lib.hid (HS.out.kept0 hk)
      replace HS' := Lib.hid (HS'.out.kept0 hk)
      replace KT := Lib.hid (KT.out.trans0 hk)
      clear hk
      go_wp2_with fail
      go_ret
      exact ⟨rfl, KT.out⟩
    · skip
      rw [spanFault_ok hz (by omega) (by omega) hlt]
      have HD := Lib.hid (show decide (sv q ys < sv p xs) = false from decide_eq_false hlt)
      have q1 : decide ((20 : Int) < (n : Int)) = false := decide_eq_false (by omega)
      have q2 : decide ((20 : Int) < (m : Int)) = false := decide_eq_false (by omega)
      obtain ⟨v, hv⟩ : ∃ v : Int, v = cmpV (sv p xs) (sv q ys) := ⟨_, rfl⟩
      have hd : decide (0 < v) = false := by rw [hv, cmpV_pos]; exact HD.out
      have HV := Lib.hid hv
      clear hv
      clear hlt hz
      go_enter Try.func53, Try.ntmps53
      go_wp2_with fail
      generalize hW : (w.alloc (.cells #[.bool p, .slice a n c, .bool q, .slice b m d] 28)) = ww0
      have hkk : Kept [] (w.alloc (.cells #[.bool p, .slice a n c, .bool q, .slice b m d] 28)) ww0 := by rw [hW]; exact Kept.refl _ _
      have zzA : w.heap.size + 1 = ww0.heap.size := by rw [← hW]; simp
      obtain ⟨⟨nA0, nA1, nA2, nA3⟩, _⟩ := tp4 hkk (g := w.heap.size) (by simp) (by simp)
      have hk := hkk.peel
      clear hkk hW
      have z0 := hk.size
      have KT := Lib.hid hk
      clear hk
      replace HS := Lib.hid (HS.out.kept0 KT.out)
      replace HS' := Lib.hid (HS'.out.kept0 KT.out)
      refine (l2Two_any _ _ _ _ _ _ _ _ _ _ _ HS.out.rd HS'.out.rd).mono ?_
      rintro e ww1 ⟨rfl, hk⟩
      rw [HZ.out]
      have z1 := hk.size
      replace nA0 := kc hk nA0
      replace nA1 := kc hk nA1
      replace nA2 := kc hk nA2
      replace nA3 := kc hk nA3
      replace HS := Lib.hid (HS.out.kept0 hk)
      replace HS' := Lib.hid (HS'.out.kept0 hk)
      replace KT := Lib.hid (KT.out.trans0 hk)
      clear hk
      have tA0 := nA0.out
      have tA1 := nA1.out
      have tA2 := nA2.out
      have tA3 := nA3.out
      go_wp2_with fail
      clear tA0 tA1 tA2 tA3
      refine (l2Compare_any _ _ _ _ _ _ _ _ _ _ _ HX.out.n40 HY.out.n40 HS.out HS'.out).mono ?_
      rintro e ww2 ⟨rfl, hk⟩
      rw [← HV.out]
      have z2 := hk.size
      replace nA0 := kc hk nA0
      replace nA1 := kc hk nA1
      replace nA2 := kc hk nA2
      replace nA3 := kc hk nA3
      replace HS := Lib.hid (HS.out.kept0 hk)
      replace HS' := Lib.hid (HS'.out.kept0 hk)
      replace KT := Lib.hid (KT.out.trans0 hk)
      clear hk
      go_wp2_with fail
      go_ret
      exact ⟨rfl, KT.out⟩
  · skip
    rw [spanFault_big hz]
    generalize hf : bigFault2 p xs q ys = f at *
    have hne : (f == 0) = false := by rw [beq_eq_false_iff_ne]; exact hz
    have HZ := Lib.hid hf
    clear hf hz
    go_enter Try.func53, Try.ntmps53
    go_wp2_with fail
    generalize hW : (w.alloc (.cells #[.bool p, .slice a n c, .bool q, .slice b m d] 28)) = ww0
    have hkk : Kept [] (w.alloc (.cells #[.bool p, .slice a n c, .bool q, .slice b m d] 28)) ww0 := by rw [hW]; exact Kept.refl _ _
    have zzA : w.heap.size + 1 = ww0.heap.size := by rw [← hW]; simp
    obtain ⟨⟨nA0, nA1, nA2, nA3⟩, _⟩ := tp4 hkk (g := w.heap.size) (by simp) (by simp)
    have hk := hkk.peel
    clear hkk hW
    have z0 := hk.size
    have KT := Lib.hid hk
    clear hk
    replace HS := Lib.hid (HS.out.kept0 KT.out)
    replace HS' := Lib.hid (HS'.out.kept0 KT.out)
    refine (l2Two_any _ _ _ _ _ _ _ _ _ _ _ HS.out.rd HS'.out.rd).mono ?_
    rintro e ww1 ⟨rfl, hk⟩
    rw [HZ.out]
    have z1 := hk.size
    replace nA0 := kc hk nA0
    replace nA1 := kc hk nA1
    replace nA2 := kc hk nA2
    replace nA3 := kc hk nA3
    replace HS := Lib.hid (HS.out.kept0 hk)
    replace HS' := Lib.hid (HS'.out.kept0 hk)
    replace KT := Lib.hid (KT.out.trans0 hk)
    clear hk
    go_wp2_with fail
    go_ret
    exact ⟨rfl, KT.out⟩

end Go.Proofs.Ytlhiahhpmjiioaa
