/-
  Joined texts.
-/
import Derived.Deep.RegionHeld3
import Derived.Deep.DrawnRows
import Derived.Deep.DeepCutAuto
import Derived.Test.YtfafjijoeanbhaaGreatJ1
import Derived.Test.YtfafjijoeanbhaaGreatJ2
import Derived.Test.YtfafjijoeanbhaaGreatBigH
namespace Go.Proofs.YtfafjijoeanbhaaGreat
open Go.RowKit

set_option maxHeartbeats 2000000 in
set_option maxRecDepth 20000 in
theorem eqSpan_yes (p q : Bool) (a b a' b' : Option Addr) (n c m d c' d' : Nat) (xs ys : List Int) (w : World) (h1 : Rd w a n xs) (h2 : Rd w a' n xs) (h3 : Rd w b m ys) (h4 : Rd w b' m ys) :
  Calls Tryz.prog 34 #[.agg #[.bool p, .slice a n c, .bool q, .slice b m d], .agg #[.bool p, .slice a' n c', .bool q, .slice b' m d']] w (Ans w (.bool true)) := by
 have H1 := Lib.hid h1
 have H2 := Lib.hid h2
 have H3 := Lib.hid h3
 have H4 := Lib.hid h4
 clear h1 h2 h3 h4
 go_enter Tryz.func34, Tryz.ntmps34
 go_wp2_with fail
 generalize hW : ((w.alloc (.cells #[.bool p, .slice a n c, .bool q, .slice b m d] 26)).alloc (.cells #[.bool p, .slice a' n c', .bool q, .slice b' m d'] 26)) = ww0
 have hkk : Kept [] ((w.alloc (.cells #[.bool p, .slice a n c, .bool q, .slice b m d] 26)).alloc (.cells #[.bool p, .slice a' n c', .bool q, .slice b' m d'] 26)) ww0 := by rw [hW]; exact Kept.refl _ _
 have zzA : w.heap.size + 1 + 1 = ww0.heap.size := by rw [← hW]; simp
 obtain ⟨⟨nA0, nA1, nA2, nA3⟩, _⟩ := tp4 hkk.peel (g := w.heap.size) (by simp) (by simp)
 obtain ⟨⟨nB0, nB1, nB2, nB3⟩, _⟩ := tp4 hkk (g := w.heap.size + 1) (by simp) (by simp)
 have hk := hkk.peel.peel
 clear hkk hW
 have z0 := hk.size
 have KT := Lib.hid hk
 clear hk
 replace H1 := Lib.hid (H1.out.kept0 KT.out)
 replace H2 := Lib.hid (H2.out.kept0 KT.out)
 replace H3 := Lib.hid (H3.out.kept0 KT.out)
 replace H4 := Lib.hid (H4.out.kept0 KT.out)
 refine (eqBig_yes _ _ _ _ _ _ _ _ H1.out H2.out).mono ?_
 rintro e ww1 ⟨rfl, hk⟩
 have z1 := hk.size
 replace nA0 := kc hk nA0
 replace nA1 := kc hk nA1
 replace nA2 := kc hk nA2
 replace nA3 := kc hk nA3
 replace nB0 := kc hk nB0
 replace nB1 := kc hk nB1
 replace nB2 := kc hk nB2
 replace nB3 := kc hk nB3
 replace H1 := Lib.hid (H1.out.kept0 hk)
 replace H2 := Lib.hid (H2.out.kept0 hk)
 replace H3 := Lib.hid (H3.out.kept0 hk)
 replace H4 := Lib.hid (H4.out.kept0 hk)
 replace KT := Lib.hid (KT.out.trans0 hk)
 clear hk
 have tA0 := nA0.out
 have tA1 := nA1.out
 have tA2 := nA2.out
 have tA3 := nA3.out
 have tB0 := nB0.out
 have tB1 := nB1.out
 have tB2 := nB2.out
 have tB3 := nB3.out
 go_wp2_with fail
 clear tA0 tA1 tA2 tA3 tB0 tB1 tB2 tB3
 refine (eqBig_yes _ _ _ _ _ _ _ _ H3.out H4.out).mono ?_
 rintro e ww2 ⟨rfl, hk⟩
 have z2 := hk.size
 replace nA0 := kc hk nA0
 replace nA1 := kc hk nA1
 replace nA2 := kc hk nA2
 replace nA3 := kc hk nA3
 replace nB0 := kc hk nB0
 replace nB1 := kc hk nB1
 replace nB2 := kc hk nB2
 replace nB3 := kc hk nB3
 replace H1 := Lib.hid (H1.out.kept0 hk)
 replace H2 := Lib.hid (H2.out.kept0 hk)
 replace H3 := Lib.hid (H3.out.kept0 hk)
 replace H4 := Lib.hid (H4.out.kept0 hk)
 replace KT := Lib.hid (KT.out.trans0 hk)
 clear hk
 go_wp2_with fail
 go_ret
 exact ⟨rfl, KT.out⟩

theorem cells4at {w : World} {g : Nat} {x0 x1 x2 x3 : Value} (v0 v1 v2 v3 : Value) (h0 : w.cell? ⟨g, 0, none⟩ = some x0) (h1 : w.cell? ⟨g, 1, none⟩ = some x1) (h2 : w.cell? ⟨g, 2, none⟩ = some x2) (h3 : w.cell? ⟨g, 3, none⟩ = some x3) :
  ((((w.setCell ⟨g, 0, none⟩ v0).setCell ⟨g, 1, none⟩ v1).setCell ⟨g, 2, none⟩ v2).setCell ⟨g, 3, none⟩ v3).cell? ⟨g, 0, none⟩ = some v0 ∧ ((((w.setCell ⟨g, 0, none⟩ v0).setCell ⟨g, 1, none⟩ v1).setCell ⟨g, 2, none⟩ v2).setCell ⟨g, 3, none⟩ v3).cell? ⟨g, 1, none⟩ = some v1 ∧
  ((((w.setCell ⟨g, 0, none⟩ v0).setCell ⟨g, 1, none⟩ v1).setCell ⟨g, 2, none⟩ v2).setCell ⟨g, 3, none⟩ v3).cell? ⟨g, 2, none⟩ = some v2 ∧ ((((w.setCell ⟨g, 0, none⟩ v0).setCell ⟨g, 1, none⟩ v1).setCell ⟨g, 2, none⟩ v2).setCell ⟨g, 3, none⟩ v3).cell? ⟨g, 3, none⟩ = some v3 := by
 obtain ⟨e0, e1, e2⟩ := cells3' v0 v1 v2 h0 h1 h2
 have e3 : (((w.setCell ⟨g, 0, none⟩ v0).setCell ⟨g, 1, none⟩ v1).setCell ⟨g, 2, none⟩ v2).cell? ⟨g, 3, none⟩ = some x3 := by
  rw [World.cell?_setCell_other _ _ _ _ (by simp), World.cell?_setCell_other _ _ _ _ (by simp), World.cell?_setCell_other _ _ _ _ (by simp)]; exact h3
 exact ⟨by rw [World.cell?_setCell_other _ _ _ _ (by simp)]; exact e0, by rw [World.cell?_setCell_other _ _ _ _ (by simp)]; exact e1, by rw [World.cell?_setCell_other _ _ _ _ (by simp)]; exact e2, World.cell?_setCell_same _ _ _ e3⟩

end Go.Proofs.YtfafjijoeanbhaaGreat
namespace Go.Proofs.YtfafjijoeanbhaaGreat
open Go.RowKit

set_option maxHeartbeats 400000 in
set_option maxRecDepth 20000 in
theorem isTooLong_yes (p : Bool) (a : Option Addr) (n c : Nat) (w : World) (h : 20 < n) :
  Calls Tryz.prog 115 #[.agg #[.bool p, .slice a n c]] w (Ans w (.bool true)) := by
 have e : decide ((20 : Int) < (n : Int)) = true := decide_eq_true (by omega)
 go_enter Tryz.func115, Tryz.ntmps115
 go_wp2
 go_ret
 exact ⟨rfl, (Kept.refl [] w).alloc _⟩

set_option maxHeartbeats 400000 in
set_option maxRecDepth 20000 in
theorem isTooLong_no (p : Bool) (a : Option Addr) (n c : Nat) (w : World) (h : ¬ 20 < n) :
  Calls Tryz.prog 115 #[.agg #[.bool p, .slice a n c]] w (Ans w (.bool false)) := by
 have e : decide ((20 : Int) < (n : Int)) = false := decide_eq_false (by omega)
 go_enter Tryz.func115, Tryz.ntmps115
 go_wp2
 go_ret
 exact ⟨rfl, (Kept.refl [] w).alloc _⟩

set_option maxHeartbeats 2000000 in
set_option maxRecDepth 20000 in
theorem isBelow_any (p q : Bool) (a b : Option Addr) (n c m d : Nat) (xs ys : List Int) (r : Bool) (w : World) (h : Sl w a n c xs) (h' : Sl w b m d ys) (hx : BigOk p xs) (hy : BigOk q ys) (hr : decide (sv p xs < sv q ys) = r) :
  Calls Tryz.prog 151 #[.agg #[.bool p, .slice a n c], .agg #[.bool q, .slice b m d]] w (Ans w (.bool r)) := by
 have HS := Lib.hid h
 have HS' := Lib.hid h'
 obtain ⟨v, hv⟩ : ∃ v : Int, v = cmpB p xs q ys := ⟨_, rfl⟩
 have HD := Lib.hid (show decide (v < 0) = r by rw [hv, cmpB_ok hx hy, cmpV_neg]; exact hr)
 have HV := Lib.hid hv
 clear hv hx hy hr h h'
 go_enter Tryz.func151, Tryz.ntmps151
 go_wp2_with fail
 generalize hW : ((w.alloc (.cells #[.bool p, .slice a n c] 24)).alloc (.cells #[.bool q, .slice b m d] 24)) = ww0
 have hkk : Kept [] ((w.alloc (.cells #[.bool p, .slice a n c] 24)).alloc (.cells #[.bool q, .slice b m d] 24)) ww0 := by rw [hW]; exact Kept.refl _ _
 have zzA : w.heap.size + 1 + 1 = ww0.heap.size := by rw [← hW]; simp
 obtain ⟨⟨nA0, nA1⟩, _⟩ := tp2 hkk.peel (g := w.heap.size) (by simp) (by simp)
 obtain ⟨⟨nB0, nB1⟩, _⟩ := tp2 hkk (g := w.heap.size + 1) (by simp) (by simp)
 have hk := hkk.peel.peel
 clear hkk hW
 have z0 := hk.size
 have KT := Lib.hid hk
 clear hk
 replace HS := Lib.hid (HS.out.kept0 KT.out)
 replace HS' := Lib.hid (HS'.out.kept0 KT.out)
 refine (CompareBigs_any _ _ _ _ _ _ _ _ _ _ _ HS.out HS'.out).mono ?_
 rintro e ww1 ⟨rfl, hk⟩
 rw [← HV.out]
 have z1 := hk.size
 replace nA0 := kc hk nA0
 replace nA1 := kc hk nA1
 replace nB0 := kc hk nB0
 replace nB1 := kc hk nB1
 replace HS := Lib.hid (HS.out.kept0 hk)
 replace HS' := Lib.hid (HS'.out.kept0 hk)
 replace KT := Lib.hid (KT.out.trans0 hk)
 clear hk
 go_wp2_with fail
 go_ret
 exact ⟨by rw [HD.out] <;> rfl, KT.out⟩

set_option maxHeartbeats 2000000 in
set_option maxRecDepth 20000 in
theorem isAbove_any (p q : Bool) (a b : Option Addr) (n c m d : Nat) (xs ys : List Int) (r : Bool) (w : World) (h : Sl w a n c xs) (h' : Sl w b m d ys) (hx : BigOk p xs) (hy : BigOk q ys) (hr : decide (sv q ys < sv p xs) = r) :
  Calls Tryz.prog 130 #[.agg #[.bool p, .slice a n c], .agg #[.bool q, .slice b m d]] w (Ans w (.bool r)) := by
 have HS := Lib.hid h
 have HS' := Lib.hid h'
 obtain ⟨v, hv⟩ : ∃ v : Int, v = cmpB p xs q ys := ⟨_, rfl⟩
 have HD := Lib.hid (show decide (0 < v) = r by rw [hv, cmpB_ok hx hy, cmpV_pos]; exact hr)
 have HV := Lib.hid hv
 clear hv hx hy hr h h'
 go_enter Tryz.func130, Tryz.ntmps130
 go_wp2_with fail
 generalize hW : ((w.alloc (.cells #[.bool p, .slice a n c] 24)).alloc (.cells #[.bool q, .slice b m d] 24)) = ww0
 have hkk : Kept [] ((w.alloc (.cells #[.bool p, .slice a n c] 24)).alloc (.cells #[.bool q, .slice b m d] 24)) ww0 := by rw [hW]; exact Kept.refl _ _
 have zzA : w.heap.size + 1 + 1 = ww0.heap.size := by rw [← hW]; simp
 obtain ⟨⟨nA0, nA1⟩, _⟩ := tp2 hkk.peel (g := w.heap.size) (by simp) (by simp)
 obtain ⟨⟨nB0, nB1⟩, _⟩ := tp2 hkk (g := w.heap.size + 1) (by simp) (by simp)
 have hk := hkk.peel.peel
 clear hkk hW
 have z0 := hk.size
 have KT := Lib.hid hk
 clear hk
 replace HS := Lib.hid (HS.out.kept0 KT.out)
 replace HS' := Lib.hid (HS'.out.kept0 KT.out)
 refine (CompareBigs_any _ _ _ _ _ _ _ _ _ _ _ HS.out HS'.out).mono ?_
 rintro e ww1 ⟨rfl, hk⟩
 rw [← HV.out]
 have z1 := hk.size
 replace nA0 := kc hk nA0
 replace nA1 := kc hk nA1
 replace nB0 := kc hk nB0
 replace nB1 := kc hk nB1
 replace HS := Lib.hid (HS.out.kept0 hk)
 replace HS' := Lib.hid (HS'.out.kept0 hk)
 replace KT := Lib.hid (KT.out.trans0 hk)
 clear hk
 go_wp2_with fail
 go_ret
 exact ⟨by rw [HD.out] <;> rfl, KT.out⟩

set_option maxHeartbeats 4000000 in
set_option maxRecDepth 20000 in
theorem SpanFault_any (p q : Bool) (a b : Option Addr) (n c m d : Nat) (xs ys : List Int) (w : World) (h : Sl w a n c xs) (h' : Sl w b m d ys) :
  Calls Tryz.prog 84 #[.agg #[.bool p, .slice a n c, .bool q, .slice b m d]] w (Ans w (.int .i64 (spanFault p xs q ys))) := by
 have HL : xs.length = n := h.1
 have HM : ys.length = m := h'.1
 have HS := Lib.hid h
 have HS' := Lib.hid h'
 clear h h'
 by_cases hz : bigFault2 p xs q ys = 0
 ·have HZ := Lib.hid hz
  obtain ⟨hx, hy⟩ := bigFault2_zero hz
  have HX := Lib.hid hx
  have HY := Lib.hid hy
  clear hx hy
  by_cases h20 : 20 < n
  ·skip
   rw [spanFault_many hz (Or.inl (by omega))]
   clear hz
   go_enter Tryz.func84, Tryz.ntmps84
   go_wp2_with fail
   generalize hW : (w.alloc (.cells #[.bool p, .slice a n c, .bool q, .slice b m d] 26)) = ww0
   have hkk : Kept [] (w.alloc (.cells #[.bool p, .slice a n c, .bool q, .slice b m d] 26)) ww0 := by rw [hW]; exact Kept.refl _ _
   have zzA : w.heap.size + 1 = ww0.heap.size := by rw [← hW]; simp
   obtain ⟨⟨nA0, nA1, nA2, nA3⟩, _⟩ := tp4 hkk (g := w.heap.size) (by simp) (by simp)
   have hk := hkk.peel
   clear hkk hW
   have z0 := hk.size
   have KT := Lib.hid hk
   clear hk
   replace HS := Lib.hid (HS.out.kept0 KT.out)
   replace HS' := Lib.hid (HS'.out.kept0 KT.out)
   refine (firstBigFault_two _ _ _ _ _ _ _ _ _ _ _ _ (by omega) HS.out.rd HS'.out.rd).mono ?_
   rintro e ww1 ⟨rfl, hk⟩
   rw [HZ.out]
   have z1 := hk.size
   replace nA0 := kc hk nA0
   replace nA1 := kc hk nA1
   replace nA2 := kc hk nA2
   replace nA3 := kc hk nA3
   replace HS := Lib.hid (HS.out.kept0 hk)
   replace HS' := Lib.hid (HS'.out.kept0 hk)
   replace KT := Lib.hid (KT.out.trans0 hk)
   clear hk
   have tA0 := nA0.out
   have tA1 := nA1.out
   have tA2 := nA2.out
   have tA3 := nA3.out
   go_wp2_with fail
   clear tA0 tA1 tA2 tA3
   refine (isTooLong_yes _ _ _ _ _ h20).mono ?_
   rintro e ww2 ⟨rfl, hk⟩
   have z2 := hk.size
   replace nA0 := kc hk nA0
   replace nA1 := kc hk nA1
   replace nA2 := kc hk nA2
   replace nA3 := kc hk nA3
   replace HS := Lib.hid (HS.out.kept0 hk)
   replace HS' := Lib.hid (HS'.out.kept0 hk)
   replace KT := Lib.hid (KT.out.trans0 hk)
   clear hk
   go_wp2_with fail
   go_ret
   exact ⟨rfl, KT.out⟩
  have g20 := h20
  clear h20
  by_cases h20 : 20 < m
  ·skip
   rw [spanFault_many hz (Or.inr (by omega))]
   clear hz
   go_enter Tryz.func84, Tryz.ntmps84
   go_wp2_with fail
   generalize hW : (w.alloc (.cells #[.bool p, .slice a n c, .bool q, .slice b m d] 26)) = ww0
   have hkk : Kept [] (w.alloc (.cells #[.bool p, .slice a n c, .bool q, .slice b m d] 26)) ww0 := by rw [hW]; exact Kept.refl _ _
   have zzA : w.heap.size + 1 = ww0.heap.size := by rw [← hW]; simp
   obtain ⟨⟨nA0, nA1, nA2, nA3⟩, _⟩ := tp4 hkk (g := w.heap.size) (by simp) (by simp)
   have hk := hkk.peel
   clear hkk hW
   have z0 := hk.size
   have KT := Lib.hid hk
   clear hk
   replace HS := Lib.hid (HS.out.kept0 KT.out)
   replace HS' := Lib.hid (HS'.out.kept0 KT.out)
   refine (firstBigFault_two _ _ _ _ _ _ _ _ _ _ _ _ (by omega) HS.out.rd HS'.out.rd).mono ?_
   rintro e ww1 ⟨rfl, hk⟩
   rw [HZ.out]
   have z1 := hk.size
   replace nA0 := kc hk nA0
   replace nA1 := kc hk nA1
   replace nA2 := kc hk nA2
   replace nA3 := kc hk nA3
   replace HS := Lib.hid (HS.out.kept0 hk)
   replace HS' := Lib.hid (HS'.out.kept0 hk)
   replace KT := Lib.hid (KT.out.trans0 hk)
   clear hk
   have tA0 := nA0.out
   have tA1 := nA1.out
   have tA2 := nA2.out
   have tA3 := nA3.out
   go_wp2_with fail
   clear tA0 tA1 tA2 tA3
   refine (isTooLong_no _ _ _ _ _ g20).mono ?_
   rintro e ww2 ⟨rfl, hk⟩
   have z2 := hk.size
   replace nA0 := kc hk nA0
   replace nA1 := kc hk nA1
   replace nA2 := kc hk nA2
   replace nA3 := kc hk nA3
   replace HS := Lib.hid (HS.out.kept0 hk)
   replace HS' := Lib.hid (HS'.out.kept0 hk)
   replace KT := Lib.hid (KT.out.trans0 hk)
   clear hk
   have tA0 := nA0.out
   have tA1 := nA1.out
   have tA2 := nA2.out
   have tA3 := nA3.out
   go_wp2_with fail
   clear tA0 tA1 tA2 tA3
   refine (isTooLong_yes _ _ _ _ _ h20).mono ?_
   rintro e ww3 ⟨rfl, hk⟩
   have z3 := hk.size
   replace nA0 := kc hk nA0
   replace nA1 := kc hk nA1
   replace nA2 := kc hk nA2
   replace nA3 := kc hk nA3
   replace HS := Lib.hid (HS.out.kept0 hk)
   replace HS' := Lib.hid (HS'.out.kept0 hk)
   replace KT := Lib.hid (KT.out.trans0 hk)
   clear hk
   go_wp2_with fail
   go_ret
   exact ⟨rfl, KT.out⟩
  by_cases hlt : sv q ys < sv p xs
  ·skip
   rw [spanFault_form hz (by omega) (by omega) hlt]
   have HD := Lib.hid (show decide (sv q ys < sv p xs) = true from decide_eq_true hlt)
   clear hlt hz
   go_enter Tryz.func84, Tryz.ntmps84
   go_wp2_with fail
   generalize hW : (w.alloc (.cells #[.bool p, .slice a n c, .bool q, .slice b m d] 26)) = ww0
   have hkk : Kept [] (w.alloc (.cells #[.bool p, .slice a n c, .bool q, .slice b m d] 26)) ww0 := by rw [hW]; exact Kept.refl _ _
   have zzA : w.heap.size + 1 = ww0.heap.size := by rw [← hW]; simp
   obtain ⟨⟨nA0, nA1, nA2, nA3⟩, _⟩ := tp4 hkk (g := w.heap.size) (by simp) (by simp)
   have hk := hkk.peel
   clear hkk hW
   have z0 := hk.size
   have KT := Lib.hid hk
   clear hk
   replace HS := Lib.hid (HS.out.kept0 KT.out)
   replace HS' := Lib.hid (HS'.out.kept0 KT.out)
   refine (firstBigFault_two _ _ _ _ _ _ _ _ _ _ _ _ (by omega) HS.out.rd HS'.out.rd).mono ?_
   rintro e ww1 ⟨rfl, hk⟩
   rw [HZ.out]
   have z1 := hk.size
   replace nA0 := kc hk nA0
   replace nA1 := kc hk nA1
   replace nA2 := kc hk nA2
   replace nA3 := kc hk nA3
   replace HS := Lib.hid (HS.out.kept0 hk)
   replace HS' := Lib.hid (HS'.out.kept0 hk)
   replace KT := Lib.hid (KT.out.trans0 hk)
   clear hk
   have tA0 := nA0.out
   have tA1 := nA1.out
   have tA2 := nA2.out
   have tA3 := nA3.out
   go_wp2_with fail
   clear tA0 tA1 tA2 tA3
   refine (isTooLong_no _ _ _ _ _ g20).mono ?_
   rintro e ww2 ⟨rfl, hk⟩
   have z2 := hk.size
   replace nA0 := kc hk nA0
   replace nA1 := kc hk nA1
   replace nA2 := kc hk nA2
   replace nA3 := kc hk nA3
   replace HS := Lib.hid (HS.out.kept0 hk)
   replace HS' := Lib.hid (HS'.out.kept0 hk)
   replace KT := Lib.hid (KT.out.trans0 hk)
   clear hk
   have tA0 := nA0.out
   have tA1 := nA1.out
   have tA2 := nA2.out
   have tA3 := nA3.out
   go_wp2_with fail
   clear tA0 tA1 tA2 tA3
   refine (isTooLong_no _ _ _ _ _ h20).mono ?_
   rintro e ww3 ⟨rfl, hk⟩
   have z3 := hk.size
   replace nA0 := kc hk nA0
   replace nA1 := kc hk nA1
   replace nA2 := kc hk nA2
   replace nA3 := kc hk nA3
   replace HS := Lib.hid (HS.out.kept0 hk)
   replace HS' := Lib.hid (HS'.out.kept0 hk)
   replace KT := Lib.hid (KT.out.trans0 hk)
   clear hk
   have tA0 := nA0.out
   have tA1 := nA1.out
   have tA2 := nA2.out
   have tA3 := nA3.out
   go_wp2_with fail
   clear tA0 tA1 tA2 tA3
   refine (isBelow_any _ _ _ _ _ _ _ _ _ _ _ _ HS'.out HS.out HY.out HX.out HD.out).mono ?_
   rintro e ww4 ⟨rfl, hk⟩
   have z4 := hk.size
   replace nA0 := kc hk nA0
   replace nA1 := kc hk nA1
   replace nA2 := kc hk nA2
   replace nA3 := kc hk nA3
   replace HS := Lib.hid (HS.out.kept0 hk)
   replace HS' := Lib.hid (HS'.out.kept0 hk)
   replace KT := Lib.hid (KT.out.trans0 hk)
   clear hk
   go_wp2_with fail
   go_ret
   exact ⟨rfl, KT.out⟩
  ·skip
   rw [spanFault_ok hz (by omega) (by omega) hlt]
   have HD := Lib.hid (show decide (sv q ys < sv p xs) = false from decide_eq_false hlt)
   clear hlt hz
   go_enter Tryz.func84, Tryz.ntmps84
   go_wp2_with fail
   generalize hW : (w.alloc (.cells #[.bool p, .slice a n c, .bool q, .slice b m d] 26)) = ww0
   have hkk : Kept [] (w.alloc (.cells #[.bool p, .slice a n c, .bool q, .slice b m d] 26)) ww0 := by rw [hW]; exact Kept.refl _ _
   have zzA : w.heap.size + 1 = ww0.heap.size := by rw [← hW]; simp
   obtain ⟨⟨nA0, nA1, nA2, nA3⟩, _⟩ := tp4 hkk (g := w.heap.size) (by simp) (by simp)
   have hk := hkk.peel
   clear hkk hW
   have z0 := hk.size
   have KT := Lib.hid hk
   clear hk
   replace HS := Lib.hid (HS.out.kept0 KT.out)
   replace HS' := Lib.hid (HS'.out.kept0 KT.out)
   refine (firstBigFault_two _ _ _ _ _ _ _ _ _ _ _ _ (by omega) HS.out.rd HS'.out.rd).mono ?_
   rintro e ww1 ⟨rfl, hk⟩
   rw [HZ.out]
   have z1 := hk.size
   replace nA0 := kc hk nA0
   replace nA1 := kc hk nA1
   replace nA2 := kc hk nA2
   replace nA3 := kc hk nA3
   replace HS := Lib.hid (HS.out.kept0 hk)
   replace HS' := Lib.hid (HS'.out.kept0 hk)
   replace KT := Lib.hid (KT.out.trans0 hk)
   clear hk
   have tA0 := nA0.out
   have tA1 := nA1.out
   have tA2 := nA2.out
   have tA3 := nA3.out
   go_wp2_with fail
   clear tA0 tA1 tA2 tA3
   refine (isTooLong_no _ _ _ _ _ g20).mono ?_
   rintro e ww2 ⟨rfl, hk⟩
   have z2 := hk.size
   replace nA0 := kc hk nA0
   replace nA1 := kc hk nA1
   replace nA2 := kc hk nA2
   replace nA3 := kc hk nA3
   replace HS := Lib.hid (HS.out.kept0 hk)
   replace HS' := Lib.hid (HS'.out.kept0 hk)
   replace KT := Lib.hid (KT.out.trans0 hk)
   clear hk
   have tA0 := nA0.out
   have tA1 := nA1.out
   have tA2 := nA2.out
   have tA3 := nA3.out
   go_wp2_with fail
   clear tA0 tA1 tA2 tA3
   refine (isTooLong_no _ _ _ _ _ h20).mono ?_
   rintro e ww3 ⟨rfl, hk⟩
   have z3 := hk.size
   replace nA0 := kc hk nA0
   replace nA1 := kc hk nA1
   replace nA2 := kc hk nA2
   replace nA3 := kc hk nA3
   replace HS := Lib.hid (HS.out.kept0 hk)
   replace HS' := Lib.hid (HS'.out.kept0 hk)
   replace KT := Lib.hid (KT.out.trans0 hk)
   clear hk
   have tA0 := nA0.out
   have tA1 := nA1.out
   have tA2 := nA2.out
   have tA3 := nA3.out
   go_wp2_with fail
   clear tA0 tA1 tA2 tA3
   refine (isBelow_any _ _ _ _ _ _ _ _ _ _ _ _ HS'.out HS.out HY.out HX.out HD.out).mono ?_
   rintro e ww4 ⟨rfl, hk⟩
   have z4 := hk.size
   replace nA0 := kc hk nA0
   replace nA1 := kc hk nA1
   replace nA2 := kc hk nA2
   replace nA3 := kc hk nA3
   replace HS := Lib.hid (HS.out.kept0 hk)
   replace HS' := Lib.hid (HS'.out.kept0 hk)
   replace KT := Lib.hid (KT.out.trans0 hk)
   clear hk
   go_wp2_with fail
   go_ret
   exact ⟨rfl, KT.out⟩
 ·skip
  rw [spanFault_big hz]
  generalize hf : bigFault2 p xs q ys = f at *
  have hne : (f == 0) = false := by rw [beq_eq_false_iff_ne]; exact hz
  have HZ := Lib.hid hf
  clear hf hz
  go_enter Tryz.func84, Tryz.ntmps84
  go_wp2_with fail
  generalize hW : (w.alloc (.cells #[.bool p, .slice a n c, .bool q, .slice b m d] 26)) = ww0
  have hkk : Kept [] (w.alloc (.cells #[.bool p, .slice a n c, .bool q, .slice b m d] 26)) ww0 := by rw [hW]; exact Kept.refl _ _
  have zzA : w.heap.size + 1 = ww0.heap.size := by rw [← hW]; simp
  obtain ⟨⟨nA0, nA1, nA2, nA3⟩, _⟩ := tp4 hkk (g := w.heap.size) (by simp) (by simp)
  have hk := hkk.peel
  clear hkk hW
  have z0 := hk.size
  have KT := Lib.hid hk
  clear hk
  replace HS := Lib.hid (HS.out.kept0 KT.out)
  replace HS' := Lib.hid (HS'.out.kept0 KT.out)
  refine (firstBigFault_two _ _ _ _ _ _ _ _ _ _ _ _ (by omega) HS.out.rd HS'.out.rd).mono ?_
  rintro e ww1 ⟨rfl, hk⟩
  rw [HZ.out]
  have z1 := hk.size
  replace nA0 := kc hk nA0
  replace nA1 := kc hk nA1
  replace nA2 := kc hk nA2
  replace nA3 := kc hk nA3
  replace HS := Lib.hid (HS.out.kept0 hk)
  replace HS' := Lib.hid (HS'.out.kept0 hk)
  replace KT := Lib.hid (KT.out.trans0 hk)
  clear hk
  go_wp2_with fail
  go_ret
  exact ⟨rfl, KT.out⟩

end Go.Proofs.YtfafjijoeanbhaaGreat
namespace Go.Proofs.YtfafjijoeanbhaaGreat
open Go.RowKit

set_option maxHeartbeats 8000000 in
theorem firstSpanFault_one (g : Nat) (p q : Bool) (a b : Option Addr) (n c m d : Nat) (xs ys : List Int) (w : World) (hg : g = w.heap.size) (h1 : Sl w a n c xs) (h2 : Sl w b m d ys) :
  Calls Tryz.prog 117 #[.func (.func 84) #[] #[], .slice (some ⟨g, 0, none⟩) 1 1] (w.alloc (.cells #[.bool p, .slice a n c, .bool q, .slice b m d] 26)) (Ans w (.int .i64 (spanFault p xs q ys))) := by
 subst hg
 have H1 := Lib.hid h1
 have H2 := Lib.hid h2
 clear h1 h2
 have k0 : Kept [] w (w.alloc (.cells #[.bool p, .slice a n c, .bool q, .slice b m d] 26)) := (Kept.refl [] w).alloc _
 have HK0 := Lib.hid k0
 clear k0
 go_enter Tryz.func117, Tryz.ntmps117
 go_wp2
 go_loopw [10] (fun i wr => Hid (Kept [] (w.alloc (.cells #[.bool p, .slice a n c, .bool q, .slice b m d] 26)) wr) ∧ ((i = .int .i64 0) ∨ (i = .int .i64 1 ∧ Hid (spanFault p xs q ys = 0)))) (fun i _ => 1 - (intOf i).toNat)
 case atStart => exact ⟨Kept.refl [] _, Or.inl rfl⟩
 case round =>
  obtain ⟨hK, hrel⟩ := hrel
  have hd : Sl wr a n c xs := (H1.out.kept0 HK0.out).kept0 hK.out
  have D1 := Lib.hid hd
  clear hd
  have hd : Sl wr b m d ys := (H2.out.kept0 HK0.out).kept0 hK.out
  have D2 := Lib.hid hd
  clear hd
  obtain ⟨c0, _, _⟩ := hK.out.top (g := w.heap.size) (by simp) (by simp) 0 rfl
  obtain ⟨c1, _, _⟩ := hK.out.top (g := w.heap.size) (by simp) (by simp) 1 rfl
  obtain ⟨c2, _, _⟩ := hK.out.top (g := w.heap.size) (by simp) (by simp) 2 rfl
  obtain ⟨c3, _, _⟩ := hK.out.top (g := w.heap.size) (by simp) (by simp) 3 rfl
  rcases hrel with rfl | ⟨rfl, x0⟩
  ·have hk1 : Kept [] wr (wr.alloc (.cells #[.bool p, .slice a n c, .bool q, .slice b m d] 26)) := (Kept.refl [] wr).alloc _
   have HK1 := Lib.hid hk1
   clear hk1
   by_cases hz : spanFault p xs q ys = 0
   ·have hz' := Lib.hid hz
    clear hz
    go_wp2_with (go_at_call 84; refine (SpanFault_any _ _ _ _ _ _ _ _ _ _ _ (D1.out.kept0 HK1.out) (D2.out.kept0 HK1.out)).mono ?_; rintro e w1 ⟨rfl, hq⟩; rw [hz'.out])
    have hK2 := Lib.hid ((hK.out.trans0 HK1.out).trans0 hq)
    clear hK hq
    go_roundw
    case rel => exact ⟨hK2, Or.inr (⟨rfl, hz'⟩)⟩
    case measure => simp [intOf]
   ·have hv : Hid (spanFault p xs q ys = spanFault p xs q ys) := rfl
    generalize hf : spanFault p xs q ys = f at *
    have hne : (f == 0) = false := by rw [beq_eq_false_iff_ne]; exact hz
    have HF := Lib.hid hf
    clear hf hz
    go_wp2_with (go_at_call 84; refine (SpanFault_any _ _ _ _ _ _ _ _ _ _ _ (D1.out.kept0 HK1.out) (D2.out.kept0 HK1.out)).mono ?_; rintro e w1 ⟨rfl, hq⟩; rw [HF.out])
    have hK2 := Lib.hid ((HK0.out.trans0 hK.out).trans0 (HK1.out.trans0 hq))
    clear hK hq
    go_ret
    exact ⟨rfl, hK2.out⟩
  ·have hv : Hid (spanFault p xs q ys = 0) := x0.out
   go_wp2
   go_ret
   exact ⟨by rw [hv.out] <;> rfl, HK0.out.trans0 hK.out⟩

set_option maxHeartbeats 8000000 in
theorem firstSpanFault_two (g : Nat) (p q : Bool) (a b : Option Addr) (n c m d : Nat) (xs ys : List Int) (p' q' : Bool) (a' b' : Option Addr) (n' c' m' d' : Nat) (xs' ys' : List Int) (w : World) (hg : g = w.heap.size) (h1 : Sl w a n c xs) (h2 : Sl w b m d ys) (h3 : Sl w a' n' c' xs') (h4 : Sl w b' m' d' ys') :
  Calls Tryz.prog 117 #[.func (.func 84) #[] #[], .slice (some ⟨g, 0, none⟩) 2 2] (w.alloc (.cells #[.bool p, .slice a n c, .bool q, .slice b m d, .bool p', .slice a' n' c', .bool q', .slice b' m' d'] 26)) (Ans w (.int .i64 (spanFault2 p xs q ys p' xs' q' ys'))) := by
 subst hg
 have H1 := Lib.hid h1
 have H2 := Lib.hid h2
 have H3 := Lib.hid h3
 have H4 := Lib.hid h4
 clear h1 h2 h3 h4
 have k0 : Kept [] w (w.alloc (.cells #[.bool p, .slice a n c, .bool q, .slice b m d, .bool p', .slice a' n' c', .bool q', .slice b' m' d'] 26)) := (Kept.refl [] w).alloc _
 have HK0 := Lib.hid k0
 clear k0
 go_enter Tryz.func117, Tryz.ntmps117
 go_wp2
 go_loopw [10] (fun i wr => Hid (Kept [] (w.alloc (.cells #[.bool p, .slice a n c, .bool q, .slice b m d, .bool p', .slice a' n' c', .bool q', .slice b' m' d'] 26)) wr) ∧ ((i = .int .i64 0) ∨ (i = .int .i64 1 ∧ Hid (spanFault p xs q ys = 0)) ∨ (i = .int .i64 2 ∧ Hid (spanFault p xs q ys = 0) ∧ Hid (spanFault p' xs' q' ys' = 0)))) (fun i _ => 2 - (intOf i).toNat)
 case atStart => exact ⟨Kept.refl [] _, Or.inl rfl⟩
 case round =>
  obtain ⟨hK, hrel⟩ := hrel
  have hd : Sl wr a n c xs := (H1.out.kept0 HK0.out).kept0 hK.out
  have D1 := Lib.hid hd
  clear hd
  have hd : Sl wr b m d ys := (H2.out.kept0 HK0.out).kept0 hK.out
  have D2 := Lib.hid hd
  clear hd
  have hd : Sl wr a' n' c' xs' := (H3.out.kept0 HK0.out).kept0 hK.out
  have D3 := Lib.hid hd
  clear hd
  have hd : Sl wr b' m' d' ys' := (H4.out.kept0 HK0.out).kept0 hK.out
  have D4 := Lib.hid hd
  clear hd
  obtain ⟨c0, _, _⟩ := hK.out.top (g := w.heap.size) (by simp) (by simp) 0 rfl
  obtain ⟨c1, _, _⟩ := hK.out.top (g := w.heap.size) (by simp) (by simp) 1 rfl
  obtain ⟨c2, _, _⟩ := hK.out.top (g := w.heap.size) (by simp) (by simp) 2 rfl
  obtain ⟨c3, _, _⟩ := hK.out.top (g := w.heap.size) (by simp) (by simp) 3 rfl
  obtain ⟨c4, _, _⟩ := hK.out.top (g := w.heap.size) (by simp) (by simp) 4 rfl
  obtain ⟨c5, _, _⟩ := hK.out.top (g := w.heap.size) (by simp) (by simp) 5 rfl
  obtain ⟨c6, _, _⟩ := hK.out.top (g := w.heap.size) (by simp) (by simp) 6 rfl
  obtain ⟨c7, _, _⟩ := hK.out.top (g := w.heap.size) (by simp) (by simp) 7 rfl
  rcases hrel with rfl | ⟨rfl, x0⟩ | ⟨rfl, x0, x1⟩
  ·have hk1 : Kept [] wr (wr.alloc (.cells #[.bool p, .slice a n c, .bool q, .slice b m d] 26)) := (Kept.refl [] wr).alloc _
   have HK1 := Lib.hid hk1
   clear hk1
   by_cases hz : spanFault p xs q ys = 0
   ·have hz' := Lib.hid hz
    clear hz
    go_wp2_with (go_at_call 84; refine (SpanFault_any _ _ _ _ _ _ _ _ _ _ _ (D1.out.kept0 HK1.out) (D2.out.kept0 HK1.out)).mono ?_; rintro e w1 ⟨rfl, hq⟩; rw [hz'.out])
    have hK2 := Lib.hid ((hK.out.trans0 HK1.out).trans0 hq)
    clear hK hq
    go_roundw
    case rel => exact ⟨hK2, Or.inr (Or.inl ⟨rfl, hz'⟩)⟩
    case measure => simp [intOf]
   ·have hv : Hid (spanFault2 p xs q ys p' xs' q' ys' = spanFault p xs q ys) := spanFault2_first hz
    generalize hf : spanFault p xs q ys = f at *
    have hne : (f == 0) = false := by rw [beq_eq_false_iff_ne]; exact hz
    have HF := Lib.hid hf
    clear hf hz
    go_wp2_with (go_at_call 84; refine (SpanFault_any _ _ _ _ _ _ _ _ _ _ _ (D1.out.kept0 HK1.out) (D2.out.kept0 HK1.out)).mono ?_; rintro e w1 ⟨rfl, hq⟩; rw [HF.out])
    have hK2 := Lib.hid ((HK0.out.trans0 hK.out).trans0 (HK1.out.trans0 hq))
    clear hK hq
    go_ret
    exact ⟨by rw [hv.out] <;> rfl, hK2.out⟩
  ·have hk1 : Kept [] wr (wr.alloc (.cells #[.bool p', .slice a' n' c', .bool q', .slice b' m' d'] 26)) := (Kept.refl [] wr).alloc _
   have HK1 := Lib.hid hk1
   clear hk1
   by_cases hz : spanFault p' xs' q' ys' = 0
   ·have hz' := Lib.hid hz
    clear hz
    go_wp2_with (go_at_call 84; refine (SpanFault_any _ _ _ _ _ _ _ _ _ _ _ (D3.out.kept0 HK1.out) (D4.out.kept0 HK1.out)).mono ?_; rintro e w1 ⟨rfl, hq⟩; rw [hz'.out])
    have hK2 := Lib.hid ((hK.out.trans0 HK1.out).trans0 hq)
    clear hK hq
    go_roundw
    case rel => exact ⟨hK2, Or.inr (Or.inr (⟨rfl, x0, hz'⟩))⟩
    case measure => simp [intOf]
   ·have hv : Hid (spanFault2 p xs q ys p' xs' q' ys' = spanFault p' xs' q' ys') := spanFault2_second x0.out
    generalize hf : spanFault p' xs' q' ys' = f at *
    have hne : (f == 0) = false := by rw [beq_eq_false_iff_ne]; exact hz
    have HF := Lib.hid hf
    clear hf hz
    go_wp2_with (go_at_call 84; refine (SpanFault_any _ _ _ _ _ _ _ _ _ _ _ (D3.out.kept0 HK1.out) (D4.out.kept0 HK1.out)).mono ?_; rintro e w1 ⟨rfl, hq⟩; rw [HF.out])
    have hK2 := Lib.hid ((HK0.out.trans0 hK.out).trans0 (HK1.out.trans0 hq))
    clear hK hq
    go_ret
    exact ⟨by rw [hv.out] <;> rfl, hK2.out⟩
  ·have hv : Hid (spanFault2 p xs q ys p' xs' q' ys' = 0) := (spanFault2_second x0.out).trans x1.out
   go_wp2
   go_ret
   exact ⟨by rw [hv.out] <;> rfl, HK0.out.trans0 hK.out⟩

end Go.Proofs.YtfafjijoeanbhaaGreat
