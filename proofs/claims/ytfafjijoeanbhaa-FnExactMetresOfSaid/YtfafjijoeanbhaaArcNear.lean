/-
 Contracts of the model's l4Near and l4Asked. Conditions: as said.
-/
import Derived.Deep.RegionHeld3
import Derived.Deep.DrawnRows
import Derived.Deep.DeepCutAuto
import Derived.Test.YtfafjijoeanbhaaArcl4Away
import Derived.Test.YtfafjijoeanbhaaArcFar
import Derived.Test.YtfafjijoeanbhaaPrec
import Derived.Test.YtfafjijoeanbhaaOneA
namespace Go.Proofs.Ytfafjijoeanbhaa
open Go.RowKit

attribute [local go_sem ↓] field_big field_end0 field_end1
set_option maxHeartbeats 4000000 in
set_option maxRecDepth 20000 in
theorem l4Near_zz (k : Nat) (n : Int) (x1 x2 : Int) (a b : Option Addr) (c d : Nat) (r : Bool) (w : World) (h1 : Sl w a (mag x1).length c (mag x1)) (h2 : Sl w b (mag x2).length d (mag x2)) (hk : k ≤ 96) (hn0 : 0 ≤ n) (hn1 : n ≤ 1000) (lx1 : (mag x1).length ≤ 20) (lx2 : (mag x2).length ≤ 20) (hr : decide (away2 ⟨x1, x2⟩ ≤ n * p2 k) = r) :
  Calls Try.prog 35 #[.int .i64 (k : Int), .agg #[.bool (isNeg x1), .slice a (mag x1).length c, .bool (isNeg x2), .slice b (mag x2).length d], .int .i64 n] w (Ans w (.bool r)) := by
 obtain ⟨u, hu⟩ : ∃ u, u = n * p2 k := ⟨_, rfl⟩
 obtain ⟨m, hm⟩ : ∃ u, u = away2 ⟨x1, x2⟩ := ⟨_, rfl⟩
 rw [← hu, ← hm] at hr
 obtain ⟨e1, he⟩ : ∃ u, u = p2 k := ⟨_, rfl⟩
 have ln : (mag n).length ≤ 20 := small_len (by omega) (by omega)
 have lu : (mag u).length ≤ 20 := by rw [hu]; exact unit_len hk hn0 hn1
 have le : (mag e1).length ≤ 20 := by rw [he, ← Int.one_mul (p2 k)]; exact unit_len hk (by omega) (by omega)
 have lm : (mag m).length ≤ 40 := by rw [hm]; exact Nat.le_trans (away_le lx1 lx2) (by omega)
 obtain ⟨v9, hv⟩ : ∃ v : Int, v = cmpV (sv (isNeg m) (mag m)) (sv (isNeg u) (mag u)) := ⟨_, rfl⟩
 have hd9 : decide (v9 ≤ 0) = r := by rw [hv, sv_mag, sv_mag, ← hr]; unfold cmpV; (repeat' split) <;> simp <;> omega
 have H1 := Lib.hid h1
 have H2 := Lib.hid h2
 have F1 := Lib.hid h1.lt
 have F2 := Lib.hid h2.lt
 have HM := Lib.hid hm
 have HE := Lib.hid he
 have HU := Lib.hid (show u = e1 * n from by rw [hu, he, Int.mul_comm])
 have HV := Lib.hid hv
 have HD := Lib.hid hd9
 clear h1 h2 hm he hu hv hd9 hr
 go_enter Try.func35, Try.ntmps35
 go_upto_region 1 with fail
 generalize hW : (w.alloc (.cells #[.bool (isNeg x1), .slice a (mag x1).length c, .bool (isNeg x2), .slice b (mag x2).length d] 43)) = ww0
 have hkk : Kept [] (w.alloc (.cells #[.bool (isNeg x1), .slice a (mag x1).length c, .bool (isNeg x2), .slice b (mag x2).length d] 43)) ww0 := by rw [hW]; exact Kept.refl _ _
 have zzA : w.heap.size + 1 = ww0.heap.size := by rw [← hW]; simp
 obtain ⟨⟨nA0, nA1, nA2, nA3⟩, _⟩ := tp4 hkk (g := w.heap.size) (by simp) (by simp)
 have hk := hkk.peel
 clear hkk hW
 have z0 := hk.size
 have kq1 := Lib.hid hk
 have KT := kq1
 clear hk
 replace H1 := Lib.hid (H1.out.kept0 KT.out)
 replace H2 := Lib.hid (H2.out.kept0 KT.out)
 have tA0 := nA0.out
 have tA1 := nA1.out
 have tA2 := nA2.out
 have tA3 := nA3.out
 go_wp2_with fail
 clear tA0 tA1 tA2 tA3
 refine (l4Away_zz x1 x2 _ _ _ _ m _ H1.out H2.out lx1 lx2 HM.out).mono ?_
 intro e v1 hh; unfold BigV at hh; obtain ⟨b1, hh⟩ := hh; obtain ⟨c1, hh, hs1, hf1, hk1⟩ := hh; subst hh
 have SM := Lib.hid hs1
 have GSM := Lib.hid (hf1.mono (B' := ww0.heap.size) (by simp))
 have USM := Lib.hid SM.out.lt
 have hk := hk1
 have z1 := hk.size
 have kq2 := Lib.hid hk
 clear hk
 go_wp2_with fail
 refine (l3Unit_any k e1 _ hk HE.out).mono ?_
 intro e v2 hh; unfold BigV at hh; obtain ⟨b2, hh⟩ := hh; obtain ⟨c2, hh, hs2, hf2, hk2⟩ := hh; subst hh
 have SE := Lib.hid hs2
 have GSE := Lib.hid (hf2.mono (B' := v1.heap.size) (by simp))
 have USE := Lib.hid SE.out.lt
 have hk := hk2
 have z2 := hk.size
 have kq3 := Lib.hid hk
 clear hk
 go_wp2_with fail
 refine (sBigOf_any n _ (by omega) (by omega)).mono ?_
 intro e v3 hh; unfold BigV at hh; obtain ⟨b3, hh⟩ := hh; obtain ⟨c3, hh, hs3, hf3, hk3⟩ := hh; subst hh
 have SN := Lib.hid hs3
 have GSN := Lib.hid (hf3.mono (B' := v2.heap.size) (by simp))
 have USN := Lib.hid SN.out.lt
 have hk := hk3
 have z3 := hk.size
 have kq4 := Lib.hid hk
 clear hk
 go_wp2_with fail
 replace SE := Lib.hid (SE.out.kept0 kq4.out)
 refine (l2Mul_n e1 n u _ _ _ _ _ SE.out SN.out le ln HU.out).mono ?_
 intro e v4 hh; unfold BigV at hh; obtain ⟨b4, hh⟩ := hh; obtain ⟨c4, hh, hs4, hf4, hk4⟩ := hh; subst hh
 have SU := Lib.hid hs4
 have GSU := Lib.hid (hf4.mono (B' := v3.heap.size) (by simp))
 have USU := Lib.hid SU.out.lt
 have hk := hk4
 have z4 := hk.size
 have kq5 := Lib.hid hk
 clear hk
 go_wp2_with fail
 have kj1 := Lib.hid ((kq3.out.trans0 kq4.out).trans0 kq5.out)
 replace SM := Lib.hid (SM.out.kept0 kj1.out)
 refine (l2Compare_any _ _ _ _ _ _ _ _ _ _ _ (bigOk_of lm).n40 (bigOk_of (by omega)).n40 SM.out SU.out).mono ?_
 intro e v5 hh; obtain ⟨hh, hk5⟩ := hh; subst hh
 have hk := hk5
 have z5 := hk.size
 have kq6 := Lib.hid hk
 clear hk
 rw [← HV.out]
 have hd9 := HD.out
 go_wp2_with fail
 go_ret
 have kj2 := Lib.hid ((((kq2.out.trans0 kq3.out).trans0 kq4.out).trans0 kq5.out).trans0 kq6.out)
 replace KT := Lib.hid (KT.out.trans0 kj2.out)
 exact ⟨rfl, KT.out⟩

set_option maxHeartbeats 8000000 in
set_option maxRecDepth 20000 in
theorem l4Asked_any (P n : Int) (p q : Bool) (a b : Option Addr) (na c nb d : Nat) (xs ys : List Int) (w : World) (h1 : Sl w a na c xs) (h2 : Sl w b nb d ys) (hn0 : 0 ≤ n) (hn1 : n ≤ 1000) :
  Calls Try.prog 22 #[.int .i64 P, .agg #[.bool p, .slice a na c, .bool q, .slice b nb d], .int .i64 n] w (Ans w (.int .i64 (farC P n p xs q ys))) := by
 obtain ⟨f, hf⟩ : ∃ f, f = precS P (spanFault p xs q ys) := ⟨_, rfl⟩
 by_cases hz : f = 0
 ·skip
  obtain ⟨hP, hf0⟩ := precS_zero (hf.symm.trans hz)
  obtain ⟨k, rfl, hk96, hk16⟩ := isP_nat hP
  obtain ⟨x1, x2, rfl, rfl, rfl, rfl, fx⟩ := ok_letters (spanFault_zero hf0)
  have ea := h1.1
  have eb := h2.1
  subst ea eb
  obtain ⟨lx1, lx2⟩ := fx.2
  obtain ⟨u, hu⟩ : ∃ u, u = n * p2 k := ⟨_, rfl⟩
  obtain ⟨o2, ho2⟩ : ∃ u, u = away2 ⟨x1, x2⟩ := ⟨_, rfl⟩
  obtain ⟨o1, ho1⟩ : ∃ u, u = -o2 := ⟨_, rfl⟩
  have hw : (⟨o1, o2⟩ : Z2) = swing2 ⟨x1, x2⟩ := by rw [ho1, ho2]; rfl
  rw [farC_ok (hf.symm.trans hz), ← hu, ← ho2]
  have ln : (mag n).length ≤ 20 := small_len (by omega) (by omega)
  have lu : (mag u).length ≤ 20 := by rw [hu]; exact unit_len hk96 hn0 hn1
  have lo : (mag o2).length ≤ 20 := by rw [ho2]; exact away_len fx
  have H1 := Lib.hid h1
  have H2 := Lib.hid h2
  have F1 := Lib.hid h1.lt
  have F2 := Lib.hid h2.lt
  have HF := Lib.hid (hz ▸ hf : 0 = precS (k : Int) (spanFault (isNeg x1) (mag x1) (isNeg x2) (mag x2)))
  have HW := Lib.hid hw
  have HO2 := Lib.hid ho2
  have HU := Lib.hid (show u = sv (isNeg n) (mag n) * p2 k from by rw [sv_mag]; exact hu)
  have HU0 := Lib.hid hu
  have HP := Lib.hid hP
  clear h1 h2 hf hz hf0 hw ho1 ho2 hu hP fx
  by_cases hlt : u < o2
  ·skip
   have HR := Lib.hid (show (if u < o2 then (3 : Int) else 0) = 3 from if_pos hlt)
   rw [HR.out]
   have HD := Lib.hid (show decide (o2 ≤ u) = false from decide_eq_false (by omega))
   clear hlt
   go_enter Try.func22, Try.ntmps22
   go_upto_region 1 with fail
   generalize hW : (w.alloc (.cells #[.bool (isNeg x1), .slice a (mag x1).length c, .bool (isNeg x2), .slice b (mag x2).length d] 43)) = ww0
   have hkk : Kept [] (w.alloc (.cells #[.bool (isNeg x1), .slice a (mag x1).length c, .bool (isNeg x2), .slice b (mag x2).length d] 43)) ww0 := by rw [hW]; exact Kept.refl _ _
   have zzA : w.heap.size + 1 = ww0.heap.size := by rw [← hW]; simp
   obtain ⟨⟨nA0, nA1, nA2, nA3⟩, _⟩ := tp4 hkk (g := w.heap.size) (by simp) (by simp)
   have hk := hkk.peel
   clear hkk hW
   have z0 := hk.size
   have kq1 := Lib.hid hk
   have KT := kq1
   clear hk
   replace H1 := Lib.hid (H1.out.kept0 KT.out)
   replace H2 := Lib.hid (H2.out.kept0 KT.out)
   have tA0 := nA0.out
   have tA1 := nA1.out
   have tA2 := nA2.out
   have tA3 := nA3.out
   go_wp2_with fail
   clear tA0 tA1 tA2 tA3
   refine (l3Asked_any (k : Int) _ _ _ _ _ _ _ _ _ _ _ _ _ _ _ _ _ _ _ _ _ H1.out H2.out H1.out H2.out).mono ?_
   intro e v1 hh; obtain ⟨hh, hk1⟩ := hh; subst hh
   have hk := hk1
   have z1 := hk.size
   have kq2 := Lib.hid hk
   clear hk
   rw [show precS (k : Int) (spanFault2 (isNeg x1) (mag x1) (isNeg x2) (mag x2) (isNeg x1) (mag x1) (isNeg x2) (mag x2)) = 0 from by rw [spanFault2_same]; exact HF.out.symm]
   replace nA0 := kc kq2.out nA0
   have tA0 := nA0.out
   replace nA1 := kc kq2.out nA1
   have tA1 := nA1.out
   replace nA2 := kc kq2.out nA2
   have tA2 := nA2.out
   replace nA3 := kc kq2.out nA3
   have tA3 := nA3.out
   go_wp2_with fail
   clear tA0 tA1 tA2 tA3
   replace H1 := Lib.hid (H1.out.kept0 kq2.out)
   replace H2 := Lib.hid (H2.out.kept0 kq2.out)
   refine (l4Near_zz k n x1 x2 _ _ _ _ false _ H1.out H2.out hk96 hn0 hn1 lx1 lx2 (by rw [← HO2.out, ← HU0.out]; exact HD.out)).mono ?_
   intro e v2 hh; obtain ⟨hh, hk2⟩ := hh; subst hh
   have hk := hk2
   have z2 := hk.size
   have kq3 := Lib.hid hk
   clear hk
   go_wp2_with fail
   go_ret
   have kj1 := Lib.hid (kq2.out.trans0 kq3.out)
   replace KT := Lib.hid (KT.out.trans0 kj1.out)
   exact ⟨rfl, KT.out⟩
  ·skip
   have HR := Lib.hid (show (if u < o2 then (3 : Int) else 0) = 0 from if_neg hlt)
   rw [HR.out]
   have HD := Lib.hid (show decide (o2 ≤ u) = true from decide_eq_true (by omega))
   clear hlt
   go_enter Try.func22, Try.ntmps22
   go_upto_region 1 with fail
   generalize hW : (w.alloc (.cells #[.bool (isNeg x1), .slice a (mag x1).length c, .bool (isNeg x2), .slice b (mag x2).length d] 43)) = ww0
   have hkk : Kept [] (w.alloc (.cells #[.bool (isNeg x1), .slice a (mag x1).length c, .bool (isNeg x2), .slice b (mag x2).length d] 43)) ww0 := by rw [hW]; exact Kept.refl _ _
   have zzA : w.heap.size + 1 = ww0.heap.size := by rw [← hW]; simp
   obtain ⟨⟨nA0, nA1, nA2, nA3⟩, _⟩ := tp4 hkk (g := w.heap.size) (by simp) (by simp)
   have hk := hkk.peel
   clear hkk hW
   have z0 := hk.size
   have kq1 := Lib.hid hk
   have KT := kq1
   clear hk
   replace H1 := Lib.hid (H1.out.kept0 KT.out)
   replace H2 := Lib.hid (H2.out.kept0 KT.out)
   have tA0 := nA0.out
   have tA1 := nA1.out
   have tA2 := nA2.out
   have tA3 := nA3.out
   go_wp2_with fail
   clear tA0 tA1 tA2 tA3
   refine (l3Asked_any (k : Int) _ _ _ _ _ _ _ _ _ _ _ _ _ _ _ _ _ _ _ _ _ H1.out H2.out H1.out H2.out).mono ?_
   intro e v1 hh; obtain ⟨hh, hk1⟩ := hh; subst hh
   have hk := hk1
   have z1 := hk.size
   have kq2 := Lib.hid hk
   clear hk
   rw [show precS (k : Int) (spanFault2 (isNeg x1) (mag x1) (isNeg x2) (mag x2) (isNeg x1) (mag x1) (isNeg x2) (mag x2)) = 0 from by rw [spanFault2_same]; exact HF.out.symm]
   replace nA0 := kc kq2.out nA0
   have tA0 := nA0.out
   replace nA1 := kc kq2.out nA1
   have tA1 := nA1.out
   replace nA2 := kc kq2.out nA2
   have tA2 := nA2.out
   replace nA3 := kc kq2.out nA3
   have tA3 := nA3.out
   go_wp2_with fail
   clear tA0 tA1 tA2 tA3
   replace H1 := Lib.hid (H1.out.kept0 kq2.out)
   replace H2 := Lib.hid (H2.out.kept0 kq2.out)
   refine (l4Near_zz k n x1 x2 _ _ _ _ true _ H1.out H2.out hk96 hn0 hn1 lx1 lx2 (by rw [← HO2.out, ← HU0.out]; exact HD.out)).mono ?_
   intro e v2 hh; obtain ⟨hh, hk2⟩ := hh; subst hh
   have hk := hk2
   have z2 := hk.size
   have kq3 := Lib.hid hk
   clear hk
   go_wp2_with fail
   go_ret
   have kj1 := Lib.hid (kq2.out.trans0 kq3.out)
   replace KT := Lib.hid (KT.out.trans0 kj1.out)
   exact ⟨rfl, KT.out⟩
 ·skip
  rw [farC_bad (by rw [← hf]; exact hz), ← hf]
  have hne : (f == 0) = false := by rw [beq_eq_false_iff_ne]; exact hz
  have ea := h1.1
  have eb := h2.1
  have H1 := Lib.hid h1
  have H2 := Lib.hid h2
  have F1 := Lib.hid h1.lt
  have F2 := Lib.hid h2.lt
  have HF := Lib.hid hf
  clear h1 h2 hf hz ea eb
  go_enter Try.func22, Try.ntmps22
  go_upto_region 1 with fail
  generalize hW : (w.alloc (.cells #[.bool p, .slice a na c, .bool q, .slice b nb d] 43)) = ww0
  have hkk : Kept [] (w.alloc (.cells #[.bool p, .slice a na c, .bool q, .slice b nb d] 43)) ww0 := by rw [hW]; exact Kept.refl _ _
  have zzA : w.heap.size + 1 = ww0.heap.size := by rw [← hW]; simp
  obtain ⟨⟨nA0, nA1, nA2, nA3⟩, _⟩ := tp4 hkk (g := w.heap.size) (by simp) (by simp)
  have hk := hkk.peel
  clear hkk hW
  have z0 := hk.size
  have kq1 := Lib.hid hk
  have KT := kq1
  clear hk
  replace H1 := Lib.hid (H1.out.kept0 KT.out)
  replace H2 := Lib.hid (H2.out.kept0 KT.out)
  have tA0 := nA0.out
  have tA1 := nA1.out
  have tA2 := nA2.out
  have tA3 := nA3.out
  go_wp2_with fail
  clear tA0 tA1 tA2 tA3
  refine (l3Asked_any P _ _ _ _ _ _ _ _ _ _ _ _ _ _ _ _ _ _ _ _ _ H1.out H2.out H1.out H2.out).mono ?_
  intro e v1 hh; obtain ⟨hh, hk1⟩ := hh; subst hh
  have hk := hk1
  have z1 := hk.size
  have kq2 := Lib.hid hk
  clear hk
  rw [show precS P (spanFault2 p xs q ys p xs q ys) = f from by rw [spanFault2_same]; exact HF.out.symm]
  go_wp2_with fail
  go_ret
  replace KT := Lib.hid (KT.out.trans0 kq2.out)
  exact ⟨rfl, KT.out⟩

end Go.Proofs.Ytfafjijoeanbhaa
