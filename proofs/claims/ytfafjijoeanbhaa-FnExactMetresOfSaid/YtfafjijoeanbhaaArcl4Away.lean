/-
 Contract of l4Away. Conditions: as said.
-/
import Derived.Deep.RegionHeld3
import Derived.Deep.DrawnRows
import Derived.Deep.DeepCutAuto
import Derived.Test.YtfafjijoeanbhaaZedM
import Derived.Test.YtfafjijoeanbhaaArcA
import Derived.Test.YtfafjijoeanbhaaBigOf
import Derived.Test.YtfafjijoeanbhaaSpanM
import Derived.Test.YtfafjijoeanbhaaOneA
namespace Go.Proofs.Ytfafjijoeanbhaa
open Go.RowKit

attribute [local go_sem ↓] field_big field_end0 field_end1
set_option maxHeartbeats 4000000 in
set_option maxRecDepth 20000 in
theorem l4Away_zz (x1 x2 : Int) (a b : Option Addr) (c d : Nat) (z : Int) (w : World) (h1 : Sl w a (mag x1).length c (mag x1)) (h2 : Sl w b (mag x2).length d (mag x2)) (lx1 : (mag x1).length ≤ 20) (lx2 : (mag x2).length ≤ 20) (hz : z = away2 ⟨x1, x2⟩) :
  Calls Try.prog 56 #[.agg #[.bool (isNeg x1), .slice a (mag x1).length c, .bool (isNeg x2), .slice b (mag x2).length d]] w (BigV w.heap.size w z) := by
 have hz2 : z = maxZ (sv false (mag x1)) (sv false (mag x2)) := by rw [show sv false (mag x1) = abZ x1 from val_mag x1, show sv false (mag x2) = abZ x2 from val_mag x2]; exact hz
 have hb1 : BigOk false (mag x1) := bigOk_abs (by omega)
 have hb2 : BigOk false (mag x2) := bigOk_abs (by omega)
 have H1 := Lib.hid h1
 have H2 := Lib.hid h2
 have F1 := Lib.hid h1.lt
 have F2 := Lib.hid h2.lt
 have HZ2 := Lib.hid hz2
 have B1 := Lib.hid hb1
 have B2 := Lib.hid hb2
 clear h1 h2 hz hz2 hb1 hb2
 go_enter Try.func56, Try.ntmps56
 go_upto_region 1 with fail
 generalize hW : ((w.alloc (.cells #[.bool (isNeg x1), .slice a (mag x1).length c, .bool (isNeg x2), .slice b (mag x2).length d] 43)).alloc (.cells #[.bool false, .slice none 0 0] 41)) = ww0
 have hkk : Kept [] ((w.alloc (.cells #[.bool (isNeg x1), .slice a (mag x1).length c, .bool (isNeg x2), .slice b (mag x2).length d] 43)).alloc (.cells #[.bool false, .slice none 0 0] 41)) ww0 := by rw [hW]; exact Kept.refl _ _
 have zzA : w.heap.size + 1 + 1 = ww0.heap.size := by rw [← hW]; simp
 obtain ⟨⟨nA0, nA1, nA2, nA3⟩, _⟩ := tp4 hkk.peel (g := w.heap.size) (by simp) (by simp)
 obtain ⟨⟨nR0, nR1⟩, fR0, fR1⟩ := tp2 hkk (g := w.heap.size + 1) (by simp) (by simp)
 have hk := hkk.peel.peel
 clear hkk hW
 have z0 := hk.size
 have kq1 := Lib.hid hk
 have KT := kq1
 clear hk
 replace H1 := Lib.hid (H1.out.kept0 KT.out)
 replace H2 := Lib.hid (H2.out.kept0 KT.out)
 have tA0 := nA0.out
 have tA1 := nA1.out
 have tA2 := nA2.out
 have tA3 := nA3.out
 go_wp2_with fail
 clear tA0 tA1 tA2 tA3
 refine (l3Most_two ww0.heap.size false false _ _ _ _ _ _ (mag x1) (mag x2) z _ (rowB2_at rfl rfl) (H1.out.kept0 ((Kept.refl [] ww0).alloc _)) (H2.out.kept0 ((Kept.refl [] ww0).alloc _)) B1.out B2.out HZ2.out).mono ?_
 intro e v1 hh; unfold BigV at hh; obtain ⟨b1, hh⟩ := hh; obtain ⟨c1, hh, hs1, hf1, hk1⟩ := hh; subst hh
 have S1 := Lib.hid hs1
 have GS1 := Lib.hid (hf1.mono (B' := ww0.heap.size) (by simp))
 have US1 := Lib.hid S1.out.lt
 have hk := ((Kept.refl [] ww0).alloc _).trans0 hk1
 clear hs1 hf1 hk1
 have z1 := hk.size
 have kq2 := Lib.hid hk
 clear hk
 replace fR0 := kf kq2.out nR0 fR0
 replace nR0 := kc kq2.out nR0
 have tR0 := nR0.out
 replace fR1 := kf kq2.out nR1 fR1
 replace nR1 := kc kq2.out nR1
 have tR1 := nR1.out
 have uR0 := fR0.out
 have uR1 := fR1.out
 go_wp2_with fail
 clear tR0 tR1 uR0 uR1
 generalize hW : ((v1.setCell ⟨w.heap.size + 1, 0, none⟩ (.bool (isNeg z))).setCell ⟨w.heap.size + 1, 1, none⟩ (.slice b1 (mag z).length c1)) = ww2
 have hk : Kept [w.heap.size + 1] v1 ww2 := by rw [← hW]; exact ((Kept.refl _ _).setCell _ _ (by simp)).setCell _ _ (by simp)
 have hfz : ∀ x, ww2.frozen? x = v1.frozen? x := by rw [← hW]; intro x; simp only [World.frozen?_setCell]
 obtain ⟨e0, e1⟩ := st2 hW.symm nR0.out nR1.out
 have z2 := hk.size
 have kq3 := Lib.hid hk
 have hz3 := Lib.hid hfz
 replace fR0 := kz hfz fR0
 replace fR1 := kz hfz fR1
 replace nR0 := Lib.hid e0
 replace nR1 := Lib.hid e1
 clear hk hfz hW e0 e1
 go_wp2_with fail
 have e0 := nR0.out
 have e1 := nR1.out
 refine bodyPost_ret (v := .agg #[.bool (isNeg z), .slice b1 (mag z).length c1]) (by simp [results, Try.results56, go_sem, e0, e1]) rfl ?_
 replace KT := Lib.hid (KT.out.trans0 kq2.out)
 replace KT := Lib.hid (KT.out.trans kq3.out (fun x hx hlt => by simp at hx; omega))
 replace S1 := Lib.hid (S1.out.kept kq3.out (fun hn y hy hm => by have h9 := GS1.out hn y hy; simp at hm; omega))
 exact ⟨_, _, rfl, S1.out, GS1.out.mono (by omega), KT.out⟩

end Go.Proofs.Ytfafjijoeanbhaa
