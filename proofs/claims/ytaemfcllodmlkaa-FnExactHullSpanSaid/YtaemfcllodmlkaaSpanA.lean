/-
  The laws' helpers over spans: szSpan, toSpan, eqSpan. Conditions: the limbs read as lists of numbers and are short.
-/
import Derived.Deep.RegionHeld3
import Derived.Deep.DrawnRows
import Derived.Deep.DeepCutAuto
import Derived.Test.YtaemfcllodmlkaaJ1
import Derived.Test.YtaemfcllodmlkaaJ2
namespace Go.Proofs.Ytaemfcllodmlkaa
open Go.RowKit

set_option maxHeartbeats 2000000 in
set_option maxRecDepth 20000 in
theorem szSpan_yes (p q : Bool) (a b : Option Addr) (n c m d : Nat) (L : Int) (w : World) (h : (n : Int) ≤ L) (h2 : (m : Int) ≤ L - n) (hL : L ≤ 1048576) :
    Calls Try.prog 9 #[.agg #[.bool p, .slice a n c, .bool q, .slice b m d], .int .i64 L] w (Ans w (.int .i64 (L - n - m))) := by
  have e1 : decide (L - (n : Int) < 0) = false := decide_eq_false (by omega)
  have e2 : (0 : Int) ≤ L - n := by omega
  have e3 : decide (L - (n : Int) - (m : Int) < 0) = false := decide_eq_false (by omega)
  have e4 : (0 : Int) ≤ L - n - m := by omega
  go_enter Try.func9, Try.ntmps9
  go_wp2_with fail
  generalize hW : (w.alloc (.cells #[.bool p, .slice a n c, .bool q, .slice b m d] 26)) = ww0
  have hkk : Kept [] (w.alloc (.cells #[.bool p, .slice a n c, .bool q, .slice b m d] 26)) ww0 := by rw [hW]; exact Kept.refl _ _
  have zzA : w.heap.size + 1 = ww0.heap.size := by rw [← hW]; simp
  obtain ⟨⟨nA0, nA1, nA2, nA3⟩, _⟩ := tp4 hkk (g := w.heap.size) (by simp) (by simp)
  have hk := hkk.peel
  clear hkk hW
  have z0 := hk.size
  have KT := Lib.hid hk
  clear hk
  refine (szBig_yes _ _ _ _ _ _ h hL).mono ?_
  rintro e ww1 ⟨rfl, hk⟩
  have z1 := hk.size
  replace nA0 := kc hk nA0
  replace nA1 := kc hk nA1
  replace nA2 := kc hk nA2
  replace nA3 := kc hk nA3
  replace KT := Lib.hid (KT.out.trans0 hk)
  clear hk
  have tA0 := nA0.out
  have tA1 := nA1.out
  have tA2 := nA2.out
  have tA3 := nA3.out
  go_wp2_with fail
  clear tA0 tA1 tA2 tA3
  refine (szBig_yes _ _ _ _ _ _ h2 (by omega)).mono ?_
  rintro e ww2 ⟨rfl, hk⟩
  have z2 := hk.size
  replace nA0 := kc hk nA0
  replace nA1 := kc hk nA1
  replace nA2 := kc hk nA2
  replace nA3 := kc hk nA3
  replace KT := Lib.hid (KT.out.trans0 hk)
  clear hk
  go_wp2_with fail
  go_ret
  exact ⟨rfl, KT.out⟩

set_option maxHeartbeats 2000000 in
set_option maxRecDepth 20000 in
theorem szSpan_no1 (p q : Bool) (a b : Option Addr) (n c m d : Nat) (L : Int) (w : World) (h : L < n) (h0 : 0 ≤ L) (hn : n ≤ 9223372036854775807) :
    Calls Try.prog 9 #[.agg #[.bool p, .slice a n c, .bool q, .slice b m d], .int .i64 L] w (Ans w (.int .i64 (-1))) := by
  go_enter Try.func9, Try.ntmps9
  go_wp2_with fail
  generalize hW : (w.alloc (.cells #[.bool p, .slice a n c, .bool q, .slice b m d] 26)) = ww0
  have hkk : Kept [] (w.alloc (.cells #[.bool p, .slice a n c, .bool q, .slice b m d] 26)) ww0 := by rw [hW]; exact Kept.refl _ _
  have zzA : w.heap.size + 1 = ww0.heap.size := by rw [← hW]; simp
  obtain ⟨⟨nA0, nA1, nA2, nA3⟩, _⟩ := tp4 hkk (g := w.heap.size) (by simp) (by simp)
  have hk := hkk.peel
  clear hkk hW
  have z0 := hk.size
  have KT := Lib.hid hk
  clear hk
  refine (szBig_no _ _ _ _ _ _ h h0 hn).mono ?_
  rintro e ww1 ⟨rfl, hk⟩
  have z1 := hk.size
  replace nA0 := kc hk nA0
  replace nA1 := kc hk nA1
  replace nA2 := kc hk nA2
  replace nA3 := kc hk nA3
  replace KT := Lib.hid (KT.out.trans0 hk)
  clear hk
  go_wp2_with fail
  go_ret
  exact ⟨rfl, KT.out⟩

set_option maxHeartbeats 2000000 in
set_option maxRecDepth 20000 in
theorem szSpan_no2 (p q : Bool) (a b : Option Addr) (n c m d : Nat) (L : Int) (w : World) (h : (n : Int) ≤ L) (h2 : L - n < m) (hL : L ≤ 1048576) (hm : m ≤ 9223372036854775807) :
    Calls Try.prog 9 #[.agg #[.bool p, .slice a n c, .bool q, .slice b m d], .int .i64 L] w (Ans w (.int .i64 (-1))) := by
  have e1 : decide (L - (n : Int) < 0) = false := decide_eq_false (by omega)
  have e2 : (0 : Int) ≤ L - n := by omega
  go_enter Try.func9, Try.ntmps9
  go_wp2_with fail
  generalize hW : (w.alloc (.cells #[.bool p, .slice a n c, .bool q, .slice b m d] 26)) = ww0
  have hkk : Kept [] (w.alloc (.cells #[.bool p, .slice a n c, .bool q, .slice b m d] 26)) ww0 := by rw [hW]; exact Kept.refl _ _
  have zzA : w.heap.size + 1 = ww0.heap.size := by rw [← hW]; simp
  obtain ⟨⟨nA0, nA1, nA2, nA3⟩, _⟩ := tp4 hkk (g := w.heap.size) (by simp) (by simp)
  have hk := hkk.peel
  clear hkk hW
  have z0 := hk.size
  have KT := Lib.hid hk
  clear hk
  refine (szBig_yes _ _ _ _ _ _ h hL).mono ?_
  rintro e ww1 ⟨rfl, hk⟩
  have z1 := hk.size
  replace nA0 := kc hk nA0
  replace nA1 := kc hk nA1
  replace nA2 := kc hk nA2
  replace nA3 := kc hk nA3
  replace KT := Lib.hid (KT.out.trans0 hk)
  clear hk
  have tA0 := nA0.out
  have tA1 := nA1.out
  have tA2 := nA2.out
  have tA3 := nA3.out
  go_wp2_with fail
  clear tA0 tA1 tA2 tA3
  refine (szBig_no _ _ _ _ _ _ h2 (by omega) hm).mono ?_
  rintro e ww2 ⟨rfl, hk⟩
  have z2 := hk.size
  replace nA0 := kc hk nA0
  replace nA1 := kc hk nA1
  replace nA2 := kc hk nA2
  replace nA3 := kc hk nA3
  replace KT := Lib.hid (KT.out.trans0 hk)
  clear hk
  go_wp2_with fail
  go_ret
  exact ⟨rfl, KT.out⟩

set_option maxHeartbeats 2000000 in
set_option maxRecDepth 20000 in
theorem eqSpan_yes (p q : Bool) (a b a' b' : Option Addr) (n c m d c' d' : Nat) (xs ys : List Int) (w : World) (h1 : Rd w a n xs) (h2 : Rd w a' n xs) (h3 : Rd w b m ys) (h4 : Rd w b' m ys) :
    Calls Try.prog 13 #[.agg #[.bool p, .slice a n c, .bool q, .slice b m d], .agg #[.bool p, .slice a' n c', .bool q, .slice b' m d']] w (Ans w (.bool true)) := by
  have H1 := Lib.hid h1
  have H2 := Lib.hid h2
  have H3 := Lib.hid h3
  have H4 := Lib.hid h4
  clear h1 h2 h3 h4
  go_enter Try.func13, Try.ntmps13
  go_wp2_with fail
  generalize hW : ((w.alloc (.cells #[.bool p, .slice a n c, .bool q, .slice b m d] 31)).alloc (.cells #[.bool p, .slice a' n c', .bool q, .slice b' m d'] 31)) = ww0
  have hkk : Kept [] ((w.alloc (.cells #[.bool p, .slice a n c, .bool q, .slice b m d] 31)).alloc (.cells #[.bool p, .slice a' n c', .bool q, .slice b' m d'] 31)) ww0 := by rw [hW]; exact Kept.refl _ _
  have zzA : w.heap.size + 1 + 1 = ww0.heap.size := by rw [← hW]; simp
  obtain ⟨⟨nA0, nA1, nA2, nA3⟩, _⟩ := tp4 hkk.peel (g := w.heap.size) (by simp) (by simp)
  obtain ⟨⟨nB0, nB1, nB2, nB3⟩, _⟩ := tp4 hkk (g := w.heap.size + 1) (by simp) (by simp)
  have hk := hkk.peel.peel
  clear hkk hW
  have z0 := hk.size
  have KT := Lib.hid hk
  clear hk
  replace H1 := Lib.hid (H1.out.kept0 KT.out)
  replace H2 := Lib.hid (H2.out.kept0 KT.out)
  replace H3 := Lib.hid (H3.out.kept0 KT.out)
  replace H4 := Lib.hid (H4.out.kept0 KT.out)
  refine (eqBig_yes _ _ _ _ _ _ _ _ H1.out H2.out).mono ?_
  rintro e ww1 ⟨rfl, hk⟩
  have z1 := hk.size
  replace nA0 := kc hk nA0
  replace nA1 := kc hk nA1
  replace nA2 := kc hk nA2
  replace nA3 := kc hk nA3
  replace nB0 := kc hk nB0
  replace nB1 := kc hk nB1
  replace nB2 := kc hk nB2
  replace nB3 := kc hk nB3
  replace H1 := Lib.hid (H1.out.kept0 hk)
  replace H2 := Lib.hid (H2.out.kept0 hk)
  replace H3 := Lib.hid (H3.out.kept0 hk)
  replace H4 := Lib.hid (H4.out.kept0 hk)
  replace KT := Lib.hid (KT.out.trans0 hk)
  clear hk
  have tA0 := nA0.out
  have tA1 := nA1.out
  have tA2 := nA2.out
  have tA3 := nA3.out
  have tB0 := nB0.out
  have tB1 := nB1.out
  have tB2 := nB2.out
  have tB3 := nB3.out
  go_wp2_with fail
  clear tA0 tA1 tA2 tA3 tB0 tB1 tB2 tB3
  refine (eqBig_yes _ _ _ _ _ _ _ _ H3.out H4.out).mono ?_
  rintro e ww2 ⟨rfl, hk⟩
  have z2 := hk.size
  replace nA0 := kc hk nA0
  replace nA1 := kc hk nA1
  replace nA2 := kc hk nA2
  replace nA3 := kc hk nA3
  replace nB0 := kc hk nB0
  replace nB1 := kc hk nB1
  replace nB2 := kc hk nB2
  replace nB3 := kc hk nB3
  replace H1 := Lib.hid (H1.out.kept0 hk)
  replace H2 := Lib.hid (H2.out.kept0 hk)
  replace H3 := Lib.hid (H3.out.kept0 hk)
  replace H4 := Lib.hid (H4.out.kept0 hk)
  replace KT := Lib.hid (KT.out.trans0 hk)
  clear hk
  go_wp2_with fail
  go_ret
  exact ⟨rfl, KT.out⟩

/-- A call that answers a span in two new blocks. -/
def NewSp (w : World) (p : Bool) (xs : List Int) (q : Bool) (ys : List Int) (e : Ending) (w' : World) : Prop :=
  ∃ g h, e = .returned (.agg #[.bool p, .slice (some ⟨g, 0, none⟩) xs.length xs.length, .bool q, .slice (some ⟨h, 0, none⟩) ys.length ys.length]) ∧ w.heap.size ≤ g ∧ g < h ∧ Blk w' g xs ∧ Blk w' h ys ∧ Kept [] w w'
theorem cells4at {w : World} {g : Nat} {x0 x1 x2 x3 : Value} (v0 v1 v2 v3 : Value) (h0 : w.cell? ⟨g, 0, none⟩ = some x0) (h1 : w.cell? ⟨g, 1, none⟩ = some x1) (h2 : w.cell? ⟨g, 2, none⟩ = some x2) (h3 : w.cell? ⟨g, 3, none⟩ = some x3) :
    ((((w.setCell ⟨g, 0, none⟩ v0).setCell ⟨g, 1, none⟩ v1).setCell ⟨g, 2, none⟩ v2).setCell ⟨g, 3, none⟩ v3).cell? ⟨g, 0, none⟩ = some v0 ∧ ((((w.setCell ⟨g, 0, none⟩ v0).setCell ⟨g, 1, none⟩ v1).setCell ⟨g, 2, none⟩ v2).setCell ⟨g, 3, none⟩ v3).cell? ⟨g, 1, none⟩ = some v1 ∧
    ((((w.setCell ⟨g, 0, none⟩ v0).setCell ⟨g, 1, none⟩ v1).setCell ⟨g, 2, none⟩ v2).setCell ⟨g, 3, none⟩ v3).cell? ⟨g, 2, none⟩ = some v2 ∧ ((((w.setCell ⟨g, 0, none⟩ v0).setCell ⟨g, 1, none⟩ v1).setCell ⟨g, 2, none⟩ v2).setCell ⟨g, 3, none⟩ v3).cell? ⟨g, 3, none⟩ = some v3 := by
  obtain ⟨e0, e1, e2⟩ := cells3' v0 v1 v2 h0 h1 h2
  have e3 : (((w.setCell ⟨g, 0, none⟩ v0).setCell ⟨g, 1, none⟩ v1).setCell ⟨g, 2, none⟩ v2).cell? ⟨g, 3, none⟩ = some x3 := by
    rw [World.cell?_setCell_other _ _ _ _ (by simp), World.cell?_setCell_other _ _ _ _ (by simp), World.cell?_setCell_other _ _ _ _ (by simp)]; exact h3
  exact ⟨by rw [World.cell?_setCell_other _ _ _ _ (by simp)]; exact e0, by rw [World.cell?_setCell_other _ _ _ _ (by simp)]; exact e1, by rw [World.cell?_setCell_other _ _ _ _ (by simp)]; exact e2, World.cell?_setCell_same _ _ _ e3⟩

set_option maxHeartbeats 4000000 in
set_option maxRecDepth 20000 in
theorem toSpan_any (p q : Bool) (a b : Option Addr) (n c m d : Nat) (xs ys : List Int) (w : World) (h : Rd w a n xs) (h' : Rd w b m ys) (hn : n ≤ 2000000) (hm : m ≤ 2000000) :
    Calls Try.prog 11 #[.agg #[.bool p, .slice a n c, .bool q, .slice b m d]] w (NewSp w p xs q ys) := by
  have HRA := Lib.hid h
  have HRB := Lib.hid h'
  have FRA := Lib.hid h.lt
  have FRB := Lib.hid h'.lt
  have HLA := Lib.hid h.1
  have HLB := Lib.hid h'.1
  clear h h'
  go_enter Try.func11, Try.ntmps11
  go_wp2_with fail
  generalize hW : (((w.alloc (.cells #[.bool p, .slice a n c, .bool q, .slice b m d] 26)).alloc (.cells #[.bool false, .slice none 0 0, .bool false, .slice none 0 0] 31)).alloc (.cells #[.bool false, .slice none 0 0, .bool false, .slice none 0 0] 31)) = ww0
  have hkk : Kept [] (((w.alloc (.cells #[.bool p, .slice a n c, .bool q, .slice b m d] 26)).alloc (.cells #[.bool false, .slice none 0 0, .bool false, .slice none 0 0] 31)).alloc (.cells #[.bool false, .slice none 0 0, .bool false, .slice none 0 0] 31)) ww0 := by rw [hW]; exact Kept.refl _ _
  have zzA : w.heap.size + 1 + 1 + 1 = ww0.heap.size := by rw [← hW]; simp
  obtain ⟨⟨nA0, nA1, nA2, nA3⟩, _⟩ := tp4 hkk.peel.peel (g := w.heap.size) (by simp) (by simp)
  obtain ⟨⟨nR0, nR1, nR2, nR3⟩, fR0, fR1, fR2, fR3⟩ := tp4 hkk.peel (g := w.heap.size + 1) (by simp) (by simp)
  obtain ⟨⟨nO0, nO1, nO2, nO3⟩, fO0, fO1, fO2, fO3⟩ := tp4 hkk (g := w.heap.size + 1 + 1) (by simp) (by simp)
  have hk := hkk.peel.peel.peel
  clear hkk hW
  have z0 := hk.size
  have KT := Lib.hid hk
  clear hk
  replace HRA := Lib.hid (HRA.out.kept0 KT.out)
  replace HRB := Lib.hid (HRB.out.kept0 KT.out)
  refine (toBig_any _ _ _ _ _ _ HRA.out (by omega)).mono ?_
  rintro e ww1 ⟨g, rfl, hg, hb, hk⟩
  have HG := Lib.hid hb
  have zg := hb.lt
  clear hb
  have z1 := hk.size
  replace fR0 := kf hk nR0 fR0
  replace fR1 := kf hk nR1 fR1
  replace fR2 := kf hk nR2 fR2
  replace fR3 := kf hk nR3 fR3
  replace fO0 := kf hk nO0 fO0
  replace fO1 := kf hk nO1 fO1
  replace fO2 := kf hk nO2 fO2
  replace fO3 := kf hk nO3 fO3
  replace nA0 := kc hk nA0
  replace nA1 := kc hk nA1
  replace nA2 := kc hk nA2
  replace nA3 := kc hk nA3
  replace nR0 := kc hk nR0
  replace nR1 := kc hk nR1
  replace nR2 := kc hk nR2
  replace nR3 := kc hk nR3
  replace nO0 := kc hk nO0
  replace nO1 := kc hk nO1
  replace nO2 := kc hk nO2
  replace nO3 := kc hk nO3
  replace HRA := Lib.hid (HRA.out.kept0 hk)
  replace HRB := Lib.hid (HRB.out.kept0 hk)
  replace KT := Lib.hid (KT.out.trans0 hk)
  clear hk
  have tA0 := nA0.out
  have tA1 := nA1.out
  have tA2 := nA2.out
  have tA3 := nA3.out
  have tO0 := nO0.out
  have tO1 := nO1.out
  have tO2 := nO2.out
  have tO3 := nO3.out
  have uO0 := fO0.out
  have uO1 := fO1.out
  have uO2 := fO2.out
  have uO3 := fO3.out
  go_upto_region 3 with fail
  clear tA0 tA1 tA2 tA3 tO0 tO1 tO2 tO3 uO0 uO1 uO2 uO3
  generalize hW : ((ww1.setCell ⟨w.heap.size + 1 + 1, 0, none⟩ (.bool p)).setCell ⟨w.heap.size + 1 + 1, 1, none⟩ (.slice (some ⟨g, 0, none⟩) xs.length xs.length)) = ww2
  have hk : Kept [w.heap.size + 1 + 1] ww1 ww2 := by rw [← hW]; exact ((Kept.refl _ _).setCell _ _ (by simp)).setCell _ _ (by simp)
  have hfz : ∀ x, ww2.frozen? x = ww1.frozen? x := by rw [← hW]; intro x; simp only [World.frozen?_setCell]
  obtain ⟨e0, e1⟩ := st2 hW.symm nO0.out nO1.out
  have z2 := hk.size
  replace fR0 := kz hfz fR0
  replace fR1 := kz hfz fR1
  replace fR2 := kz hfz fR2
  replace fR3 := kz hfz fR3
  replace fO0 := kz hfz fO0
  replace fO1 := kz hfz fO1
  replace fO2 := kz hfz fO2
  replace fO3 := kz hfz fO3
  replace nA0 := kd hk nA0 (by simp <;> omega)
  replace nA1 := kd hk nA1 (by simp <;> omega)
  replace nA2 := kd hk nA2 (by simp <;> omega)
  replace nA3 := kd hk nA3 (by simp <;> omega)
  replace nR0 := kd hk nR0 (by simp <;> omega)
  replace nR1 := kd hk nR1 (by simp <;> omega)
  replace nR2 := kd hk nR2 (by simp <;> omega)
  replace nR3 := kd hk nR3 (by simp <;> omega)
  replace nO2 := Lib.hid (show ww2.cell? ⟨w.heap.size + 1 + 1, 2, none⟩ = some (.bool false) by rw [← hW]; rw [World.cell?_setCell_other _ _ _ _ (by simp), World.cell?_setCell_other _ _ _ _ (by simp)]; exact nO2.out)
  replace nO3 := Lib.hid (show ww2.cell? ⟨w.heap.size + 1 + 1, 3, none⟩ = some (.slice none 0 0) by rw [← hW]; rw [World.cell?_setCell_other _ _ _ _ (by simp), World.cell?_setCell_other _ _ _ _ (by simp)]; exact nO3.out)
  replace HRA := Lib.hid (HRA.out.kept hk (fun hn y hy hm => by have h9 := FRA.out hn y hy; simp at hm; omega))
  replace HRB := Lib.hid (HRB.out.kept hk (fun hn y hy hm => by have h9 := FRB.out hn y hy; simp at hm; omega))
  replace HG := Lib.hid (hk.blk HG.out (by simp <;> omega))
  replace nO0 := Lib.hid e0
  replace nO1 := Lib.hid e1
  replace KT := Lib.hid (KT.out.trans hk (fun x hx hlt => by simp at hx; omega))
  clear hk hfz hW e0 e1
  have tA0 := nA0.out
  have tA1 := nA1.out
  have tA2 := nA2.out
  have tA3 := nA3.out
  go_wp2_with fail
  clear tA0 tA1 tA2 tA3
  refine (toBig_any _ _ _ _ _ _ HRB.out (by omega)).mono ?_
  rintro e ww3 ⟨g2, rfl, hg2, hb, hk⟩
  have HG2 := Lib.hid hb
  have zg2 := hb.lt
  clear hb
  have z3 := hk.size
  replace fR0 := kf hk nR0 fR0
  replace fR1 := kf hk nR1 fR1
  replace fR2 := kf hk nR2 fR2
  replace fR3 := kf hk nR3 fR3
  replace fO0 := kf hk nO0 fO0
  replace fO1 := kf hk nO1 fO1
  replace fO2 := kf hk nO2 fO2
  replace fO3 := kf hk nO3 fO3
  replace nA0 := kc hk nA0
  replace nA1 := kc hk nA1
  replace nA2 := kc hk nA2
  replace nA3 := kc hk nA3
  replace nR0 := kc hk nR0
  replace nR1 := kc hk nR1
  replace nR2 := kc hk nR2
  replace nR3 := kc hk nR3
  replace nO0 := kc hk nO0
  replace nO1 := kc hk nO1
  replace nO2 := kc hk nO2
  replace nO3 := kc hk nO3
  replace HRA := Lib.hid (HRA.out.kept0 hk)
  replace HRB := Lib.hid (HRB.out.kept0 hk)
  replace HG := Lib.hid (hk.blk HG.out (by simp))
  replace KT := Lib.hid (KT.out.trans0 hk)
  clear hk
  have tO0 := nO0.out
  have tO1 := nO1.out
  have tO2 := nO2.out
  have tO3 := nO3.out
  have uO0 := fO0.out
  have uO1 := fO1.out
  have uO2 := fO2.out
  have uO3 := fO3.out
  go_upto_region 4 with fail
  clear tO0 tO1 tO2 tO3 uO0 uO1 uO2 uO3
  generalize hW : ((ww3.setCell ⟨w.heap.size + 1 + 1, 2, none⟩ (.bool q)).setCell ⟨w.heap.size + 1 + 1, 3, none⟩ (.slice (some ⟨g2, 0, none⟩) ys.length ys.length)) = ww4
  have hk : Kept [w.heap.size + 1 + 1] ww3 ww4 := by rw [← hW]; exact ((Kept.refl _ _).setCell _ _ (by simp)).setCell _ _ (by simp)
  have hfz : ∀ x, ww4.frozen? x = ww3.frozen? x := by rw [← hW]; intro x; simp only [World.frozen?_setCell]
  have e0 : ww4.cell? ⟨w.heap.size + 1 + 1, 2, none⟩ = some (.bool q) := by rw [← hW]; rw [World.cell?_setCell_other _ _ _ _ (by simp)]; exact World.cell?_setCell_same _ _ _ (by exact nO2.out)
  have e1 : ww4.cell? ⟨w.heap.size + 1 + 1, 3, none⟩ = some (.slice (some ⟨g2, 0, none⟩) ys.length ys.length) := by rw [← hW]; exact World.cell?_setCell_same _ _ _ (by rw [World.cell?_setCell_other _ _ _ _ (by simp)]; exact nO3.out)
  have z4 := hk.size
  replace fR0 := kz hfz fR0
  replace fR1 := kz hfz fR1
  replace fR2 := kz hfz fR2
  replace fR3 := kz hfz fR3
  replace fO0 := kz hfz fO0
  replace fO1 := kz hfz fO1
  replace fO2 := kz hfz fO2
  replace fO3 := kz hfz fO3
  replace nA0 := kd hk nA0 (by simp <;> omega)
  replace nA1 := kd hk nA1 (by simp <;> omega)
  replace nA2 := kd hk nA2 (by simp <;> omega)
  replace nA3 := kd hk nA3 (by simp <;> omega)
  replace nR0 := kd hk nR0 (by simp <;> omega)
  replace nR1 := kd hk nR1 (by simp <;> omega)
  replace nR2 := kd hk nR2 (by simp <;> omega)
  replace nR3 := kd hk nR3 (by simp <;> omega)
  replace nO0 := Lib.hid (show ww4.cell? ⟨w.heap.size + 1 + 1, 0, none⟩ = some (.bool p) by rw [← hW]; rw [World.cell?_setCell_other _ _ _ _ (by simp), World.cell?_setCell_other _ _ _ _ (by simp)]; exact nO0.out)
  replace nO1 := Lib.hid (show ww4.cell? ⟨w.heap.size + 1 + 1, 1, none⟩ = some (.slice (some ⟨g, 0, none⟩) xs.length xs.length) by rw [← hW]; rw [World.cell?_setCell_other _ _ _ _ (by simp), World.cell?_setCell_other _ _ _ _ (by simp)]; exact nO1.out)
  replace HRA := Lib.hid (HRA.out.kept hk (fun hn y hy hm => by have h9 := FRA.out hn y hy; simp at hm; omega))
  replace HRB := Lib.hid (HRB.out.kept hk (fun hn y hy hm => by have h9 := FRB.out hn y hy; simp at hm; omega))
  replace HG := Lib.hid (hk.blk HG.out (by simp <;> omega))
  replace HG2 := Lib.hid (hk.blk HG2.out (by simp <;> omega))
  replace nO2 := Lib.hid e0
  replace nO3 := Lib.hid e1
  replace KT := Lib.hid (KT.out.trans hk (fun x hx hlt => by simp at hx; omega))
  clear hk hfz hW e0 e1
  have tO0 := nO0.out
  have tO1 := nO1.out
  have tO2 := nO2.out
  have tO3 := nO3.out
  have tR0 := nR0.out
  have tR1 := nR1.out
  have tR2 := nR2.out
  have tR3 := nR3.out
  have uR0 := fR0.out
  have uR1 := fR1.out
  have uR2 := fR2.out
  have uR3 := fR3.out
  go_wp2_with fail
  clear tO0 tO1 tO2 tO3 tR0 tR1 tR2 tR3 uR0 uR1 uR2 uR3
  generalize hW : ((((ww4.setCell ⟨w.heap.size + 1, 0, none⟩ (.bool p)).setCell ⟨w.heap.size + 1, 1, none⟩ (.slice (some ⟨g, 0, none⟩) xs.length xs.length)).setCell ⟨w.heap.size + 1, 2, none⟩ (.bool q)).setCell ⟨w.heap.size + 1, 3, none⟩ (.slice (some ⟨g2, 0, none⟩) ys.length ys.length)) = ww5
  have hk : Kept [w.heap.size + 1] ww4 ww5 := by rw [← hW]; exact ((((Kept.refl _ _).setCell _ _ (by simp)).setCell _ _ (by simp)).setCell _ _ (by simp)).setCell _ _ (by simp)
  have hfz : ∀ x, ww5.frozen? x = ww4.frozen? x := by rw [← hW]; intro x; simp only [World.frozen?_setCell]
  obtain ⟨e0, e1, e2, e3⟩ := st4 hW.symm nR0.out nR1.out nR2.out nR3.out
  have z5 := hk.size
  replace fR0 := kz hfz fR0
  replace fR1 := kz hfz fR1
  replace fR2 := kz hfz fR2
  replace fR3 := kz hfz fR3
  replace fO0 := kz hfz fO0
  replace fO1 := kz hfz fO1
  replace fO2 := kz hfz fO2
  replace fO3 := kz hfz fO3
  replace nA0 := kd hk nA0 (by simp <;> omega)
  replace nA1 := kd hk nA1 (by simp <;> omega)
  replace nA2 := kd hk nA2 (by simp <;> omega)
  replace nA3 := kd hk nA3 (by simp <;> omega)
  replace nO0 := kd hk nO0 (by simp <;> omega)
  replace nO1 := kd hk nO1 (by simp <;> omega)
  replace nO2 := kd hk nO2 (by simp <;> omega)
  replace nO3 := kd hk nO3 (by simp <;> omega)
  replace HRA := Lib.hid (HRA.out.kept hk (fun hn y hy hm => by have h9 := FRA.out hn y hy; simp at hm; omega))
  replace HRB := Lib.hid (HRB.out.kept hk (fun hn y hy hm => by have h9 := FRB.out hn y hy; simp at hm; omega))
  replace HG := Lib.hid (hk.blk HG.out (by simp <;> omega))
  replace HG2 := Lib.hid (hk.blk HG2.out (by simp <;> omega))
  replace nR0 := Lib.hid e0
  replace nR1 := Lib.hid e1
  replace nR2 := Lib.hid e2
  replace nR3 := Lib.hid e3
  replace KT := Lib.hid (KT.out.trans hk (fun x hx hlt => by simp at hx; omega))
  clear hk hfz hW e0 e1 e2 e3
  have e0 := nR0.out
  have e1 := nR1.out
  have e2 := nR2.out
  have e3 := nR3.out
  refine bodyPost_ret (v := .agg #[.bool p, .slice (some ⟨g, 0, none⟩) xs.length xs.length, .bool q, .slice (some ⟨g2, 0, none⟩) ys.length ys.length]) (by simp [results, Try.results11, go_sem, e0, e1, e2, e3]) rfl ?_
  exact ⟨g, g2, rfl, by omega, by omega, HG.out, HG2.out, KT.out⟩

end Go.Proofs.Ytaemfcllodmlkaa
