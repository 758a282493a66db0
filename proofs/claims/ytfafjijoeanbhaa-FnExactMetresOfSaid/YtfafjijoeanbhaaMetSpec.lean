/-
 Contracts of the model's l5Metres and MetresOf. Conditions: as said.
-/
import Derived.Deep.RegionHeld3
import Derived.Deep.DrawnRows
import Derived.Deep.DeepCutAuto
import Derived.Test.YtfafjijoeanbhaaPlainM
import Derived.Test.YtfafjijoeanbhaaZedM
import Derived.Test.YtfafjijoeanbhaaBigOf
import Derived.Test.YtfafjijoeanbhaaArcNear
import Derived.Test.YtfafjijoeanbhaaMetProg
namespace Go.Proofs.Ytfafjijoeanbhaa
open Go.RowKit

attribute [local go_sem ↓] field_big field_end0 field_end1
set_option maxHeartbeats 8000000 in
set_option maxRecDepth 20000 in
theorem l5Metres_any (k : Nat) (x1 x2 : Int) (a b : Option Addr) (c d : Nat) (w : World) (h1 : Sl w a (mag x1).length c (mag x1)) (h2 : Sl w b (mag x2).length d (mag x2)) (hP : isP (k : Int) = true) (i1 : -(4 * p2 k) ≤ x1) (i2 : x1 ≤ x2) (i3 : x2 ≤ 4 * p2 k) :
  Calls Try.prog 23 #[.int .i64 (k : Int), .agg #[.bool (isNeg x1), .slice a (mag x1).length c, .bool (isNeg x2), .slice b (mag x2).length d]] w (Ans w (.agg #[.int .i64 (wayF k x1), .int .i64 (wayC k x2)])) := by
 have hk96 : k ≤ 96 := by rcases isP_cases hP with h | h | h <;> omega
 obtain ⟨y1, hy1⟩ : ∃ y, y = x1 * 6371008800000 := ⟨_, rfl⟩
 have ly1 : (mag y1).length ≤ 20 := by rw [hy1]; exact way_len hk96 i1 (by omega)
 have lx1 : (mag x1).length ≤ 20 := len20 (M := 4 * 79228162514264337593543950336) (by have := p2_le hk96; omega) (by have := p2_le hk96; omega) (by omega)
 obtain ⟨o1, ho1⟩ : ∃ o, o = wayF k x1 := ⟨_, rfl⟩
 have hb1 := wayF_in (k := k) (x := x1) i1 (by omega)
 rw [← ho1] at hb1 ⊢
 have hz1 : o1 = outZ false y1 (k : Int).toNat := by rw [outZ_f, toNat_of, ho1, hy1]; rfl
 have lo1 : (mag o1).length ≤ 40 := by have := small_len (n := o1) (by omega) (by omega); omega
 have no1 := not_out hb1.1 hb1.2
 obtain ⟨y2, hy2⟩ : ∃ y, y = x2 * 6371008800000 := ⟨_, rfl⟩
 have ly2 : (mag y2).length ≤ 20 := by rw [hy2]; exact way_len hk96 (by omega) i3
 have lx2 : (mag x2).length ≤ 20 := len20 (M := 4 * 79228162514264337593543950336) (by have := p2_le hk96; omega) (by have := p2_le hk96; omega) (by omega)
 obtain ⟨o2, ho2⟩ : ∃ o, o = wayC k x2 := ⟨_, rfl⟩
 have hb2 := wayC_in (k := k) (x := x2) (by omega) i3
 rw [← ho2] at hb2 ⊢
 have hz2 : o2 = outZ true y2 (k : Int).toNat := by rw [outZ_c, toNat_of, ho2, hy2]; rfl
 have lo2 : (mag o2).length ≤ 40 := by have := small_len (n := o2) (by omega) (by omega); omega
 have no2 := not_out hb2.1 hb2.2
 have HY1 := Lib.hid hy1
 have LY1 := Lib.hid ly1
 have LX1 := Lib.hid lx1
 have HZ1 := Lib.hid hz1
 have LO1 := Lib.hid lo1
 have NO1 := Lib.hid no1
 clear hy1 ly1 lx1 hz1 lo1 no1 hb1 ho1
 have HY2 := Lib.hid hy2
 have LY2 := Lib.hid ly2
 have LX2 := Lib.hid lx2
 have HZ2 := Lib.hid hz2
 have LO2 := Lib.hid lo2
 have NO2 := Lib.hid no2
 clear hy2 ly2 lx2 hz2 lo2 no2 hb2 ho2
 have H1 := Lib.hid h1
 have H2 := Lib.hid h2
 have F1 := Lib.hid h1.lt
 have F2 := Lib.hid h2.lt
 have HP := Lib.hid hP
 clear h1 h2 hP i1 i2 i3
 go_enter Try.func23, Try.ntmps23
 go_upto_region 1 with fail
 generalize hW : ((w.alloc (.cells #[.bool (isNeg x1), .slice a (mag x1).length c, .bool (isNeg x2), .slice b (mag x2).length d] 43)).alloc (.cells #[.int .i64 0, .int .i64 0] 37)) = ww0
 have hkk : Kept [] ((w.alloc (.cells #[.bool (isNeg x1), .slice a (mag x1).length c, .bool (isNeg x2), .slice b (mag x2).length d] 43)).alloc (.cells #[.int .i64 0, .int .i64 0] 37)) ww0 := by rw [hW]; exact Kept.refl _ _
 have zzA : w.heap.size + 1 + 1 = ww0.heap.size := by rw [← hW]; simp
 obtain ⟨⟨nA0, nA1, nA2, nA3⟩, _⟩ := tp4 hkk.peel (g := w.heap.size) (by simp) (by simp)
 obtain ⟨⟨nR0, nR1⟩, fR0, fR1⟩ := tp2 hkk (g := w.heap.size + 1) (by simp) (by simp)
 have hk := hkk.peel.peel
 clear hkk hW
 have z0 := hk.size
 have kq1 := Lib.hid hk
 have KT := kq1
 clear hk
 replace H1 := Lib.hid (H1.out.kept0 KT.out)
 replace H2 := Lib.hid (H2.out.kept0 KT.out)
 go_wp2_with fail
 refine (sBigOf_any 6371008800000 _ (by omega) (by omega)).mono ?_
 intro e v1 hh; unfold BigV at hh; obtain ⟨b1, hh⟩ := hh; obtain ⟨c1, hh, hs1, hf1, hk1⟩ := hh; subst hh
 have B1 := Lib.hid hs1
 have GB1 := Lib.hid (hf1.mono (B' := ww0.heap.size) (by simp))
 have UB1 := Lib.hid B1.out.lt
 have hk := hk1
 have z1 := hk.size
 have kq2 := Lib.hid hk
 clear hk
 go_upto_region 2 with fail
 generalize hW : (v1.alloc (.cells #[.bool (isNeg 6371008800000), .slice b1 (mag 6371008800000).length c1] 41)) = ww2
 have hk : Kept [] v1 ww2 := by rw [← hW]; exact (Kept.refl [] _).alloc _
 have zzB : v1.heap.size + 1 = ww2.heap.size := by rw [← hW]; simp
 have nB0 := Lib.hid (show ww2.cell? ⟨v1.heap.size, 0, none⟩ = some (.bool (isNeg 6371008800000)) by rw [← hW, World.cell?_alloc_new]; rfl)
 have fB0 := Lib.hid (show ww2.frozen? ⟨v1.heap.size, 0, none⟩ = false by rw [← hW]; exact frozen_of_row _ _ _ _ _ (heap_alloc_new _ _))
 have nB1 := Lib.hid (show ww2.cell? ⟨v1.heap.size, 1, none⟩ = some (.slice b1 (mag 6371008800000).length c1) by rw [← hW, World.cell?_alloc_new]; rfl)
 have fB1 := Lib.hid (show ww2.frozen? ⟨v1.heap.size, 1, none⟩ = false by rw [← hW]; exact frozen_of_row _ _ _ _ _ (heap_alloc_new _ _))
 clear hW
 have z2 := hk.size
 have kq3 := Lib.hid hk
 clear hk
 have kj1 := Lib.hid (kq2.out.trans0 kq3.out)
 replace nA0 := kc kj1.out nA0
 have tA0 := nA0.out
 replace nA1 := kc kj1.out nA1
 have tA1 := nA1.out
 replace nA2 := kc kj1.out nA2
 have tA2 := nA2.out
 replace nA3 := kc kj1.out nA3
 have tA3 := nA3.out
 have tB0 := nB0.out
 have tB1 := nB1.out
 replace fR0 := kf kj1.out nR0 fR0
 replace nR0 := kc kj1.out nR0
 replace fR1 := kf kj1.out nR1 fR1
 replace nR1 := kc kj1.out nR1
 replace H1 := Lib.hid (H1.out.kept0 kj1.out)
 replace H2 := Lib.hid (H2.out.kept0 kj1.out)
 replace KT := Lib.hid (KT.out.trans0 kj1.out)
 replace B1 := Lib.hid (B1.out.kept0 kq3.out)
 go_region_held3 (fun w' => w'.cell? ⟨w.heap.size, 0, none⟩ = some (.bool (isNeg x1)) ∧ w'.cell? ⟨w.heap.size, 1, none⟩ = some (.slice a (mag x1).length c) ∧ w'.cell? ⟨w.heap.size, 2, none⟩ = some (.bool (isNeg x2)) ∧ w'.cell? ⟨w.heap.size, 3, none⟩ = some (.slice b (mag x2).length d) ∧ w'.cell? ⟨v1.heap.size, 0, none⟩ = some (.bool (isNeg 6371008800000)) ∧ w'.cell? ⟨v1.heap.size, 1, none⟩ = some (.slice b1 (mag 6371008800000).length c1) ∧ Hid (Kept [w.heap.size + 1] ww2 w'))
  ((go_split_ands; (try refine ⟨?_, ?_, ?_, ?_, ?_, ?_, ?_⟩) <;> with_reducible first | exact Kept.set2 (by assumption) | exact cell_set2 (by assumption) (by simp <;> omega) | exact Lib.hid ((Kept.refl _ _).drew) | exact drew_cell (by assumption) | exact Kept.allocH (by assumption) | exact alloc_cell (by assumption) | exact Lib.hid (Kept.trans0 (Hid.out (by assumption)) (by assumption)) | exact Kept.cell (by assumption) (by assumption) (by simp)))
  (first
   | (have g9 := hk6; clear g9; go_at_call 37; go_split_ands; refine (l2Int_n o2 _ _ _ (hs6.kept0 (Kept.refl [] _)) LO2.out NO2.out).mono ?_; intro e v7 hh; obtain ⟨hh, hk7⟩ := hh; subst hh; have hkr := ((((((((Kept.refl [] ww2).drew).trans0 hk2).trans0 hk3).trans0 hk4).trans0 hk5).trans0 hk6).trans0 hk7); have rg0 := hkr.cell (p := ⟨w.heap.size + 1, 0, none⟩) nR0.out (by simp); have rg1 := hkr.cell (p := ⟨w.heap.size + 1, 1, none⟩) nR1.out (by simp); have ru0 := hkr.free' (p := ⟨w.heap.size + 1, 0, none⟩) nR0.out fR0.out (by simp); have ru1 := hkr.free' (p := ⟨w.heap.size + 1, 1, none⟩) nR1.out fR1.out (by simp))
   | (have g9 := hk5; clear g9; go_at_call 40; go_split_ands; refine (l3Up_any (k : Int) _ _ _ y2 o2 _ HP.out (hs5.kept0 (Kept.refl [] _)) (by have := LY2.out; omega) HZ2.out).mono ?_; intro e v6 hh; unfold BigV at hh; obtain ⟨b6, hh⟩ := hh; obtain ⟨c6, hh, hs6, hf6, hk6⟩ := hh; subst hh)
   | (have g9 := hk4; clear g9; go_at_call 39; go_split_ands; refine (l2Mul_n x2 6371008800000 y2 _ _ _ _ _ (H2.out.kept0 (((((Kept.refl [] _).drew).trans0 hk2).trans0 hk3).trans0 hk4)) (B1.out.kept0 (((((Kept.refl [] _).drew).trans0 hk2).trans0 hk3).trans0 hk4)) LX2.out (one_len9 (by decide) (by decide)) HY2.out).mono ?_; intro e v5 hh; unfold BigV at hh; obtain ⟨b5, hh⟩ := hh; obtain ⟨c5, hh, hs5, hf5, hk5⟩ := hh; subst hh)
   | (have g9 := hk3; clear g9; go_at_call 37; go_split_ands; refine (l2Int_n o1 _ _ _ (hs3.kept0 (Kept.refl [] _)) LO1.out NO1.out).mono ?_; intro e v4 hh; obtain ⟨hh, hk4⟩ := hh; subst hh)
   | (have g9 := hk2; clear g9; go_at_call 38; go_split_ands; refine (l3Down_any (k : Int) _ _ _ y1 o1 _ HP.out (hs2.kept0 (Kept.refl [] _)) (by have := LY1.out; omega) HZ1.out).mono ?_; intro e v3 hh; unfold BigV at hh; obtain ⟨b3, hh⟩ := hh; obtain ⟨c3, hh, hs3, hf3, hk3⟩ := hh; subst hh)
   | (go_at_call 39; go_split_ands; refine (l2Mul_n x1 6371008800000 y1 _ _ _ _ _ (H1.out.kept0 ((Kept.refl [] _).drew)) (B1.out.kept0 ((Kept.refl [] _).drew)) LX1.out (one_len9 (by decide) (by decide)) HY1.out).mono ?_; intro e v2 hh; unfold BigV at hh; obtain ⟨b2, hh⟩ := hh; obtain ⟨c2, hh, hs2, hf2, hk2⟩ := hh; subst hh))
 clear tA0 tA1 tA2 tA3 tB0 tB1
 have zk2 := hk2.size
 have zk3 := hk3.size
 have zk4 := hk4.size
 have zk5 := hk5.size
 have zk6 := hk6.size
 have zk7 := hk7.size
 simp only [World.size_drew] at zk2 hf2
 have hk := hkr
 clear hkr hk2 hk3 hk4 hk5 hk6 hk7
 have z3 := hk.size
 have kq4 := Lib.hid hk
 clear hk
 clear hs2 hf2 hs3 hf3 hs5 hf5 hs6 hf6
 generalize hW : ((v7.setCell ⟨w.heap.size + 1, 0, none⟩ (.int .i64 o1)).setCell ⟨w.heap.size + 1, 1, none⟩ (.int .i64 o2)) = ww4
 have hk : Kept [w.heap.size + 1] v7 ww4 := by rw [← hW]; exact ((Kept.refl _ _).setCell _ _ (by simp)).setCell _ _ (by simp)
 have hfz : ∀ x, ww4.frozen? x = v7.frozen? x := by rw [← hW]; intro x; simp only [World.frozen?_setCell]
 replace fR0 := kf kq4.out nR0 fR0
 replace nR0 := kc kq4.out nR0
 have e0 : ww4.cell? ⟨w.heap.size + 1, 0, none⟩ = some (.int .i64 o1) := by rw [← hW]; rw [World.cell?_setCell_other _ _ _ _ (by simp)]; exact World.cell?_setCell_same _ _ _ (by exact nR0.out)
 replace fR1 := kf kq4.out nR1 fR1
 replace nR1 := kc kq4.out nR1
 have e1 : ww4.cell? ⟨w.heap.size + 1, 1, none⟩ = some (.int .i64 o2) := by rw [← hW]; exact World.cell?_setCell_same _ _ _ (by rw [World.cell?_setCell_other _ _ _ _ (by simp)]; exact nR1.out)
 have z4 := hk.size
 have kq5 := Lib.hid hk
 have hz5 := Lib.hid hfz
 replace fR0 := kz hfz fR0
 replace fR1 := kz hfz fR1
 replace nR0 := Lib.hid e0
 replace nR1 := Lib.hid e1
 clear hk hfz hW e0 e1
 go_wp2_with fail
 have e0 := nR0.out
 have e1 := nR1.out
 refine bodyPost_ret (v := .agg #[.int .i64 o1, .int .i64 o2]) (by simp [results, Try.results23, go_sem, e0, e1]) rfl ?_
 replace KT := Lib.hid (KT.out.trans0 kq4.out)
 replace KT := Lib.hid (KT.out.trans kq5.out (fun x hx hlt => by simp at hx; omega))
 exact ⟨rfl, KT.out⟩

set_option maxHeartbeats 8000000 in
set_option maxRecDepth 20000 in
theorem sMetresOf_any (P : Int) (p q : Bool) (a b : Option Addr) (n c m d : Nat) (xs ys : List Int) (w : World) (h1 : Sl w a n c xs) (h2 : Sl w b m d ys) :
  Calls Try.prog 12 #[.int .i64 P, .agg #[.bool p, .slice a n c, .bool q, .slice b m d]] w (Ans w (.agg #[.int .i64 (metC P p xs q ys), .int .i64 (metL P p xs q ys), .int .i64 (metH P p xs q ys)])) := by
 by_cases hz : farC P 4 p xs q ys = 0
 ·by_cases hn0 : p = true
  ·skip
   obtain ⟨e1, e2, e3⟩ := met_neg hz hn0
   rw [e1, e2, e3]
   have ea := h1.1
   have eb := h2.1
   have H1 := Lib.hid h1
   have H2 := Lib.hid h2
   have F1 := Lib.hid h1.lt
   have F2 := Lib.hid h2.lt
   have HF := Lib.hid hz
   have HN := Lib.hid hn0
   clear h1 h2 hz hn0 e1 e2 e3 ea eb
   go_enter Try.func12, Try.ntmps12
   go_wp2_with fail
   generalize hW : ((w.alloc (.cells #[.bool p, .slice a n c, .bool q, .slice b m d] 43)).alloc (.cells #[.int .i64 0, .int .i64 0, .int .i64 0] 39)) = ww0
   have hkk : Kept [] ((w.alloc (.cells #[.bool p, .slice a n c, .bool q, .slice b m d] 43)).alloc (.cells #[.int .i64 0, .int .i64 0, .int .i64 0] 39)) ww0 := by rw [hW]; exact Kept.refl _ _
   have zzA : w.heap.size + 1 + 1 = ww0.heap.size := by rw [← hW]; simp
   obtain ⟨⟨nA0, nA1, nA2, nA3⟩, _⟩ := tp4 hkk.peel (g := w.heap.size) (by simp) (by simp)
   obtain ⟨⟨nR0, nR1, nR2⟩, fR0, fR1, fR2⟩ := tp3 hkk (g := w.heap.size + 1) (by simp) (by simp)
   have hk := hkk.peel.peel
   clear hkk hW
   have z0 := hk.size
   have kq1 := Lib.hid hk
   have KT := kq1
   clear hk
   replace H1 := Lib.hid (H1.out.kept0 KT.out)
   replace H2 := Lib.hid (H2.out.kept0 KT.out)
   have tA0 := nA0.out
   have tA1 := nA1.out
   have tA2 := nA2.out
   have tA3 := nA3.out
   go_wp2_with fail
   clear tA0 tA1 tA2 tA3
   refine (l4Asked_any P 4 _ _ _ _ _ _ _ _ _ _ _ H1.out H2.out (by omega) (by omega)).mono ?_
   intro e v1 hh; obtain ⟨hh, hk1⟩ := hh; subst hh
   have hk := hk1
   have z1 := hk.size
   have kq2 := Lib.hid hk
   clear hk
   rw [HF.out]
   have hn := HN.out
   replace nA0 := kc kq2.out nA0
   have tA0 := nA0.out
   replace nA1 := kc kq2.out nA1
   have tA1 := nA1.out
   replace nA2 := kc kq2.out nA2
   have tA2 := nA2.out
   replace nA3 := kc kq2.out nA3
   have tA3 := nA3.out
   replace fR0 := kf kq2.out nR0 fR0
   replace nR0 := kc kq2.out nR0
   have tR0 := nR0.out
   replace fR1 := kf kq2.out nR1 fR1
   replace nR1 := kc kq2.out nR1
   have tR1 := nR1.out
   replace fR2 := kf kq2.out nR2 fR2
   replace nR2 := kc kq2.out nR2
   have tR2 := nR2.out
   have uR0 := fR0.out
   have uR1 := fR1.out
   have uR2 := fR2.out
   go_wp2_with fail
   clear hn tA0 tA1 tA2 tA3 tR0 tR1 tR2 uR0 uR1 uR2
   generalize hW : (((v1.setCell ⟨w.heap.size + 1, 0, none⟩ (.int .i64 3)).setCell ⟨w.heap.size + 1, 1, none⟩ (.int .i64 0)).setCell ⟨w.heap.size + 1, 2, none⟩ (.int .i64 0)) = ww2
   have hk : Kept [w.heap.size + 1] v1 ww2 := by rw [← hW]; exact (((Kept.refl _ _).setCell _ _ (by simp)).setCell _ _ (by simp)).setCell _ _ (by simp)
   have hfz : ∀ x, ww2.frozen? x = v1.frozen? x := by rw [← hW]; intro x; simp only [World.frozen?_setCell]
   have e0 : ww2.cell? ⟨w.heap.size + 1, 0, none⟩ = some (.int .i64 3) := by rw [← hW]; rw [World.cell?_setCell_other _ _ _ _ (by simp), World.cell?_setCell_other _ _ _ _ (by simp)]; exact World.cell?_setCell_same _ _ _ (by exact nR0.out)
   have e1 : ww2.cell? ⟨w.heap.size + 1, 1, none⟩ = some (.int .i64 0) := by rw [← hW]; rw [World.cell?_setCell_other _ _ _ _ (by simp)]; exact World.cell?_setCell_same _ _ _ (by rw [World.cell?_setCell_other _ _ _ _ (by simp)]; exact nR1.out)
   have e2 : ww2.cell? ⟨w.heap.size + 1, 2, none⟩ = some (.int .i64 0) := by rw [← hW]; exact World.cell?_setCell_same _ _ _ (by rw [World.cell?_setCell_other _ _ _ _ (by simp), World.cell?_setCell_other _ _ _ _ (by simp)]; exact nR2.out)
   have z2 := hk.size
   have kq3 := Lib.hid hk
   have hz3 := Lib.hid hfz
   replace fR0 := kz hfz fR0
   replace fR1 := kz hfz fR1
   replace fR2 := kz hfz fR2
   replace nR0 := Lib.hid e0
   replace nR1 := Lib.hid e1
   replace nR2 := Lib.hid e2
   clear hk hfz hW e0 e1 e2
   have e0 := nR0.out
   have e1 := nR1.out
   have e2 := nR2.out
   refine bodyPost_ret (v := .agg #[.int .i64 3, .int .i64 0, .int .i64 0]) (by simp [results, Try.results12, go_sem, e0, e1, e2]) rfl ?_
   replace KT := Lib.hid (KT.out.trans0 kq2.out)
   replace KT := Lib.hid (KT.out.trans kq3.out (fun x hx hlt => by simp at hx; omega))
   exact ⟨rfl, KT.out⟩
  ·obtain ⟨hP, hf0⟩ := precS_zero (farC_pre9 hz)
   obtain ⟨k, rfl, hk96, hk16⟩ := isP_nat hP
   obtain ⟨x1, x2, rfl, rfl, rfl, rfl, fx⟩ := ok_letters (spanFault_zero hf0)
   have ea := h1.1
   have eb := h2.1
   subst ea eb
   have hn : isNeg x1 = false := by simpa using hn0
   clear hn0
   obtain ⟨e1, e2, e3⟩ := met_ok hz hn
   rw [e1, e2, e3]
   have hin := far_in9 fx.1 (farC_pre9 hz) hz
   have i1 : -(4 * p2 k) ≤ x1 := hin.1
   have i2 : x1 ≤ x2 := hin.2.1
   have i3 : x2 ≤ 4 * p2 k := hin.2.2
   obtain ⟨u1, hu1⟩ : ∃ u, u = wayF k x1 := ⟨_, rfl⟩
   obtain ⟨u2, hu2⟩ : ∃ u, u = wayC k x2 := ⟨_, rfl⟩
   rw [← hu1, ← hu2]
   have H1 := Lib.hid h1
   have H2 := Lib.hid h2
   have F1 := Lib.hid h1.lt
   have F2 := Lib.hid h2.lt
   have HF := Lib.hid hz
   have HP := Lib.hid hP
   have HN := Lib.hid hn
   have HU1 := Lib.hid hu1
   have HU2 := Lib.hid hu2
   have I1 := Lib.hid i1
   have I2 := Lib.hid i2
   have I3 := Lib.hid i3
   clear h1 h2 hz hP hn hf0 hin hu1 hu2 i1 i2 i3 e1 e2 e3 fx
   go_enter Try.func12, Try.ntmps12
   go_wp2_with fail
   generalize hW : ((w.alloc (.cells #[.bool (isNeg x1), .slice a (mag x1).length c, .bool (isNeg x2), .slice b (mag x2).length d] 43)).alloc (.cells #[.int .i64 0, .int .i64 0, .int .i64 0] 39)) = ww0
   have hkk : Kept [] ((w.alloc (.cells #[.bool (isNeg x1), .slice a (mag x1).length c, .bool (isNeg x2), .slice b (mag x2).length d] 43)).alloc (.cells #[.int .i64 0, .int .i64 0, .int .i64 0] 39)) ww0 := by rw [hW]; exact Kept.refl _ _
   have zzA : w.heap.size + 1 + 1 = ww0.heap.size := by rw [← hW]; simp
   obtain ⟨⟨nA0, nA1, nA2, nA3⟩, _⟩ := tp4 hkk.peel (g := w.heap.size) (by simp) (by simp)
   obtain ⟨⟨nR0, nR1, nR2⟩, fR0, fR1, fR2⟩ := tp3 hkk (g := w.heap.size + 1) (by simp) (by simp)
   have hk := hkk.peel.peel
   clear hkk hW
   have z0 := hk.size
   have kq1 := Lib.hid hk
   have KT := kq1
   clear hk
   replace H1 := Lib.hid (H1.out.kept0 KT.out)
   replace H2 := Lib.hid (H2.out.kept0 KT.out)
   have tA0 := nA0.out
   have tA1 := nA1.out
   have tA2 := nA2.out
   have tA3 := nA3.out
   go_wp2_with fail
   clear tA0 tA1 tA2 tA3
   refine (l4Asked_any (k : Int) 4 _ _ _ _ _ _ _ _ _ _ _ H1.out H2.out (by omega) (by omega)).mono ?_
   intro e v1 hh; obtain ⟨hh, hk1⟩ := hh; subst hh
   have hk := hk1
   have z1 := hk.size
   have kq2 := Lib.hid hk
   clear hk
   rw [HF.out]
   have hn := HN.out
   replace nA0 := kc kq2.out nA0
   have tA0 := nA0.out
   replace nA1 := kc kq2.out nA1
   have tA1 := nA1.out
   replace nA2 := kc kq2.out nA2
   have tA2 := nA2.out
   replace nA3 := kc kq2.out nA3
   have tA3 := nA3.out
   go_upto_region 6 with fail
   clear hn tA0 tA1 tA2 tA3
   have tA0 := nA0.out
   have tA1 := nA1.out
   have tA2 := nA2.out
   have tA3 := nA3.out
   go_wp2_with fail
   clear tA0 tA1 tA2 tA3
   replace H1 := Lib.hid (H1.out.kept0 kq2.out)
   replace H2 := Lib.hid (H2.out.kept0 kq2.out)
   refine (l5Metres_any k x1 x2 _ _ _ _ _ H1.out H2.out HP.out I1.out I2.out I3.out).mono ?_
   intro e v2 hh; obtain ⟨hh, hk2⟩ := hh; subst hh
   have hk := hk2
   have z2 := hk.size
   have kq3 := Lib.hid hk
   clear hk
   rw [← HU1.out, ← HU2.out]
   have kj1 := Lib.hid (kq2.out.trans0 kq3.out)
   replace fR0 := kf kj1.out nR0 fR0
   replace nR0 := kc kj1.out nR0
   have tR0 := nR0.out
   replace fR1 := kf kj1.out nR1 fR1
   replace nR1 := kc kj1.out nR1
   have tR1 := nR1.out
   replace fR2 := kf kj1.out nR2 fR2
   replace nR2 := kc kj1.out nR2
   have tR2 := nR2.out
   have uR0 := fR0.out
   have uR1 := fR1.out
   have uR2 := fR2.out
   go_wp2_with fail
   clear tR0 tR1 tR2 uR0 uR1 uR2
   generalize hW : (((v2.setCell ⟨w.heap.size + 1, 0, none⟩ (.int .i64 0)).setCell ⟨w.heap.size + 1, 1, none⟩ (.int .i64 u1)).setCell ⟨w.heap.size + 1, 2, none⟩ (.int .i64 u2)) = ww3
   have hk : Kept [w.heap.size + 1] v2 ww3 := by rw [← hW]; exact (((Kept.refl _ _).setCell _ _ (by simp)).setCell _ _ (by simp)).setCell _ _ (by simp)
   have hfz : ∀ x, ww3.frozen? x = v2.frozen? x := by rw [← hW]; intro x; simp only [World.frozen?_setCell]
   have e0 : ww3.cell? ⟨w.heap.size + 1, 0, none⟩ = some (.int .i64 0) := by rw [← hW]; rw [World.cell?_setCell_other _ _ _ _ (by simp), World.cell?_setCell_other _ _ _ _ (by simp)]; exact World.cell?_setCell_same _ _ _ (by exact nR0.out)
   have e1 : ww3.cell? ⟨w.heap.size + 1, 1, none⟩ = some (.int .i64 u1) := by rw [← hW]; rw [World.cell?_setCell_other _ _ _ _ (by simp)]; exact World.cell?_setCell_same _ _ _ (by rw [World.cell?_setCell_other _ _ _ _ (by simp)]; exact nR1.out)
   have e2 : ww3.cell? ⟨w.heap.size + 1, 2, none⟩ = some (.int .i64 u2) := by rw [← hW]; exact World.cell?_setCell_same _ _ _ (by rw [World.cell?_setCell_other _ _ _ _ (by simp), World.cell?_setCell_other _ _ _ _ (by simp)]; exact nR2.out)
   have z3 := hk.size
   have kq4 := Lib.hid hk
   have hz4 := Lib.hid hfz
   replace fR0 := kz hfz fR0
   replace fR1 := kz hfz fR1
   replace fR2 := kz hfz fR2
   replace nR0 := Lib.hid e0
   replace nR1 := Lib.hid e1
   replace nR2 := Lib.hid e2
   clear hk hfz hW e0 e1 e2
   have e0 := nR0.out
   have e1 := nR1.out
   have e2 := nR2.out
   refine bodyPost_ret (v := .agg #[.int .i64 0, .int .i64 u1, .int .i64 u2]) (by simp [results, Try.results12, go_sem, e0, e1, e2]) rfl ?_
   replace KT := Lib.hid (KT.out.trans0 kj1.out)
   replace KT := Lib.hid (KT.out.trans kq4.out (fun x hx hlt => by simp at hx; omega))
   exact ⟨rfl, KT.out⟩
 ·skip
  obtain ⟨e1, e2, e3⟩ := met_bad hz
  rw [e1, e2, e3]
  obtain ⟨f, hf⟩ : ∃ f, farC P 4 p xs q ys = f := ⟨_, rfl⟩
  rw [hf] at hz ⊢
  have hne : (f == 0) = false := by rw [beq_eq_false_iff_ne]; exact hz
  have ea := h1.1
  have eb := h2.1
  have H1 := Lib.hid h1
  have H2 := Lib.hid h2
  have F1 := Lib.hid h1.lt
  have F2 := Lib.hid h2.lt
  have HF := Lib.hid hf
  clear h1 h2 hz hf e1 e2 e3 ea eb
  go_enter Try.func12, Try.ntmps12
  go_wp2_with fail
  generalize hW : ((w.alloc (.cells #[.bool p, .slice a n c, .bool q, .slice b m d] 43)).alloc (.cells #[.int .i64 0, .int .i64 0, .int .i64 0] 39)) = ww0
  have hkk : Kept [] ((w.alloc (.cells #[.bool p, .slice a n c, .bool q, .slice b m d] 43)).alloc (.cells #[.int .i64 0, .int .i64 0, .int .i64 0] 39)) ww0 := by rw [hW]; exact Kept.refl _ _
  have zzA : w.heap.size + 1 + 1 = ww0.heap.size := by rw [← hW]; simp
  obtain ⟨⟨nA0, nA1, nA2, nA3⟩, _⟩ := tp4 hkk.peel (g := w.heap.size) (by simp) (by simp)
  obtain ⟨⟨nR0, nR1, nR2⟩, fR0, fR1, fR2⟩ := tp3 hkk (g := w.heap.size + 1) (by simp) (by simp)
  have hk := hkk.peel.peel
  clear hkk hW
  have z0 := hk.size
  have kq1 := Lib.hid hk
  have KT := kq1
  clear hk
  replace H1 := Lib.hid (H1.out.kept0 KT.out)
  replace H2 := Lib.hid (H2.out.kept0 KT.out)
  have tA0 := nA0.out
  have tA1 := nA1.out
  have tA2 := nA2.out
  have tA3 := nA3.out
  go_wp2_with fail
  clear tA0 tA1 tA2 tA3
  refine (l4Asked_any P 4 _ _ _ _ _ _ _ _ _ _ _ H1.out H2.out (by omega) (by omega)).mono ?_
  intro e v1 hh; obtain ⟨hh, hk1⟩ := hh; subst hh
  have hk := hk1
  have z1 := hk.size
  have kq2 := Lib.hid hk
  clear hk
  rw [HF.out]
  replace fR0 := kf kq2.out nR0 fR0
  replace nR0 := kc kq2.out nR0
  have tR0 := nR0.out
  replace fR1 := kf kq2.out nR1 fR1
  replace nR1 := kc kq2.out nR1
  have tR1 := nR1.out
  replace fR2 := kf kq2.out nR2 fR2
  replace nR2 := kc kq2.out nR2
  have tR2 := nR2.out
  have uR0 := fR0.out
  have uR1 := fR1.out
  have uR2 := fR2.out
  go_wp2_with fail
  clear tR0 tR1 tR2 uR0 uR1 uR2
  generalize hW : (((v1.setCell ⟨w.heap.size + 1, 0, none⟩ (.int .i64 f)).setCell ⟨w.heap.size + 1, 1, none⟩ (.int .i64 0)).setCell ⟨w.heap.size + 1, 2, none⟩ (.int .i64 0)) = ww2
  have hk : Kept [w.heap.size + 1] v1 ww2 := by rw [← hW]; exact (((Kept.refl _ _).setCell _ _ (by simp)).setCell _ _ (by simp)).setCell _ _ (by simp)
  have hfz : ∀ x, ww2.frozen? x = v1.frozen? x := by rw [← hW]; intro x; simp only [World.frozen?_setCell]
  have e0 : ww2.cell? ⟨w.heap.size + 1, 0, none⟩ = some (.int .i64 f) := by rw [← hW]; rw [World.cell?_setCell_other _ _ _ _ (by simp), World.cell?_setCell_other _ _ _ _ (by simp)]; exact World.cell?_setCell_same _ _ _ (by exact nR0.out)
  have e1 : ww2.cell? ⟨w.heap.size + 1, 1, none⟩ = some (.int .i64 0) := by rw [← hW]; rw [World.cell?_setCell_other _ _ _ _ (by simp)]; exact World.cell?_setCell_same _ _ _ (by rw [World.cell?_setCell_other _ _ _ _ (by simp)]; exact nR1.out)
  have e2 : ww2.cell? ⟨w.heap.size + 1, 2, none⟩ = some (.int .i64 0) := by rw [← hW]; exact World.cell?_setCell_same _ _ _ (by rw [World.cell?_setCell_other _ _ _ _ (by simp), World.cell?_setCell_other _ _ _ _ (by simp)]; exact nR2.out)
  have z2 := hk.size
  have kq3 := Lib.hid hk
  have hz3 := Lib.hid hfz
  replace fR0 := kz hfz fR0
  replace fR1 := kz hfz fR1
  replace fR2 := kz hfz fR2
  replace nR0 := Lib.hid e0
  replace nR1 := Lib.hid e1
  replace nR2 := Lib.hid e2
  clear hk hfz hW e0 e1 e2
  have e0 := nR0.out
  have e1 := nR1.out
  have e2 := nR2.out
  refine bodyPost_ret (v := .agg #[.int .i64 f, .int .i64 0, .int .i64 0]) (by simp [results, Try.results12, go_sem, e0, e1, e2]) rfl ?_
  replace KT := Lib.hid (KT.out.trans0 kq2.out)
  replace KT := Lib.hid (KT.out.trans kq3.out (fun x hx hlt => by simp at hx; omega))
  exact ⟨rfl, KT.out⟩

end Go.Proofs.Ytfafjijoeanbhaa
