/-
  Joined texts.
-/
import Derived.Deep.RegionHeld3
import Derived.Deep.DrawnRows
import Derived.Deep.DeepCutAuto
import Derived.Test.YtfafjijoeanbhaaGreatJ5
import Derived.Test.YtfafjijoeanbhaaGreatSpanG
import Derived.Test.YtfafjijoeanbhaaGreatJ4
import Derived.Test.YtfafjijoeanbhaaGreatSpanV
import Derived.Test.YtfafjijoeanbhaaGreatJ1
import Derived.Test.YtfafjijoeanbhaaGreatSpanM
namespace Go.Proofs.YtfafjijoeanbhaaGreat
open Go.RowKit

theorem l2Floor_z (p q : Bool) (a b : Option Addr) (n c m d : Nat) (xs ys : List Int) (z : Int) (w : World) (h : Sl w a n c xs) (h' : Sl w b m d ys) (hx : Nat40 xs) (hy : Nat40 ys) (hy0 : ys.length ≠ 0) (hz : z = divZ false p q (val xs) (val ys)) :
  Calls Tryz.prog 157 #[.agg #[.bool p, .slice a n c], .agg #[.bool q, .slice b m d]] w (BigV w.heap.size w z) := by
 subst hz; exact l2Floor_any _ _ _ _ _ _ _ _ _ _ _ h h' hx hy hy0
theorem l2Ceil_z (p q : Bool) (a b : Option Addr) (n c m d : Nat) (xs ys : List Int) (z : Int) (w : World) (h : Sl w a n c xs) (h' : Sl w b m d ys) (hx : Nat40 xs) (hy : Nat40 ys) (hy0 : ys.length ≠ 0) (hz : z = divZ true p q (val xs) (val ys)) :
  Calls Tryz.prog 158 #[.agg #[.bool p, .slice a n c], .agg #[.bool q, .slice b m d]] w (BigV w.heap.size w z) := by
 subst hz; exact l2Ceil_any _ _ _ _ _ _ _ _ _ _ _ h h' hx hy hy0
theorem l2Big_u (b : Bool) (a : Option Addr) (n c : Nat) (v u : Int) (w : World) (hv : 0 ≤ v) (hu : u = sg b v) (hn : (digits v).length = n) :
  Calls Tryz.prog 155 #[.bool b, .slice a n c] w (Val w (.agg #[.bool (isNeg u), .slice a n c])) := by
 subst hu; exact l2Big_any _ _ _ _ _ _ hv hn
/-- A new box with a big, its limbs in new memory. -/
def BoxN (w0 : World) (u : Int) (s : Value) (w : World) : Prop :=
 ∃ g a c, s = .pointer (some ⟨g, 0, none⟩) ∧ w.cell? ⟨g, 0, none⟩ = some (.bool (isNeg u)) ∧ w.cell? ⟨g, 1, none⟩ = some (.slice a (mag u).length c) ∧ w0.heap.size ≤ g ∧ g < w.heap.size ∧ Sl w a (mag u).length c (mag u) ∧ Fr w0.heap.size a (mag u).length ∧ Kept [] w0 w
theorem boxN_last {W v : World} {B : Nat} {u : Int} {a : Option Addr} {c : Nat} {T : TypeId} (hB : W.heap.size ≤ B) (hS : Sl v a (mag u).length c (mag u)) (hF : Fr B a (mag u).length) (hk : Hid (Kept [] W v)) :
  BoxN W u (.pointer (some ⟨v.heap.size, 0, none⟩)) (v.alloc (.cells #[.bool (isNeg u), .slice a (mag u).length c] T)) :=
 ⟨v.heap.size, a, c, rfl, by rw [World.cell?_alloc_new]; rfl, by rw [World.cell?_alloc_new]; rfl, hk.out.size, by simp, hS.kept0 ((Kept.refl [] v).alloc _), hF.mono hB, hk.out.alloc _⟩
theorem Kept.set2n {W w2 : World} {g : Nat} {v1 v2 : Value} (h : Hid (Kept [] W w2)) (hg : W.heap.size ≤ g) : Hid (Kept [] W ((w2.setCell ⟨g, 0, none⟩ v1).setCell ⟨g, 1, none⟩ v2)) :=
 Lib.hid ((h.out.setCell _ _ (by simp; omega)).setCell _ _ (by simp; omega))
theorem boxN_set {W v : World} {g : Nat} {u : Int} {a : Option Addr} {c : Nat} {x0 x1 : Value} (hg : W.heap.size ≤ g) (hne : 0 < (mag u).length → ∀ x, a = some x → x.block ≠ g) (hF : Fr W.heap.size a (mag u).length) (hS : Sl v a (mag u).length c (mag u))
  (h0 : v.cell? ⟨g, 0, none⟩ = some x0) (h1 : v.cell? ⟨g, 1, none⟩ = some x1) (hk : Hid (Kept [] W v)) :
  BoxN W u (.pointer (some ⟨g, 0, none⟩)) ((v.setCell ⟨g, 0, none⟩ (.bool (isNeg u))).setCell ⟨g, 1, none⟩ (.slice a (mag u).length c)) := by
 obtain ⟨_, e0, e1⟩ := cells2 (.bool (isNeg u)) (.slice a (mag u).length c) h0 h1
 have hlt := World.block_lt_of_cell? v _ h0
 have hq := (Kept.set2 (v1 := .bool (isNeg u)) (v2 := .slice a (mag u).length c) (Lib.hid (Kept.refl [g] v))).out
 exact ⟨g, a, c, rfl, e0, e1, hg, Nat.lt_of_lt_of_le hlt hq.size, hS.kept hq (fun hn x hx => by have := hne hn x hx; simpa using this), hF, (Kept.set2n hk hg).out⟩

theorem Kept.drewAllocH' {L : List Nat} {W w : World} {o : Obj} (h : Hid (Kept L W w)) : Hid (Kept L W (w.alloc o).drew) := Lib.hid ((h.out.alloc o).drew)
theorem Kept.drewH' {L : List Nat} {W w : World} (h : Hid (Kept L W w)) : Hid (Kept L W w.drew) := Lib.hid h.out.drew
set_option maxHeartbeats 8000000 in
set_option maxRecDepth 20000 in
theorem l3Rat_any (P : Int) (p q : Bool) (a b : Option Addr) (n c m d : Nat) (xs ys : List Int) (u t1 t2 : Int) (w : World) (h : Sl w a n c xs) (h' : Sl w b m d ys) (hP : isP P = true) (hx : BigOk p xs) (hy : BigOk q ys) (lx : xs.length ≤ 20) (hy0 : ys.length ≠ 0) (hul : (mag u).length ≤ 27) (hu : u = inU P p xs) (ht1 : t1 = divZ false (isNeg u) q (val (mag u)) (val ys)) (ht2 : t2 = divZ true (isNeg u) q (val (mag u)) (val ys)) :
  Calls Tryz.prog 89 #[.int .i64 P, .agg #[.bool p, .slice a n c], .agg #[.bool q, .slice b m d]] w (SpanV w t1 t2) := by
 have hm9 : mag u = digits (val xs * p2 P.toNat) := by rw [hu]; unfold inU sv; rw [show sg p (val xs) * p2 P.toNat = sg p (val xs * p2 P.toNat) by cases p <;> simp [sg, Int.neg_mul]]; exact mag_sg (Int.mul_nonneg (canon_nonneg hx.n40.canon).1 (by have := p2_pos P.toNat; omega))
 have hu9 : u = sg p (val xs * p2 P.toNat) := by rw [hu]; unfold inU sv; cases p <;> simp [sg, Int.neg_mul]
 have hv9 : 0 ≤ val xs * p2 P.toNat := Int.mul_nonneg (canon_nonneg hx.n40.canon).1 (by have := p2_pos P.toNat; omega)
 obtain ⟨v, hv⟩ : ∃ v, v = val xs * p2 P.toNat := ⟨_, rfl⟩
 rw [← hv] at hm9 hu9 hv9
 have HS := Lib.hid h
 have HS' := Lib.hid h'
 have FS := Lib.hid h.lt
 have FS' := Lib.hid h'.lt
 have HM := Lib.hid hm9
 have HUU := Lib.hid hu9
 have HV9 := Lib.hid hv9
 have HV := Lib.hid hv
 have HX := Lib.hid hx.n40
 have HY := Lib.hid hy.n40
 have HY0 := Lib.hid hy0
 have HP := Lib.hid hP
 have HT1 := Lib.hid ht1
 have HT2 := Lib.hid ht2
 have HUO := Lib.hid (bigOk_of (z := u) (by omega)).n40
 clear h h' hm9 hu9 hv9 hv hu hx hy hy0 hP ht1 ht2
 go_enter Tryz.func89, Tryz.ntmps89
 go_upto_region 1 with fail
 generalize hW : (((w.alloc (.cells #[.bool p, .slice a n c] 24)).alloc (.cells #[.bool q, .slice b m d] 24)).alloc (.cells #[.bool false, .slice none 0 0, .bool false, .slice none 0 0] 26)) = ww0
 have hkk : Kept [] (((w.alloc (.cells #[.bool p, .slice a n c] 24)).alloc (.cells #[.bool q, .slice b m d] 24)).alloc (.cells #[.bool false, .slice none 0 0, .bool false, .slice none 0 0] 26)) ww0 := by rw [hW]; exact Kept.refl _ _
 have zzA : w.heap.size + 1 + 1 + 1 = ww0.heap.size := by rw [← hW]; simp
 obtain ⟨⟨nA0, nA1⟩, _⟩ := tp2 hkk.peel.peel (g := w.heap.size) (by simp) (by simp)
 obtain ⟨⟨nB0, nB1⟩, _⟩ := tp2 hkk.peel (g := w.heap.size + 1) (by simp) (by simp)
 obtain ⟨⟨nR0, nR1, nR2, nR3⟩, fR0, fR1, fR2, fR3⟩ := tp4 hkk (g := w.heap.size + 1 + 1) (by simp) (by simp)
 have hk := hkk.peel.peel.peel
 clear hkk hW
 have z0 := hk.size
 have KT := Lib.hid hk
 clear hk
 replace HS := Lib.hid (HS.out.kept0 KT.out)
 replace HS' := Lib.hid (HS'.out.kept0 KT.out)
 have tA0 := nA0.out
 have tA1 := nA1.out
 have kr := Lib.hid (Kept.refl [] ww0)
 go_cut [7] (fun s wx => Hid (BoxN ww0 u s wx))
 case first =>
  go_region_held3 (fun w' => w'.cell? ⟨w.heap.size, 0, none⟩ = some (.bool p) ∧ w'.cell? ⟨w.heap.size, 1, none⟩ = some (.slice a n c) ∧ Hid (Kept [] ww0 w'))
   ((go_split_ands; (try refine ⟨?_, ?_, ?_⟩) <;> with_reducible first | assumption | exact Kept.set2n (by assumption) (by omega) | exact cell_set2 (by assumption) (by (try dsimp only); omega) | exact drew_alloc_cell (by assumption) | exact drew_cell (by assumption) | exact alloc_cell (by assumption) | exact Lib.hid (Kept.trans0 (Hid.out (by assumption)) (by assumption)) | exact Kept.cell (by assumption) (by assumption) (by simp) | exact Kept.allocH (by assumption) | exact Kept.drewAllocH' (by assumption) | exact Kept.drewH' (by assumption)))
   (first
    | (go_at_call 156; go_split_ands; refine (l3Shift_any _ _ _ _ _ _ HP.out (HS.out.kept0 (Hid.out (by assumption))) HX.out lx).mono ?_; rintro e v1 ⟨v9, rfl, ho, hk1⟩; rw [← HV.out, ← HM.out] at ho; obtain ⟨a9, c9, rfl, hs9, hf9⟩ := ho.sl; have zk1 := hk1.size; (try simp only [World.size_drew] at zk1 hf9); (try simp only [World.size_alloc] at zk1); (first | (obtain ⟨z0_, y0_, _⟩ := hk1.undrew.top (g := ww0.heap.size) rfl (by simp) 0 (v := .bool false) rfl; obtain ⟨z1_, y1_, _⟩ := hk1.undrew.top (g := ww0.heap.size) rfl (by simp) 1 (v := .slice none 0 0) rfl) | skip))
    | (go_at_call 155; go_split_ands; refine (l2Big_u _ _ _ _ v u _ HV9.out HUU.out (by rw [HM.out])).mono ?_; rintro e v2 ⟨rfl, hk2⟩; have zk2 := hk2.size; (try simp only [World.size_alloc] at zk2); have sck := Lib.hid (Kept.trans0 (Hid.out (by assumption : Hid (Kept [] ww0 _))) hk2); have sc0 : v2.cell? ⟨w.heap.size, 0, none⟩ = some (.bool p) := hk2.cell (by assumption) (by simp); have sc1 : v2.cell? ⟨w.heap.size, 1, none⟩ = some (.slice a n c) := hk2.cell (by assumption) (by simp); have hs8 := (show Sl _ a9 (mag u).length c9 (mag u) by first | exact hs9 | exact hs9.kept0 ((Kept.refl [] _).alloc _)).kept0 hk2; (first | (obtain ⟨z0_, y0_, _⟩ := hk2.top (g := v1.heap.size) rfl (by simp) 0 (v := .bool false) rfl; obtain ⟨z1_, y1_, _⟩ := hk2.top (g := v1.heap.size) rfl (by simp) 1 (v := .slice none 0 0) rfl) | (replace y0_ := hk2.free' z0_ y0_ (by simp); replace y1_ := hk2.free' z1_ y1_ (by simp); replace z0_ := hk2.cell z0_ (by simp); replace z1_ := hk2.cell z1_ (by simp)) | skip)))
  all_goals
   go_wp2_with fail
   go_meet
   first | (with_reducible refine Lib.hid (boxN_last ?_ hs8 hf9 sck); omega) | (with_reducible refine Lib.hid (boxN_set ?_ ?_ (hf9.mono ?_) hs8 z0_ z1_ sck); omega; (intro hn x hx; unfold Fr at hf9; have h1 := hf9 hn x hx; have h2 := hs9.lt hn x hx; (try simp only [World.size_alloc] at h1); omega); (try simp only [World.size_alloc]); omega)
 case rest =>
 have hc := hcut.out
 clear hcut kr tA0 tA1
 obtain ⟨g1, a1, c1, rfl, e0, e1, hg1, hgl1, hs, hf, hk⟩ := hc
 obtain ⟨ww1, rfl⟩ : ∃ w' : World, w' = wc := ⟨_, rfl⟩
 have SU := Lib.hid hs
 have GU := Lib.hid (hf.mono (B' := w.heap.size + 1 + 1 + 1) (by omega))
 clear hs hf
 have z1 := hk.size
 replace fR0 := kf hk nR0 fR0
 replace fR1 := kf hk nR1 fR1
 replace fR2 := kf hk nR2 fR2
 replace fR3 := kf hk nR3 fR3
 replace nA0 := kc hk nA0
 replace nA1 := kc hk nA1
 replace nB0 := kc hk nB0
 replace nB1 := kc hk nB1
 replace nR0 := kc hk nR0
 replace nR1 := kc hk nR1
 replace nR2 := kc hk nR2
 replace nR3 := kc hk nR3
 replace HS := Lib.hid (HS.out.kept0 hk)
 replace HS' := Lib.hid (HS'.out.kept0 hk)
 replace KT := Lib.hid (KT.out.trans0 hk)
 clear hk
 have nU0 := Lib.hid e0
 have nU1 := Lib.hid e1
 clear e0 e1
 have tU0 := nU0.out
 have tU1 := nU1.out
 have tB0 := nB0.out
 have tB1 := nB1.out
 go_wp2_with fail
 clear tU0 tU1 tB0 tB1
 have tU0 := nU0.out
 have tU1 := nU1.out
 have tB0 := nB0.out
 have tB1 := nB1.out
 go_region_held3 (fun w' => w'.cell? ⟨g1, 0, none⟩ = some (.bool (isNeg u)) ∧ w'.cell? ⟨g1, 1, none⟩ = some (.slice a1 (mag u).length c1) ∧ w'.cell? ⟨w.heap.size + 1, 0, none⟩ = some (.bool q) ∧ w'.cell? ⟨w.heap.size + 1, 1, none⟩ = some (.slice b m d) ∧ Hid (Kept [w.heap.size + 1 + 1] ww1 w'))
  ((go_split_ands; (try refine ⟨?_, ?_, ?_, ?_, ?_⟩) <;> with_reducible first | exact Kept.set4 (by assumption) | exact cell_set4 (by assumption) (by simp <;> omega) | exact Lib.hid ((Kept.refl _ _).drew) | exact drew_cell (by assumption) | exact Kept.allocH (by assumption) | exact alloc_cell (by assumption) | exact Lib.hid (Kept.trans0 (Hid.out (by assumption)) (by assumption)) | exact Kept.cell (by assumption) (by assumption) (by simp)))
  (first
   | (go_at_call 157; go_split_ands; refine (l2Floor_z _ _ _ _ _ _ _ _ _ _ _ _ (SU.out.kept0 ((Kept.refl [] _).drew)) (HS'.out.kept0 ((Kept.refl [] _).drew)) HUO.out HY.out HY0.out HT1.out).mono ?_; rintro e v1 ⟨a3, c3, rfl, hs1, hf1, hk1⟩)
   | (go_at_call 158; go_split_ands; refine (l2Ceil_z _ _ _ _ _ _ _ _ _ _ _ _ (SU.out.kept0 (((Kept.refl [] _).drew).trans0 hk1)) (HS'.out.kept0 (((Kept.refl [] _).drew).trans0 hk1)) HUO.out HY.out HY0.out HT2.out).mono ?_; rintro e v2 ⟨a4, c4, rfl, hs2, hf2, hk2⟩; have hs1 := hs1.kept0 hk2; have z12 := hk1.size; simp only [World.size_drew] at hf1 z12; have hkr := (((Kept.refl [] ww1).drew).trans0 hk1).trans0 hk2; have rg0 := hkr.cell (p := ⟨w.heap.size + 1 + 1, 0, none⟩) nR0.out (by simp); have rg1 := hkr.cell (p := ⟨w.heap.size + 1 + 1, 1, none⟩) nR1.out (by simp); have rg2 := hkr.cell (p := ⟨w.heap.size + 1 + 1, 2, none⟩) nR2.out (by simp); have rg3 := hkr.cell (p := ⟨w.heap.size + 1 + 1, 3, none⟩) nR3.out (by simp); have ru0 := hkr.free' (p := ⟨w.heap.size + 1 + 1, 0, none⟩) nR0.out fR0.out (by simp); have ru1 := hkr.free' (p := ⟨w.heap.size + 1 + 1, 1, none⟩) nR1.out fR1.out (by simp); have ru2 := hkr.free' (p := ⟨w.heap.size + 1 + 1, 2, none⟩) nR2.out fR2.out (by simp); have ru3 := hkr.free' (p := ⟨w.heap.size + 1 + 1, 3, none⟩) nR3.out fR3.out (by simp)))
 clear tU0 tU1 tB0 tB1
 have hk := hkr
 clear hkr
 have z2 := hk.size
 replace fR0 := kf hk nR0 fR0
 replace fR1 := kf hk nR1 fR1
 replace fR2 := kf hk nR2 fR2
 replace fR3 := kf hk nR3 fR3
 replace nA0 := kc hk nA0
 replace nA1 := kc hk nA1
 replace nB0 := kc hk nB0
 replace nB1 := kc hk nB1
 replace nR0 := kc hk nR0
 replace nR1 := kc hk nR1
 replace nR2 := kc hk nR2
 replace nR3 := kc hk nR3
 replace HS := Lib.hid (HS.out.kept0 hk)
 replace HS' := Lib.hid (HS'.out.kept0 hk)
 replace nU0 := kc hk nU0
 replace nU1 := kc hk nU1
 replace SU := Lib.hid (SU.out.kept0 hk)
 replace KT := Lib.hid (KT.out.trans0 hk)
 clear hk
 have hs1 := Lib.hid hs1
 have hs2 := Lib.hid hs2
 have G1 := Lib.hid (hf1.mono (B' := w.heap.size + 1 + 1 + 1) (by omega))
 have G2 := Lib.hid (hf2.mono (B' := w.heap.size + 1 + 1 + 1) (by omega))
 clear hf1 hf2
 obtain ⟨p9, hp9⟩ : ∃ r, r = isNeg t1 := ⟨_, rfl⟩
 obtain ⟨q9, hq9⟩ : ∃ r, r = isNeg t2 := ⟨_, rfl⟩
 rw [← hp9, ← hq9]
 generalize hW : ((((v2.setCell ⟨w.heap.size + 1 + 1, 0, none⟩ (.bool p9)).setCell ⟨w.heap.size + 1 + 1, 1, none⟩ (.slice a3 (mag t1).length c3)).setCell ⟨w.heap.size + 1 + 1, 2, none⟩ (.bool q9)).setCell ⟨w.heap.size + 1 + 1, 3, none⟩ (.slice a4 (mag t2).length c4)) = ww3
 have hk : Kept [w.heap.size + 1 + 1] v2 ww3 := by rw [← hW]; exact ((((Kept.refl _ _).setCell _ _ (by simp)).setCell _ _ (by simp)).setCell _ _ (by simp)).setCell _ _ (by simp)
 have hfz : ∀ x, ww3.frozen? x = v2.frozen? x := by rw [← hW]; intro x; simp only [World.frozen?_setCell]
 obtain ⟨e0, e1, e2, e3⟩ := st4 hW.symm nR0.out nR1.out nR2.out nR3.out
 have z3 := hk.size
 replace fR0 := kz hfz fR0
 replace fR1 := kz hfz fR1
 replace fR2 := kz hfz fR2
 replace fR3 := kz hfz fR3
 replace nA0 := kd hk nA0 (by simp <;> omega)
 replace nA1 := kd hk nA1 (by simp <;> omega)
 replace nB0 := kd hk nB0 (by simp <;> omega)
 replace nB1 := kd hk nB1 (by simp <;> omega)
 replace HS := Lib.hid (HS.out.kept hk (fun hn y hy hm => by have h9 := FS.out hn y hy; simp at hm; omega))
 replace HS' := Lib.hid (HS'.out.kept hk (fun hn y hy hm => by have h9 := FS'.out hn y hy; simp at hm; omega))
 replace nU0 := kd hk nU0 (by simp <;> omega)
 replace nU1 := kd hk nU1 (by simp <;> omega)
 replace SU := Lib.hid (SU.out.kept hk (fun hn y hy hm => by have h9 := GU.out hn y hy; simp at hm; omega))
 replace hs1 := Lib.hid (hs1.out.kept hk (fun hn y hy hm => by have h9 := G1.out hn y hy; simp at hm; omega))
 replace hs2 := Lib.hid (hs2.out.kept hk (fun hn y hy hm => by have h9 := G2.out hn y hy; simp at hm; omega))
 replace nR0 := Lib.hid e0
 replace nR1 := Lib.hid e1
 replace nR2 := Lib.hid e2
 replace nR3 := Lib.hid e3
 replace KT := Lib.hid (KT.out.trans hk (fun x hx hlt => by simp at hx; omega))
 clear hk hfz hW e0 e1 e2 e3
 have HP9 := Lib.hid hp9
 have HQ9 := Lib.hid hq9
 clear hp9 hq9
 go_wp2_with fail
 have e0 := nR0.out
 have e1 := nR1.out
 have e2 := nR2.out
 have e3 := nR3.out
 refine bodyPost_ret (v := .agg #[.bool p9, .slice a3 (mag t1).length c3, .bool q9, .slice a4 (mag t2).length c4]) (by simp [results, Tryz.results89, go_sem, e0, e1, e2, e3]) rfl ?_
 exact spanV_fin HP9.out HQ9.out hs1.out hs2.out (G1.out.mono (by omega)) (G2.out.mono (by omega)) KT.out

end Go.Proofs.YtfafjijoeanbhaaGreat
namespace Go.Proofs.YtfafjijoeanbhaaGreat
open Go.RowKit

set_option maxHeartbeats 4000000 in
set_option maxRecDepth 20000 in
theorem l3Down_any (P : Int) (a : Option Addr) (n c : Nat) (z t : Int) (w : World) (hP : isP P = true) (h : Sl w a n c (mag z)) (hl : (mag z).length ≤ 40) (ht : t = outZ false z P.toNat) :
  Calls Tryz.prog 107 #[.int .i64 P, .agg #[.bool (isNeg z), .slice a n c]] w (BigV w.heap.size w t) := by
 obtain ⟨X, hX⟩ : ∃ X, X = val (mag z) := ⟨_, rfl⟩
 have hv9 : val (digits (p2 P.toNat)) = p2 P.toNat := val_digits' (by have := p2_pos P.toNat; omega)
 have hx0 : 0 ≤ X := by rw [hX]; exact val_mag_nonneg z
 have hd0 : 0 ≤ X / p2 P.toNat := Int.ediv_nonneg hx0 (by have := p2_pos P.toNat; omega)
 have hd1 : X / p2 P.toNat ≤ X := Int.ediv_le_self _ hx0
 have hXl : (digits X).length ≤ 40 := by rw [hX, digits_val (mag_canon z)]; exact hl
 have HS := Lib.hid h
 have FS := Lib.hid h.lt
 have HP := Lib.hid hP
 have HN := Lib.hid (bigOk_of hl).n40
 have HX := Lib.hid hX.symm
 clear h hP hl hx0
 by_cases hneg : isNeg z = true
 ·by_cases hr : X % p2 P.toNat ≠ 0
  ·skip
   rw [hneg]
   obtain ⟨q9, hq9⟩ : ∃ q9, q9 = X / p2 P.toNat + 1 := ⟨_, rfl⟩
   have HT := Lib.hid (show t = sg true q9 by rw [ht, hq9]; unfold outZ divZ; rw [hneg, hv9, ← hX, if_pos ⟨hr, by simp⟩]; rfl)
   have HQ := Lib.hid (show 0 ≤ q9 by rw [hq9]; omega)
   have HL := Lib.hid (show decide (X % p2 P.toNat ≠ 0) = true from decide_eq_true hr)
   have hq8 : q9 = val (digits (X / p2 P.toNat)) + val [1] := by rw [val_digits' hd0, hq9]; rfl
   have HQ8 := Lib.hid hq8
   have HAL := Lib.hid (canon_digits' (X / p2 P.toNat))
   have hdl : (digits (X / p2 P.toNat)).length ≤ 40 := Nat.le_trans (digits_len_mono hd1) hXl
   clear hq8
   clear hneg hq9 ht hv9 hd0 hd1 hX hr hXl
   go_enter Tryz.func107, Tryz.ntmps107
   go_wp2_with fail
   generalize hW : ((w.alloc (.cells #[.bool true, .slice a n c] 24)).alloc (.cells #[.bool false, .slice none 0 0] 24)) = ww0
   have hkk : Kept [] ((w.alloc (.cells #[.bool true, .slice a n c] 24)).alloc (.cells #[.bool false, .slice none 0 0] 24)) ww0 := by rw [hW]; exact Kept.refl _ _
   have zzA : w.heap.size + 1 + 1 = ww0.heap.size := by rw [← hW]; simp
   obtain ⟨⟨nA0, nA1⟩, _⟩ := tp2 hkk.peel (g := w.heap.size) (by simp) (by simp)
   obtain ⟨⟨nR0, nR1⟩, fR0, fR1⟩ := tp2 hkk (g := w.heap.size + 1) (by simp) (by simp)
   have hk := hkk.peel.peel
   clear hkk hW
   have z0 := hk.size
   have KT := Lib.hid hk
   clear hk
   replace HS := Lib.hid (HS.out.kept0 KT.out)
   refine (l3Drop_any P _ _ _ _ _ HP.out HS.out HN.out).mono ?_
   rintro e ww1 ⟨v9, rfl, ho, hk⟩
   rw [HX.out] at ho ⊢
   rw [HL.out]
   obtain ⟨a9, c9, rfl, hs9, hf9⟩ := ho.sl
   have S9 := Lib.hid hs9
   have G9 := Lib.hid (hf9.mono (B' := w.heap.size + 1 + 1) (by omega))
   clear ho hs9 hf9
   have z1 := hk.size
   replace fR0 := kf hk nR0 fR0
   replace fR1 := kf hk nR1 fR1
   replace nA0 := kc hk nA0
   replace nA1 := kc hk nA1
   replace nR0 := kc hk nR0
   replace nR1 := kc hk nR1
   replace HS := Lib.hid (HS.out.kept0 hk)
   replace KT := Lib.hid (KT.out.trans0 hk)
   clear hk
   have tA0 := nA0.out
   have tA1 := nA1.out
   go_wp2_with fail
   clear tA0 tA1
   refine (l1Add_any _ _ _ _ _ _ _ _ _ (S9.out.rd.kept0 ((Kept.refl [] _).alloc _)) (rd_row1 _ (by simp)) HAL.out (canon_of_get [1] (fun i hi => by have e9 : i = 0 := (by simpa using hi); subst e9; simp) (by simp)) (by omega) (by simp)).mono ?_
   rintro e ww2 ⟨v8, rfl, ho8, hk8⟩
   rw [← HQ8.out] at ho8
   have hk := Kept.trans0 ((Kept.refl [] _).alloc _) hk8
   obtain ⟨a8, c8, rfl, hs8, hf8⟩ := ho8.sl
   have S8 := Lib.hid hs8
   have G8 := Lib.hid (hf8.mono (B' := w.heap.size + 1 + 1) (by simp; omega))
   clear ho8 hs8 hf8 hk8
   have z2 := hk.size
   replace fR0 := kf hk nR0 fR0
   replace fR1 := kf hk nR1 fR1
   replace nA0 := kc hk nA0
   replace nA1 := kc hk nA1
   replace nR0 := kc hk nR0
   replace nR1 := kc hk nR1
   replace HS := Lib.hid (HS.out.kept0 hk)
   replace S9 := Lib.hid (S9.out.kept0 hk)
   replace KT := Lib.hid (KT.out.trans0 hk)
   clear hk
   have tA0 := nA0.out
   have tA1 := nA1.out
   go_wp2_with fail
   clear tA0 tA1
   refine (l2Big_u true _ _ _ q9 t _ (by have := HQ.out; omega) HT.out rfl).mono ?_
   rintro e ww3 ⟨rfl, hk⟩
   have z3 := hk.size
   replace fR0 := kf hk nR0 fR0
   replace fR1 := kf hk nR1 fR1
   replace nA0 := kc hk nA0
   replace nA1 := kc hk nA1
   replace nR0 := kc hk nR0
   replace nR1 := kc hk nR1
   replace HS := Lib.hid (HS.out.kept0 hk)
   replace S9 := Lib.hid (S9.out.kept0 hk)
   replace S8 := Lib.hid (S8.out.kept0 hk)
   replace KT := Lib.hid (KT.out.trans0 hk)
   clear hk
   have tR0 := nR0.out
   have tR1 := nR1.out
   have uR0 := fR0.out
   have uR1 := fR1.out
   go_wp2_with fail
   clear tR0 tR1 uR0 uR1
   generalize hW : ((ww3.setCell ⟨w.heap.size + 1, 0, none⟩ (.bool (isNeg t))).setCell ⟨w.heap.size + 1, 1, none⟩ (.slice a8 (digits q9).length c8)) = ww4
   have hk : Kept [w.heap.size + 1] ww3 ww4 := by rw [← hW]; exact ((Kept.refl _ _).setCell _ _ (by simp)).setCell _ _ (by simp)
   have hfz : ∀ x, ww4.frozen? x = ww3.frozen? x := by rw [← hW]; intro x; simp only [World.frozen?_setCell]
   obtain ⟨e0, e1⟩ := st2 hW.symm nR0.out nR1.out
   have z4 := hk.size
   replace fR0 := kz hfz fR0
   replace fR1 := kz hfz fR1
   replace nA0 := kd hk nA0 (by simp <;> omega)
   replace nA1 := kd hk nA1 (by simp <;> omega)
   replace HS := Lib.hid (HS.out.kept hk (fun hn y hy hm => by have h9 := FS.out hn y hy; simp at hm; omega))
   replace S9 := Lib.hid (S9.out.kept hk (fun hn y hy hm => by have h9 := G9.out hn y hy; simp at hm; omega))
   replace S8 := Lib.hid (S8.out.kept hk (fun hn y hy hm => by have h9 := G8.out hn y hy; simp at hm; omega))
   replace nR0 := Lib.hid e0
   replace nR1 := Lib.hid e1
   replace KT := Lib.hid (KT.out.trans hk (fun x hx hlt => by simp at hx; omega))
   clear hk hfz hW e0 e1
   have hm9 : mag t = digits q9 := by rw [HT.out]; exact mag_sg HQ.out
   have e0 := nR0.out
   have e1 := nR1.out
   refine bodyPost_ret (v := .agg #[.bool (isNeg t), .slice a8 (digits q9).length c8]) (by simp [results, Tryz.results107, go_sem, e0, e1]) rfl ?_
   exact ⟨a8, c8, by rw [hm9], by rw [hm9]; exact S8.out, by rw [hm9]; exact G8.out.mono (by omega), KT.out⟩
  ·skip
   rw [hneg]
   obtain ⟨q9, hq9⟩ : ∃ q9, q9 = X / p2 P.toNat := ⟨_, rfl⟩
   have HT := Lib.hid (show t = sg true q9 by rw [ht, hq9]; unfold outZ divZ; rw [hneg, hv9, ← hX, if_neg (fun h => h.1 (by simpa using hr))]; rfl)
   have HQ := Lib.hid (show 0 ≤ q9 by rw [hq9]; omega)
   have HL := Lib.hid (show decide (X % p2 P.toNat ≠ 0) = false from decide_eq_false hr)
   have HQ9 := Lib.hid hq9.symm
   clear hneg hq9 ht hv9 hd0 hd1 hX hr hXl
   go_enter Tryz.func107, Tryz.ntmps107
   go_wp2_with fail
   generalize hW : ((w.alloc (.cells #[.bool true, .slice a n c] 24)).alloc (.cells #[.bool false, .slice none 0 0] 24)) = ww0
   have hkk : Kept [] ((w.alloc (.cells #[.bool true, .slice a n c] 24)).alloc (.cells #[.bool false, .slice none 0 0] 24)) ww0 := by rw [hW]; exact Kept.refl _ _
   have zzA : w.heap.size + 1 + 1 = ww0.heap.size := by rw [← hW]; simp
   obtain ⟨⟨nA0, nA1⟩, _⟩ := tp2 hkk.peel (g := w.heap.size) (by simp) (by simp)
   obtain ⟨⟨nR0, nR1⟩, fR0, fR1⟩ := tp2 hkk (g := w.heap.size + 1) (by simp) (by simp)
   have hk := hkk.peel.peel
   clear hkk hW
   have z0 := hk.size
   have KT := Lib.hid hk
   clear hk
   replace HS := Lib.hid (HS.out.kept0 KT.out)
   refine (l3Drop_any P _ _ _ _ _ HP.out HS.out HN.out).mono ?_
   rintro e ww1 ⟨v9, rfl, ho, hk⟩
   rw [HX.out] at ho ⊢
   rw [HL.out]
   obtain ⟨a9, c9, rfl, hs9, hf9⟩ := ho.sl
   have S9 := Lib.hid hs9
   have G9 := Lib.hid (hf9.mono (B' := w.heap.size + 1 + 1) (by omega))
   clear ho hs9 hf9
   have z1 := hk.size
   replace fR0 := kf hk nR0 fR0
   replace fR1 := kf hk nR1 fR1
   replace nA0 := kc hk nA0
   replace nA1 := kc hk nA1
   replace nR0 := kc hk nR0
   replace nR1 := kc hk nR1
   replace HS := Lib.hid (HS.out.kept0 hk)
   replace KT := Lib.hid (KT.out.trans0 hk)
   clear hk
   rw [HQ9.out] at S9 G9 ⊢
   have tA0 := nA0.out
   have tA1 := nA1.out
   go_wp2_with fail
   clear tA0 tA1
   refine (l2Big_u true _ _ _ q9 t _ (by have := HQ.out; omega) HT.out rfl).mono ?_
   rintro e ww2 ⟨rfl, hk⟩
   have z2 := hk.size
   replace fR0 := kf hk nR0 fR0
   replace fR1 := kf hk nR1 fR1
   replace nA0 := kc hk nA0
   replace nA1 := kc hk nA1
   replace nR0 := kc hk nR0
   replace nR1 := kc hk nR1
   replace HS := Lib.hid (HS.out.kept0 hk)
   replace S9 := Lib.hid (S9.out.kept0 hk)
   replace KT := Lib.hid (KT.out.trans0 hk)
   clear hk
   have tR0 := nR0.out
   have tR1 := nR1.out
   have uR0 := fR0.out
   have uR1 := fR1.out
   go_wp2_with fail
   clear tR0 tR1 uR0 uR1
   generalize hW : ((ww2.setCell ⟨w.heap.size + 1, 0, none⟩ (.bool (isNeg t))).setCell ⟨w.heap.size + 1, 1, none⟩ (.slice a9 (digits q9).length c9)) = ww3
   have hk : Kept [w.heap.size + 1] ww2 ww3 := by rw [← hW]; exact ((Kept.refl _ _).setCell _ _ (by simp)).setCell _ _ (by simp)
   have hfz : ∀ x, ww3.frozen? x = ww2.frozen? x := by rw [← hW]; intro x; simp only [World.frozen?_setCell]
   obtain ⟨e0, e1⟩ := st2 hW.symm nR0.out nR1.out
   have z3 := hk.size
   replace fR0 := kz hfz fR0
   replace fR1 := kz hfz fR1
   replace nA0 := kd hk nA0 (by simp <;> omega)
   replace nA1 := kd hk nA1 (by simp <;> omega)
   replace HS := Lib.hid (HS.out.kept hk (fun hn y hy hm => by have h9 := FS.out hn y hy; simp at hm; omega))
   replace S9 := Lib.hid (S9.out.kept hk (fun hn y hy hm => by have h9 := G9.out hn y hy; simp at hm; omega))
   replace nR0 := Lib.hid e0
   replace nR1 := Lib.hid e1
   replace KT := Lib.hid (KT.out.trans hk (fun x hx hlt => by simp at hx; omega))
   clear hk hfz hW e0 e1
   have hm9 : mag t = digits q9 := by rw [HT.out]; exact mag_sg HQ.out
   have e0 := nR0.out
   have e1 := nR1.out
   refine bodyPost_ret (v := .agg #[.bool (isNeg t), .slice a9 (digits q9).length c9]) (by simp [results, Tryz.results107, go_sem, e0, e1]) rfl ?_
   exact ⟨a9, c9, by rw [hm9], by rw [hm9]; exact S9.out, by rw [hm9]; exact G9.out.mono (by omega), KT.out⟩
 ·have hneg' : isNeg z = false := by simpa using hneg
  rw [hneg']
  obtain ⟨q9, hq9⟩ : ∃ q9, q9 = X / p2 P.toNat := ⟨_, rfl⟩
  have HT := Lib.hid (show t = sg false q9 by rw [ht, hq9]; unfold outZ divZ; rw [hneg', hv9, ← hX, if_neg (fun h => h.2 rfl)]; rfl)
  have HQ := Lib.hid (show 0 ≤ q9 by rw [hq9]; omega)
  obtain ⟨l9, hl9⟩ : ∃ l, l = decide (X % p2 P.toNat ≠ 0) := ⟨_, rfl⟩
  have HL := Lib.hid hl9.symm
  clear hl9
  have HQ9 := Lib.hid hq9.symm
  clear hneg hq9 hneg' ht hv9 hd0 hd1 hX hXl
  go_enter Tryz.func107, Tryz.ntmps107
  go_wp2_with fail
  generalize hW : ((w.alloc (.cells #[.bool false, .slice a n c] 24)).alloc (.cells #[.bool false, .slice none 0 0] 24)) = ww0
  have hkk : Kept [] ((w.alloc (.cells #[.bool false, .slice a n c] 24)).alloc (.cells #[.bool false, .slice none 0 0] 24)) ww0 := by rw [hW]; exact Kept.refl _ _
  have zzA : w.heap.size + 1 + 1 = ww0.heap.size := by rw [← hW]; simp
  obtain ⟨⟨nA0, nA1⟩, _⟩ := tp2 hkk.peel (g := w.heap.size) (by simp) (by simp)
  obtain ⟨⟨nR0, nR1⟩, fR0, fR1⟩ := tp2 hkk (g := w.heap.size + 1) (by simp) (by simp)
  have hk := hkk.peel.peel
  clear hkk hW
  have z0 := hk.size
  have KT := Lib.hid hk
  clear hk
  replace HS := Lib.hid (HS.out.kept0 KT.out)
  refine (l3Drop_any P _ _ _ _ _ HP.out HS.out HN.out).mono ?_
  rintro e ww1 ⟨v9, rfl, ho, hk⟩
  rw [HX.out] at ho ⊢
  rw [HL.out]
  obtain ⟨a9, c9, rfl, hs9, hf9⟩ := ho.sl
  have S9 := Lib.hid hs9
  have G9 := Lib.hid (hf9.mono (B' := w.heap.size + 1 + 1) (by omega))
  clear ho hs9 hf9
  have z1 := hk.size
  replace fR0 := kf hk nR0 fR0
  replace fR1 := kf hk nR1 fR1
  replace nA0 := kc hk nA0
  replace nA1 := kc hk nA1
  replace nR0 := kc hk nR0
  replace nR1 := kc hk nR1
  replace HS := Lib.hid (HS.out.kept0 hk)
  replace KT := Lib.hid (KT.out.trans0 hk)
  clear hk
  rw [HQ9.out] at S9 G9 ⊢
  have tA0 := nA0.out
  have tA1 := nA1.out
  go_wp2_with fail
  clear tA0 tA1
  refine (l2Big_u false _ _ _ q9 t _ (by have := HQ.out; omega) HT.out rfl).mono ?_
  rintro e ww2 ⟨rfl, hk⟩
  have z2 := hk.size
  replace fR0 := kf hk nR0 fR0
  replace fR1 := kf hk nR1 fR1
  replace nA0 := kc hk nA0
  replace nA1 := kc hk nA1
  replace nR0 := kc hk nR0
  replace nR1 := kc hk nR1
  replace HS := Lib.hid (HS.out.kept0 hk)
  replace S9 := Lib.hid (S9.out.kept0 hk)
  replace KT := Lib.hid (KT.out.trans0 hk)
  clear hk
  have tR0 := nR0.out
  have tR1 := nR1.out
  have uR0 := fR0.out
  have uR1 := fR1.out
  go_wp2_with fail
  clear tR0 tR1 uR0 uR1
  generalize hW : ((ww2.setCell ⟨w.heap.size + 1, 0, none⟩ (.bool (isNeg t))).setCell ⟨w.heap.size + 1, 1, none⟩ (.slice a9 (digits q9).length c9)) = ww3
  have hk : Kept [w.heap.size + 1] ww2 ww3 := by rw [← hW]; exact ((Kept.refl _ _).setCell _ _ (by simp)).setCell _ _ (by simp)
  have hfz : ∀ x, ww3.frozen? x = ww2.frozen? x := by rw [← hW]; intro x; simp only [World.frozen?_setCell]
  obtain ⟨e0, e1⟩ := st2 hW.symm nR0.out nR1.out
  have z3 := hk.size
  replace fR0 := kz hfz fR0
  replace fR1 := kz hfz fR1
  replace nA0 := kd hk nA0 (by simp <;> omega)
  replace nA1 := kd hk nA1 (by simp <;> omega)
  replace HS := Lib.hid (HS.out.kept hk (fun hn y hy hm => by have h9 := FS.out hn y hy; simp at hm; omega))
  replace S9 := Lib.hid (S9.out.kept hk (fun hn y hy hm => by have h9 := G9.out hn y hy; simp at hm; omega))
  replace nR0 := Lib.hid e0
  replace nR1 := Lib.hid e1
  replace KT := Lib.hid (KT.out.trans hk (fun x hx hlt => by simp at hx; omega))
  clear hk hfz hW e0 e1
  have hm9 : mag t = digits q9 := by rw [HT.out]; exact mag_sg HQ.out
  have e0 := nR0.out
  have e1 := nR1.out
  refine bodyPost_ret (v := .agg #[.bool (isNeg t), .slice a9 (digits q9).length c9]) (by simp [results, Tryz.results107, go_sem, e0, e1]) rfl ?_
  exact ⟨a9, c9, by rw [hm9], by rw [hm9]; exact S9.out, by rw [hm9]; exact G9.out.mono (by omega), KT.out⟩

set_option maxHeartbeats 4000000 in
set_option maxRecDepth 20000 in
theorem l3Up_any (P : Int) (a : Option Addr) (n c : Nat) (z t : Int) (w : World) (hP : isP P = true) (h : Sl w a n c (mag z)) (hl : (mag z).length ≤ 40) (ht : t = outZ true z P.toNat) :
  Calls Tryz.prog 109 #[.int .i64 P, .agg #[.bool (isNeg z), .slice a n c]] w (BigV w.heap.size w t) := by
 have hz1 : sg (isNeg z) (val (mag z)) = z := sv_mag z
 have hmn : mag (-z) = mag z := mag_neg z
 obtain ⟨y, hy⟩ : ∃ y, y = -z := ⟨_, rfl⟩
 obtain ⟨t9, ht9⟩ : ∃ t9, t9 = outZ false y P.toNat := ⟨_, rfl⟩
 have htt : t = -t9 := by rw [ht, ht9, hy]; unfold outZ; rw [hmn]; have h9 := divZ_ceil (p := isNeg z) (q := false) (Y := val (digits (p2 P.toNat))) (mag_canon z); rw [sv_mag] at h9; exact h9.symm
 have HZ1 := Lib.hid hz1
 have HY := Lib.hid hy
 have HMY := Lib.hid (show mag y = mag z by rw [hy]; exact hmn)
 have HS := Lib.hid h
 have FS := Lib.hid h.lt
 have HP := Lib.hid hP
 have HT9 := Lib.hid ht9
 have HTT := Lib.hid htt
 have HLN := Lib.hid (show (mag z).length = n from h.1)
 clear h hP hz1 hmn hy ht9 htt ht
 go_enter Tryz.func109, Tryz.ntmps109
 go_wp2_with fail
 generalize hW : ((w.alloc (.cells #[.bool (isNeg z), .slice a n c] 24)).alloc (.cells #[.bool false, .slice none 0 0] 24)) = ww0
 have hkk : Kept [] ((w.alloc (.cells #[.bool (isNeg z), .slice a n c] 24)).alloc (.cells #[.bool false, .slice none 0 0] 24)) ww0 := by rw [hW]; exact Kept.refl _ _
 have zzA : w.heap.size + 1 + 1 = ww0.heap.size := by rw [← hW]; simp
 obtain ⟨⟨nA0, nA1⟩, _⟩ := tp2 hkk.peel (g := w.heap.size) (by simp) (by simp)
 obtain ⟨⟨nR0, nR1⟩, fR0, fR1⟩ := tp2 hkk (g := w.heap.size + 1) (by simp) (by simp)
 have hk := hkk.peel.peel
 clear hkk hW
 have z0 := hk.size
 have KT := Lib.hid hk
 clear hk
 replace HS := Lib.hid (HS.out.kept0 KT.out)
 refine (l2Neg_any _ _ _ z _ _ HZ1.out HLN.out).mono ?_
 rintro e ww1 ⟨rfl, hk⟩
 rw [← HY.out]
 have z1 := hk.size
 replace fR0 := kf hk nR0 fR0
 replace fR1 := kf hk nR1 fR1
 replace nA0 := kc hk nA0
 replace nA1 := kc hk nA1
 replace nR0 := kc hk nR0
 replace nR1 := kc hk nR1
 replace HS := Lib.hid (HS.out.kept0 hk)
 replace KT := Lib.hid (KT.out.trans0 hk)
 clear hk
 go_wp2_with fail
 refine (l3Down_any P _ _ _ y t9 _ HP.out (by rw [HMY.out]; exact HS.out) (by rw [HMY.out]; exact hl) HT9.out).mono ?_
 rintro e ww2 ⟨a9, c9, rfl, hs9, hf9, hk⟩
 have S9 := Lib.hid hs9
 have G9 := Lib.hid (hf9.mono (B' := w.heap.size + 1 + 1) (by omega))
 clear hs9 hf9
 have z2 := hk.size
 replace fR0 := kf hk nR0 fR0
 replace fR1 := kf hk nR1 fR1
 replace nA0 := kc hk nA0
 replace nA1 := kc hk nA1
 replace nR0 := kc hk nR0
 replace nR1 := kc hk nR1
 replace HS := Lib.hid (HS.out.kept0 hk)
 replace KT := Lib.hid (KT.out.trans0 hk)
 clear hk
 go_wp2_with fail
 refine (l2Neg_any _ _ _ t9 _ _ (sv_mag t9) rfl).mono ?_
 rintro e ww3 ⟨rfl, hk⟩
 rw [← HTT.out]
 have z3 := hk.size
 replace fR0 := kf hk nR0 fR0
 replace fR1 := kf hk nR1 fR1
 replace nA0 := kc hk nA0
 replace nA1 := kc hk nA1
 replace nR0 := kc hk nR0
 replace nR1 := kc hk nR1
 replace HS := Lib.hid (HS.out.kept0 hk)
 replace S9 := Lib.hid (S9.out.kept0 hk)
 replace KT := Lib.hid (KT.out.trans0 hk)
 clear hk
 have tR0 := nR0.out
 have tR1 := nR1.out
 have uR0 := fR0.out
 have uR1 := fR1.out
 go_wp2_with fail
 clear tR0 tR1 uR0 uR1
 generalize hW : ((ww3.setCell ⟨w.heap.size + 1, 0, none⟩ (.bool (isNeg t))).setCell ⟨w.heap.size + 1, 1, none⟩ (.slice a9 (mag t9).length c9)) = ww4
 have hk : Kept [w.heap.size + 1] ww3 ww4 := by rw [← hW]; exact ((Kept.refl _ _).setCell _ _ (by simp)).setCell _ _ (by simp)
 have hfz : ∀ x, ww4.frozen? x = ww3.frozen? x := by rw [← hW]; intro x; simp only [World.frozen?_setCell]
 obtain ⟨e0, e1⟩ := st2 hW.symm nR0.out nR1.out
 have z4 := hk.size
 replace fR0 := kz hfz fR0
 replace fR1 := kz hfz fR1
 replace nA0 := kd hk nA0 (by simp <;> omega)
 replace nA1 := kd hk nA1 (by simp <;> omega)
 replace HS := Lib.hid (HS.out.kept hk (fun hn y hy hm => by have h9 := FS.out hn y hy; simp at hm; omega))
 replace S9 := Lib.hid (S9.out.kept hk (fun hn y hy hm => by have h9 := G9.out hn y hy; simp at hm; omega))
 replace nR0 := Lib.hid e0
 replace nR1 := Lib.hid e1
 replace KT := Lib.hid (KT.out.trans hk (fun x hx hlt => by simp at hx; omega))
 clear hk hfz hW e0 e1
 have hm9 : mag t = mag t9 := by rw [HTT.out]; exact mag_neg t9
 have e0 := nR0.out
 have e1 := nR1.out
 refine bodyPost_ret (v := .agg #[.bool (isNeg t), .slice a9 (mag t9).length c9]) (by simp [results, Tryz.results109, go_sem, e0, e1]) rfl ?_
 exact ⟨a9, c9, by rw [hm9], by rw [hm9]; exact S9.out, by rw [hm9]; exact G9.out.mono (by omega), KT.out⟩

end Go.Proofs.YtfafjijoeanbhaaGreat
namespace Go.Proofs.YtfafjijoeanbhaaGreat
open Go.RowKit

theorem pick4_lt {e f g h : BE} : (pickF ltZ e [f, g, h]).z = minZ (minZ (minZ e.z f.z) g.z) h.z := by
 have s : ∀ a b : BE, (if ltZ b.z a.z = true then b else a).z = minZ a.z b.z := fun a b => by
  unfold ltZ minZ
  by_cases h : b.z < a.z
  ·rw [if_pos (decide_eq_true h), if_pos h]
  ·rw [if_neg (by simpa using h), if_neg h]
 simp only [pickF]
 rw [s, s, s]
theorem pick4_gt {e f g h : BE} : (pickF gtZ e [f, g, h]).z = maxZ (maxZ (maxZ e.z f.z) g.z) h.z := by
 have s : ∀ a b : BE, (if gtZ b.z a.z = true then b else a).z = maxZ a.z b.z := fun a b => by
  unfold gtZ maxZ
  by_cases h : a.z < b.z
  ·rw [if_pos (decide_eq_true h), if_pos h]
  ·rw [if_neg (by simpa using h), if_neg h]
 simp only [pickF]
 rw [s, s, s]
/-- A big as a value, told by its number. -/
def bz (z : Int) (a : Option Addr) (c : Nat) : BE := ⟨isNeg z, a, (mag z).length, c, mag z⟩
theorem bz_z (z : Int) (a : Option Addr) (c : Nat) : (bz z a c).z = z := sv_mag z
/-- Block g holds four bigs, told by their numbers. -/
theorem rowB4_at {U W : World} {g : Nat} {z1 z2 z3 z4 : Int} {a1 a2 a3 a4 : Option Addr} {c1 c2 c3 c4 : Nat} {T : TypeId}
  (hW : W = U.alloc (.cells #[.bool (isNeg z1), .slice a1 (mag z1).length c1, .bool (isNeg z2), .slice a2 (mag z2).length c2, .bool (isNeg z3), .slice a3 (mag z3).length c3, .bool (isNeg z4), .slice a4 (mag z4).length c4] T)) (hg : g = U.heap.size) :
  RowB W g [bz z1 a1 c1, bz z2 a2 c2, bz z3 a3 c3, bz z4 a4 c4] := by
 subst hW hg
 intro j hj
 match j, hj with
 | 0, _ => exact ⟨by rw [World.cell?_alloc_new]; rfl, by rw [World.cell?_alloc_new]; rfl⟩
 | 1, _ => exact ⟨by rw [World.cell?_alloc_new]; rfl, by rw [World.cell?_alloc_new]; rfl⟩
 | 2, _ => exact ⟨by rw [World.cell?_alloc_new]; rfl, by rw [World.cell?_alloc_new]; rfl⟩
 | 3, _ => exact ⟨by rw [World.cell?_alloc_new]; rfl, by rw [World.cell?_alloc_new]; rfl⟩
theorem okB4 {w : World} {z1 z2 z3 z4 : Int} {a1 a2 a3 a4 : Option Addr} {c1 c2 c3 c4 : Nat} (h1 : Sl w a1 (mag z1).length c1 (mag z1)) (h2 : Sl w a2 (mag z2).length c2 (mag z2)) (h3 : Sl w a3 (mag z3).length c3 (mag z3)) (h4 : Sl w a4 (mag z4).length c4 (mag z4))
  (o1 : (mag z1).length ≤ 40) (o2 : (mag z2).length ≤ 40) (o3 : (mag z3).length ≤ 40) (o4 : (mag z4).length ≤ 40) : OkB w [bz z1 a1 c1, bz z2 a2 c2, bz z3 a3 c3, bz z4 a4 c4] := fun u hu => by
 rcases List.mem_cons.1 hu with rfl | hu
 ·exact ⟨h1, bigOk_of o1⟩
 ·rcases List.mem_cons.1 hu with rfl | hu
  ·exact ⟨h2, bigOk_of o2⟩
  ·rcases List.mem_cons.1 hu with rfl | hu
   ·exact ⟨h3, bigOk_of o3⟩
   ·rcases List.mem_cons.1 hu with rfl | hu
    ·exact ⟨h4, bigOk_of o4⟩
    ·cases hu
def min4 (a b c d : Int) : Int := minZ (minZ (minZ a b) c) d
def max4 (a b c d : Int) : Int := maxZ (maxZ (maxZ a b) c) d
theorem l3Least_four (g : Nat) (z1 z2 z3 z4 t : Int) (a1 a2 a3 a4 : Option Addr) (c1 c2 c3 c4 : Nat) (w : World) (h : RowB w g [bz z1 a1 c1, bz z2 a2 c2, bz z3 a3 c3, bz z4 a4 c4]) (ho : OkB w [bz z1 a1 c1, bz z2 a2 c2, bz z3 a3 c3, bz z4 a4 c4]) (ht : t = min4 z1 z2 z3 z4) :
  Calls Tryz.prog 153 #[.slice (some ⟨g, 0, none⟩) 4 4] w (BigV w.heap.size w t) := by
 have e := l3Least_any g (bz z1 a1 c1) [bz z2 a2 c2, bz z3 a3 c3, bz z4 a4 c4] w h ho (by simp)
 rw [pick4_lt, bz_z, bz_z, bz_z, bz_z] at e
 subst ht
 exact e
theorem l3Most_four (g : Nat) (z1 z2 z3 z4 t : Int) (a1 a2 a3 a4 : Option Addr) (c1 c2 c3 c4 : Nat) (w : World) (h : RowB w g [bz z1 a1 c1, bz z2 a2 c2, bz z3 a3 c3, bz z4 a4 c4]) (ho : OkB w [bz z1 a1 c1, bz z2 a2 c2, bz z3 a3 c3, bz z4 a4 c4]) (ht : t = max4 z1 z2 z3 z4) :
  Calls Tryz.prog 154 #[.slice (some ⟨g, 0, none⟩) 4 4] w (BigV w.heap.size w t) := by
 have e := l3Most_any g (bz z1 a1 c1) [bz z2 a2 c2, bz z3 a3 c3, bz z4 a4 c4] w h ho (by simp)
 rw [pick4_gt, bz_z, bz_z, bz_z, bz_z] at e
 subst ht
 exact e
theorem leastOf_isBelow_four (g : Nat) (z1 z2 z3 z4 t : Int) (a1 a2 a3 a4 : Option Addr) (c1 c2 c3 c4 : Nat) (w : World) (h : RowB w g [bz z1 a1 c1, bz z2 a2 c2, bz z3 a3 c3, bz z4 a4 c4]) (ho : OkB w [bz z1 a1 c1, bz z2 a2 c2, bz z3 a3 c3, bz z4 a4 c4]) (ht : t = min4 z1 z2 z3 z4) :
  Calls Tryz.prog 152 #[.func (.func 151) #[] #[], .slice (some ⟨g, 0, none⟩) 4 4] w (BigN w t) := by
 have e := leastOf_isBelow g (bz z1 a1 c1) [bz z2 a2 c2, bz z3 a3 c3, bz z4 a4 c4] w h ho (by simp)
 have hm : pickF ltZ (bz z1 a1 c1) [bz z2 a2 c2, bz z3 a3 c3, bz z4 a4 c4] ∈ [bz z1 a1 c1, bz z2 a2 c2, bz z3 a3 c3, bz z4 a4 c4] := by
  rcases pick_mem ltZ [bz z2 a2 c2, bz z3 a3 c3, bz z4 a4 c4] (bz z1 a1 c1) with h | h
  ·rw [h]; exact List.mem_cons_self
  ·exact List.mem_cons_of_mem _ h
 have hz' : t = (pickF ltZ (bz z1 a1 c1) [bz z2 a2 c2, bz z3 a3 c3, bz z4 a4 c4]).z := by rw [pick4_lt, bz_z, bz_z, bz_z, bz_z]; exact ht
 subst hz'
 exact e.mono fun e9 w9 h9 => bigN_of hm ho h9
theorem leastOf_isAbove_four (g : Nat) (z1 z2 z3 z4 t : Int) (a1 a2 a3 a4 : Option Addr) (c1 c2 c3 c4 : Nat) (w : World) (h : RowB w g [bz z1 a1 c1, bz z2 a2 c2, bz z3 a3 c3, bz z4 a4 c4]) (ho : OkB w [bz z1 a1 c1, bz z2 a2 c2, bz z3 a3 c3, bz z4 a4 c4]) (ht : t = max4 z1 z2 z3 z4) :
  Calls Tryz.prog 152 #[.func (.func 130) #[] #[], .slice (some ⟨g, 0, none⟩) 4 4] w (BigN w t) := by
 have e := leastOf_isAbove g (bz z1 a1 c1) [bz z2 a2 c2, bz z3 a3 c3, bz z4 a4 c4] w h ho (by simp)
 have hm : pickF gtZ (bz z1 a1 c1) [bz z2 a2 c2, bz z3 a3 c3, bz z4 a4 c4] ∈ [bz z1 a1 c1, bz z2 a2 c2, bz z3 a3 c3, bz z4 a4 c4] := by
  rcases pick_mem gtZ [bz z2 a2 c2, bz z3 a3 c3, bz z4 a4 c4] (bz z1 a1 c1) with h | h
  ·rw [h]; exact List.mem_cons_self
  ·exact List.mem_cons_of_mem _ h
 have hz' : t = (pickF gtZ (bz z1 a1 c1) [bz z2 a2 c2, bz z3 a3 c3, bz z4 a4 c4]).z := by rw [pick4_gt, bz_z, bz_z, bz_z, bz_z]; exact ht
 subst hz'
 exact e.mono fun e9 w9 h9 => bigN_of hm ho h9

end Go.Proofs.YtfafjijoeanbhaaGreat
