/-
  Contracts of the model's l3Rat and RatSpan. Conditions: the limbs read as lists of numbers.
-/
import Derived.Deep.RegionHeld3
import Derived.Deep.DrawnRows
import Derived.Deep.DeepCutAuto
import Derived.Test.YtfafjijoeanbhaaGreatJ5
import Derived.Test.YtfafjijoeanbhaaGreatSpanG
import Derived.Test.YtfafjijoeanbhaaGreatJ4
namespace Go.Proofs.YtfafjijoeanbhaaGreat
open Go.RowKit

theorem l2Floor_z (p q : Bool) (a b : Option Addr) (n c m d : Nat) (xs ys : List Int) (z : Int) (w : World) (h : Sl w a n c xs) (h' : Sl w b m d ys) (hx : Nat40 xs) (hy : Nat40 ys) (hy0 : ys.length ≠ 0) (hz : z = divZ false p q (val xs) (val ys)) :
    Calls Tryz.prog 157 #[.agg #[.bool p, .slice a n c], .agg #[.bool q, .slice b m d]] w (BigV w.heap.size w z) := by
  subst hz; exact l2Floor_any _ _ _ _ _ _ _ _ _ _ _ h h' hx hy hy0
theorem l2Ceil_z (p q : Bool) (a b : Option Addr) (n c m d : Nat) (xs ys : List Int) (z : Int) (w : World) (h : Sl w a n c xs) (h' : Sl w b m d ys) (hx : Nat40 xs) (hy : Nat40 ys) (hy0 : ys.length ≠ 0) (hz : z = divZ true p q (val xs) (val ys)) :
    Calls Tryz.prog 158 #[.agg #[.bool p, .slice a n c], .agg #[.bool q, .slice b m d]] w (BigV w.heap.size w z) := by
  subst hz; exact l2Ceil_any _ _ _ _ _ _ _ _ _ _ _ h h' hx hy hy0
theorem l2Big_u (b : Bool) (a : Option Addr) (n c : Nat) (v u : Int) (w : World) (hv : 0 ≤ v) (hu : u = sg b v) (hn : (digits v).length = n) :
    Calls Tryz.prog 155 #[.bool b, .slice a n c] w (Val w (.agg #[.bool (isNeg u), .slice a n c])) := by
  subst hu; exact l2Big_any _ _ _ _ _ _ hv hn
/-- A new box with a big, its limbs in new memory. -/
def BoxN (w0 : World) (u : Int) (s : Value) (w : World) : Prop :=
  ∃ g a c, s = .pointer (some ⟨g, 0, none⟩) ∧ w.cell? ⟨g, 0, none⟩ = some (.bool (isNeg u)) ∧ w.cell? ⟨g, 1, none⟩ = some (.slice a (mag u).length c) ∧ w0.heap.size ≤ g ∧ g < w.heap.size ∧ Sl w a (mag u).length c (mag u) ∧ Fr w0.heap.size a (mag u).length ∧ Kept [] w0 w
theorem boxN_last {W v : World} {B : Nat} {u : Int} {a : Option Addr} {c : Nat} {T : TypeId} (hB : W.heap.size ≤ B) (hS : Sl v a (mag u).length c (mag u)) (hF : Fr B a (mag u).length) (hk : Hid (Kept [] W v)) :
    BoxN W u (.pointer (some ⟨v.heap.size, 0, none⟩)) (v.alloc (.cells #[.bool (isNeg u), .slice a (mag u).length c] T)) :=
  ⟨v.heap.size, a, c, rfl, by rw [World.cell?_alloc_new]; rfl, by rw [World.cell?_alloc_new]; rfl, hk.out.size, by simp, hS.kept0 ((Kept.refl [] v).alloc _), hF.mono hB, hk.out.alloc _⟩
theorem Kept.set2n {W w2 : World} {g : Nat} {v1 v2 : Value} (h : Hid (Kept [] W w2)) (hg : W.heap.size ≤ g) : Hid (Kept [] W ((w2.setCell ⟨g, 0, none⟩ v1).setCell ⟨g, 1, none⟩ v2)) :=
  Lib.hid ((h.out.setCell _ _ (by simp; omega)).setCell _ _ (by simp; omega))
theorem boxN_set {W v : World} {g : Nat} {u : Int} {a : Option Addr} {c : Nat} {x0 x1 : Value} (hg : W.heap.size ≤ g) (hne : 0 < (mag u).length → ∀ x, a = some x → x.block ≠ g) (hF : Fr W.heap.size a (mag u).length) (hS : Sl v a (mag u).length c (mag u))
    (h0 : v.cell? ⟨g, 0, none⟩ = some x0) (h1 : v.cell? ⟨g, 1, none⟩ = some x1) (hk : Hid (Kept [] W v)) :
    BoxN W u (.pointer (some ⟨g, 0, none⟩)) ((v.setCell ⟨g, 0, none⟩ (.bool (isNeg u))).setCell ⟨g, 1, none⟩ (.slice a (mag u).length c)) := by
  obtain ⟨_, e0, e1⟩ := cells2 (.bool (isNeg u)) (.slice a (mag u).length c) h0 h1
  have hlt := World.block_lt_of_cell? v _ h0
  have hq := (Kept.set2 (v1 := .bool (isNeg u)) (v2 := .slice a (mag u).length c) (Lib.hid (Kept.refl [g] v))).out
  exact ⟨g, a, c, rfl, e0, e1, hg, Nat.lt_of_lt_of_le hlt hq.size, hS.kept hq (fun hn x hx => by have := hne hn x hx; simpa using this), hF, (Kept.set2n hk hg).out⟩

theorem Kept.drewAllocH' {L : List Nat} {W w : World} {o : Obj} (h : Hid (Kept L W w)) : Hid (Kept L W (w.alloc o).drew) := Lib.hid ((h.out.alloc o).drew)
theorem Kept.drewH' {L : List Nat} {W w : World} (h : Hid (Kept L W w)) : Hid (Kept L W w.drew) := Lib.hid h.out.drew
set_option maxHeartbeats 8000000 in
set_option maxRecDepth 20000 in
theorem l3Rat_any (P : Int) (p q : Bool) (a b : Option Addr) (n c m d : Nat) (xs ys : List Int) (u t1 t2 : Int) (w : World) (h : Sl w a n c xs) (h' : Sl w b m d ys) (hP : isP P = true) (hx : BigOk p xs) (hy : BigOk q ys) (lx : xs.length ≤ 20) (hy0 : ys.length ≠ 0) (hul : (mag u).length ≤ 27) (hu : u = inU P p xs) (ht1 : t1 = divZ false (isNeg u) q (val (mag u)) (val ys)) (ht2 : t2 = divZ true (isNeg u) q (val (mag u)) (val ys)) :
    Calls Tryz.prog 89 #[.int .i64 P, .agg #[.bool p, .slice a n c], .agg #[.bool q, .slice b m d]] w (SpanV w t1 t2) := by
  have hm9 : mag u = digits (val xs * p2 P.toNat) := by rw [hu]; unfold inU sv; rw [show sg p (val xs) * p2 P.toNat = sg p (val xs * p2 P.toNat) by cases p <;> simp [sg, Int.neg_mul]]; exact mag_sg (Int.mul_nonneg (canon_nonneg hx.n40.canon).1 (by have := p2_pos P.toNat; omega))
  have hu9 : u = sg p (val xs * p2 P.toNat) := by rw [hu]; unfold inU sv; cases p <;> simp [sg, Int.neg_mul]
  have hv9 : 0 ≤ val xs * p2 P.toNat := Int.mul_nonneg (canon_nonneg hx.n40.canon).1 (by have := p2_pos P.toNat; omega)
  obtain ⟨v, hv⟩ : ∃ v, v = val xs * p2 P.toNat := ⟨_, rfl⟩
  rw [← hv] at hm9 hu9 hv9
  have HS := Lib.hid h
  have HS' := Lib.hid h'
  have FS := Lib.hid h.lt
  have FS' := Lib.hid h'.lt
  have HM := Lib.hid hm9
  have HUU := Lib.hid hu9
  have HV9 := Lib.hid hv9
  have HV := Lib.hid hv
  have HX := Lib.hid hx.n40
  have HY := Lib.hid hy.n40
  have HY0 := Lib.hid hy0
  have HP := Lib.hid hP
  have HT1 := Lib.hid ht1
  have HT2 := Lib.hid ht2
  have HUO := Lib.hid (bigOk_of (z := u) (by omega)).n40
  clear h h' hm9 hu9 hv9 hv hu hx hy hy0 hP ht1 ht2
  go_enter Tryz.func89, Tryz.ntmps89
  go_upto_region 1 with fail
  generalize hW : (((w.alloc (.cells #[.bool p, .slice a n c] 24)).alloc (.cells #[.bool q, .slice b m d] 24)).alloc (.cells #[.bool false, .slice none 0 0, .bool false, .slice none 0 0] 26)) = ww0
  have hkk : Kept [] (((w.alloc (.cells #[.bool p, .slice a n c] 24)).alloc (.cells #[.bool q, .slice b m d] 24)).alloc (.cells #[.bool false, .slice none 0 0, .bool false, .slice none 0 0] 26)) ww0 := by rw [hW]; exact Kept.refl _ _
  have zzA : w.heap.size + 1 + 1 + 1 = ww0.heap.size := by rw [← hW]; simp
  have nA0 := Lib.hid (hkk.peel.peel.top (g := w.heap.size) (by simp) (by simp) 0 (v := .bool p) rfl).1
  have nA1 := Lib.hid (hkk.peel.peel.top (g := w.heap.size) (by simp) (by simp) 1 (v := .slice a n c) rfl).1
  have nB0 := Lib.hid (hkk.peel.top (g := w.heap.size + 1) (by simp) (by simp) 0 (v := .bool q) rfl).1
  have nB1 := Lib.hid (hkk.peel.top (g := w.heap.size + 1) (by simp) (by simp) 1 (v := .slice b m d) rfl).1
  have nR0 := Lib.hid (hkk.top (g := w.heap.size + 1 + 1) (by simp) (by simp) 0 (v := .bool false) rfl).1
  have fR0 := Lib.hid (hkk.top (g := w.heap.size + 1 + 1) (by simp) (by simp) 0 (v := .bool false) rfl).2.1
  have nR1 := Lib.hid (hkk.top (g := w.heap.size + 1 + 1) (by simp) (by simp) 1 (v := .slice none 0 0) rfl).1
  have fR1 := Lib.hid (hkk.top (g := w.heap.size + 1 + 1) (by simp) (by simp) 1 (v := .slice none 0 0) rfl).2.1
  have nR2 := Lib.hid (hkk.top (g := w.heap.size + 1 + 1) (by simp) (by simp) 2 (v := .bool false) rfl).1
  have fR2 := Lib.hid (hkk.top (g := w.heap.size + 1 + 1) (by simp) (by simp) 2 (v := .bool false) rfl).2.1
  have nR3 := Lib.hid (hkk.top (g := w.heap.size + 1 + 1) (by simp) (by simp) 3 (v := .slice none 0 0) rfl).1
  have fR3 := Lib.hid (hkk.top (g := w.heap.size + 1 + 1) (by simp) (by simp) 3 (v := .slice none 0 0) rfl).2.1
  have hk := hkk.peel.peel.peel
  clear hkk hW
  have z0 := hk.size
  have KT := Lib.hid hk
  clear hk
  replace HS := Lib.hid (HS.out.kept0 KT.out)
  replace HS' := Lib.hid (HS'.out.kept0 KT.out)
  have tA0 := nA0.out
  have tA1 := nA1.out
  have kr := Lib.hid (Kept.refl [] ww0)
  go_cut [7] (fun s wx => Hid (BoxN ww0 u s wx))
  case first =>
    go_region_held3 (fun w' => w'.cell? ⟨w.heap.size, 0, none⟩ = some (.bool p) ∧ w'.cell? ⟨w.heap.size, 1, none⟩ = some (.slice a n c) ∧ Hid (Kept [] ww0 w'))
      ((go_split_ands; (try refine ⟨?_, ?_, ?_⟩) <;> with_reducible first | assumption | exact Kept.set2n (by assumption) (by omega) | exact cell_set2 (by assumption) (by (try dsimp only); omega) | exact drew_alloc_cell (by assumption) | exact drew_cell (by assumption) | exact alloc_cell (by assumption) | exact Lib.hid (Kept.trans0 (Hid.out (by assumption)) (by assumption)) | exact Kept.cell (by assumption) (by assumption) (by simp) | exact Kept.allocH (by assumption) | exact Kept.drewAllocH' (by assumption) | exact Kept.drewH' (by assumption)))
      (first
        | (go_at_call 156; go_split_ands; refine (l3Shift_any _ _ _ _ _ _ HP.out (HS.out.kept0 (Hid.out (by assumption))) HX.out lx).mono ?_; rintro e v1 ⟨v9, rfl, ho, hk1⟩; rw [← HV.out, ← HM.out] at ho; obtain ⟨a9, c9, rfl, hs9, hf9⟩ := ho.sl; have zk1 := hk1.size; (try simp only [World.size_drew] at zk1 hf9); (try simp only [World.size_alloc] at zk1); (first | (obtain ⟨z0_, y0_, _⟩ := hk1.undrew.top (g := ww0.heap.size) rfl (by simp) 0 (v := .bool false) rfl; obtain ⟨z1_, y1_, _⟩ := hk1.undrew.top (g := ww0.heap.size) rfl (by simp) 1 (v := .slice none 0 0) rfl) | skip))
        | (go_at_call 155; go_split_ands; refine (l2Big_u _ _ _ _ v u _ HV9.out HUU.out (by rw [HM.out])).mono ?_; rintro e v2 ⟨rfl, hk2⟩; have zk2 := hk2.size; (try simp only [World.size_alloc] at zk2); have sck := Lib.hid (Kept.trans0 (Hid.out (by assumption : Hid (Kept [] ww0 _))) hk2); have sc0 : v2.cell? ⟨w.heap.size, 0, none⟩ = some (.bool p) := hk2.cell (by assumption) (by simp); have sc1 : v2.cell? ⟨w.heap.size, 1, none⟩ = some (.slice a n c) := hk2.cell (by assumption) (by simp); have hs8 := (show Sl _ a9 (mag u).length c9 (mag u) by first | exact hs9 | exact hs9.kept0 ((Kept.refl [] _).alloc _)).kept0 hk2; (first | (obtain ⟨z0_, y0_, _⟩ := hk2.top (g := v1.heap.size) rfl (by simp) 0 (v := .bool false) rfl; obtain ⟨z1_, y1_, _⟩ := hk2.top (g := v1.heap.size) rfl (by simp) 1 (v := .slice none 0 0) rfl) | (replace y0_ := hk2.free' z0_ y0_ (by simp); replace y1_ := hk2.free' z1_ y1_ (by simp); replace z0_ := hk2.cell z0_ (by simp); replace z1_ := hk2.cell z1_ (by simp)) | skip)))
    all_goals
      go_wp2_with fail
      go_meet
      first | (with_reducible refine Lib.hid (boxN_last ?_ hs8 hf9 sck); omega) | (with_reducible refine Lib.hid (boxN_set ?_ ?_ (hf9.mono ?_) hs8 z0_ z1_ sck); omega; (intro hn x hx; unfold Fr at hf9; have h1 := hf9 hn x hx; have h2 := hs9.lt hn x hx; (try simp only [World.size_alloc] at h1); omega); (try simp only [World.size_alloc]); omega)
  case rest =>
  have hc := hcut.out
  clear hcut kr tA0 tA1
  obtain ⟨g1, a1, c1, rfl, e0, e1, hg1, hgl1, hs, hf, hk⟩ := hc
  obtain ⟨ww1, rfl⟩ : ∃ w' : World, w' = wc := ⟨_, rfl⟩
  have SU := Lib.hid hs
  have GU := Lib.hid (hf.mono (B' := w.heap.size + 1 + 1 + 1) (by omega))
  clear hs hf
  have z1 := hk.size
  replace fR0 := kf hk nR0 fR0
  replace fR1 := kf hk nR1 fR1
  replace fR2 := kf hk nR2 fR2
  replace fR3 := kf hk nR3 fR3
  replace nA0 := kc hk nA0
  replace nA1 := kc hk nA1
  replace nB0 := kc hk nB0
  replace nB1 := kc hk nB1
  replace nR0 := kc hk nR0
  replace nR1 := kc hk nR1
  replace nR2 := kc hk nR2
  replace nR3 := kc hk nR3
  replace HS := Lib.hid (HS.out.kept0 hk)
  replace HS' := Lib.hid (HS'.out.kept0 hk)
  replace KT := Lib.hid (KT.out.trans0 hk)
  clear hk
  have nU0 := Lib.hid e0
  have nU1 := Lib.hid e1
  clear e0 e1
  have tU0 := nU0.out
  have tU1 := nU1.out
  have tB0 := nB0.out
  have tB1 := nB1.out
  go_wp2_with fail
  clear tU0 tU1 tB0 tB1
  have tU0 := nU0.out
  have tU1 := nU1.out
  have tB0 := nB0.out
  have tB1 := nB1.out
  go_region_held3 (fun w' => w'.cell? ⟨g1, 0, none⟩ = some (.bool (isNeg u)) ∧ w'.cell? ⟨g1, 1, none⟩ = some (.slice a1 (mag u).length c1) ∧ w'.cell? ⟨w.heap.size + 1, 0, none⟩ = some (.bool q) ∧ w'.cell? ⟨w.heap.size + 1, 1, none⟩ = some (.slice b m d) ∧ Hid (Kept [w.heap.size + 1 + 1] ww1 w'))
    ((go_split_ands; (try refine ⟨?_, ?_, ?_, ?_, ?_⟩) <;> with_reducible first | exact Kept.set4 (by assumption) | exact cell_set4 (by assumption) (by simp <;> omega) | exact Lib.hid ((Kept.refl _ _).drew) | exact drew_cell (by assumption) | exact Kept.allocH (by assumption) | exact alloc_cell (by assumption) | exact Lib.hid (Kept.trans0 (Hid.out (by assumption)) (by assumption)) | exact Kept.cell (by assumption) (by assumption) (by simp)))
    (first
      | (go_at_call 157; go_split_ands; refine (l2Floor_z _ _ _ _ _ _ _ _ _ _ _ _ (SU.out.kept0 ((Kept.refl [] _).drew)) (HS'.out.kept0 ((Kept.refl [] _).drew)) HUO.out HY.out HY0.out HT1.out).mono ?_; rintro e v1 ⟨a3, c3, rfl, hs1, hf1, hk1⟩)
      | (go_at_call 158; go_split_ands; refine (l2Ceil_z _ _ _ _ _ _ _ _ _ _ _ _ (SU.out.kept0 (((Kept.refl [] _).drew).trans0 hk1)) (HS'.out.kept0 (((Kept.refl [] _).drew).trans0 hk1)) HUO.out HY.out HY0.out HT2.out).mono ?_; rintro e v2 ⟨a4, c4, rfl, hs2, hf2, hk2⟩; have hs1 := hs1.kept0 hk2; have z12 := hk1.size; simp only [World.size_drew] at hf1 z12; have hkr := (((Kept.refl [] ww1).drew).trans0 hk1).trans0 hk2; have rg0 := hkr.cell (p := ⟨w.heap.size + 1 + 1, 0, none⟩) nR0.out (by simp); have rg1 := hkr.cell (p := ⟨w.heap.size + 1 + 1, 1, none⟩) nR1.out (by simp); have rg2 := hkr.cell (p := ⟨w.heap.size + 1 + 1, 2, none⟩) nR2.out (by simp); have rg3 := hkr.cell (p := ⟨w.heap.size + 1 + 1, 3, none⟩) nR3.out (by simp); have ru0 := hkr.free' (p := ⟨w.heap.size + 1 + 1, 0, none⟩) nR0.out fR0.out (by simp); have ru1 := hkr.free' (p := ⟨w.heap.size + 1 + 1, 1, none⟩) nR1.out fR1.out (by simp); have ru2 := hkr.free' (p := ⟨w.heap.size + 1 + 1, 2, none⟩) nR2.out fR2.out (by simp); have ru3 := hkr.free' (p := ⟨w.heap.size + 1 + 1, 3, none⟩) nR3.out fR3.out (by simp)))
  clear tU0 tU1 tB0 tB1
  have hk := hkr
  clear hkr
  have z2 := hk.size
  replace fR0 := kf hk nR0 fR0
  replace fR1 := kf hk nR1 fR1
  replace fR2 := kf hk nR2 fR2
  replace fR3 := kf hk nR3 fR3
  replace nA0 := kc hk nA0
  replace nA1 := kc hk nA1
  replace nB0 := kc hk nB0
  replace nB1 := kc hk nB1
  replace nR0 := kc hk nR0
  replace nR1 := kc hk nR1
  replace nR2 := kc hk nR2
  replace nR3 := kc hk nR3
  replace HS := Lib.hid (HS.out.kept0 hk)
  replace HS' := Lib.hid (HS'.out.kept0 hk)
  replace nU0 := kc hk nU0
  replace nU1 := kc hk nU1
  replace SU := Lib.hid (SU.out.kept0 hk)
  replace KT := Lib.hid (KT.out.trans0 hk)
  clear hk
  have hs1 := Lib.hid hs1
  have hs2 := Lib.hid hs2
  have G1 := Lib.hid (hf1.mono (B' := w.heap.size + 1 + 1 + 1) (by omega))
  have G2 := Lib.hid (hf2.mono (B' := w.heap.size + 1 + 1 + 1) (by omega))
  clear hf1 hf2
  obtain ⟨p9, hp9⟩ : ∃ r, r = isNeg t1 := ⟨_, rfl⟩
  obtain ⟨q9, hq9⟩ : ∃ r, r = isNeg t2 := ⟨_, rfl⟩
  rw [← hp9, ← hq9]
  generalize hW : ((((v2.setCell ⟨w.heap.size + 1 + 1, 0, none⟩ (.bool p9)).setCell ⟨w.heap.size + 1 + 1, 1, none⟩ (.slice a3 (mag t1).length c3)).setCell ⟨w.heap.size + 1 + 1, 2, none⟩ (.bool q9)).setCell ⟨w.heap.size + 1 + 1, 3, none⟩ (.slice a4 (mag t2).length c4)) = ww3
  have hk : Kept [w.heap.size + 1 + 1] v2 ww3 := by rw [← hW]; exact ((((Kept.refl _ _).setCell _ _ (by simp)).setCell _ _ (by simp)).setCell _ _ (by simp)).setCell _ _ (by simp)
  have hfz : ∀ x, ww3.frozen? x = v2.frozen? x := by rw [← hW]; intro x; simp only [World.frozen?_setCell]
  obtain ⟨e0, e1, e2, e3⟩ := st4 hW.symm nR0.out nR1.out nR2.out nR3.out
  have z3 := hk.size
  replace fR0 := kz hfz fR0
  replace fR1 := kz hfz fR1
  replace fR2 := kz hfz fR2
  replace fR3 := kz hfz fR3
  replace nA0 := kd hk nA0 (by simp <;> omega)
  replace nA1 := kd hk nA1 (by simp <;> omega)
  replace nB0 := kd hk nB0 (by simp <;> omega)
  replace nB1 := kd hk nB1 (by simp <;> omega)
  replace HS := Lib.hid (HS.out.kept hk (fun hn y hy hm => by have h9 := FS.out hn y hy; simp at hm; omega))
  replace HS' := Lib.hid (HS'.out.kept hk (fun hn y hy hm => by have h9 := FS'.out hn y hy; simp at hm; omega))
  replace nU0 := kd hk nU0 (by simp <;> omega)
  replace nU1 := kd hk nU1 (by simp <;> omega)
  replace SU := Lib.hid (SU.out.kept hk (fun hn y hy hm => by have h9 := GU.out hn y hy; simp at hm; omega))
  replace hs1 := Lib.hid (hs1.out.kept hk (fun hn y hy hm => by have h9 := G1.out hn y hy; simp at hm; omega))
  replace hs2 := Lib.hid (hs2.out.kept hk (fun hn y hy hm => by have h9 := G2.out hn y hy; simp at hm; omega))
  replace nR0 := Lib.hid e0
  replace nR1 := Lib.hid e1
  replace nR2 := Lib.hid e2
  replace nR3 := Lib.hid e3
  replace KT := Lib.hid (KT.out.trans hk (fun x hx hlt => by simp at hx; omega))
  clear hk hfz hW e0 e1 e2 e3
  have HP9 := Lib.hid hp9
  have HQ9 := Lib.hid hq9
  clear hp9 hq9
  go_wp2_with fail
  have e0 := nR0.out
  have e1 := nR1.out
  have e2 := nR2.out
  have e3 := nR3.out
  refine bodyPost_ret (v := .agg #[.bool p9, .slice a3 (mag t1).length c3, .bool q9, .slice a4 (mag t2).length c4]) (by simp [results, Tryz.results89, go_sem, e0, e1, e2, e3]) rfl ?_
  exact spanV_fin HP9.out HQ9.out hs1.out hs2.out (G1.out.mono (by omega)) (G2.out.mono (by omega)) KT.out

end Go.Proofs.YtfafjijoeanbhaaGreat
