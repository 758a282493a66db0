/-
  Several of my texts in one, each as it was: SpanR, SpanS, SpanT. No condition but theirs.
-/
import Derived.Deep.RegionHeld3
import Derived.Deep.DrawnRows
import Derived.Deep.DeepCutAuto
import Derived.Test.YtjndjjdffifgcaaRootA
import Derived.Test.YtjndjjdffifgcaaSpanG
import Derived.Test.YtjndjjdffifgcaaBigG
import Derived.Test.YtjndjjdffifgcaaRootR
namespace Go.Proofs.Ytjndjjdffifgcaa

open Go.RowKit

theorem l2Floor_z (p q : Bool) (a b : Option Addr) (n c m d : Nat) (xs ys : List Int) (z : Int) (w : World) (h : Sl w a n c xs) (h' : Sl w b m d ys) (hx : Nat40 xs) (hy : Nat40 ys) (hy0 : ys.length ≠ 0) (hz : z = divZ false p q (val xs) (val ys)) :
    Calls Try.prog 105 #[.agg #[.bool p, .slice a n c], .agg #[.bool q, .slice b m d]] w (BigV w.heap.size w z) := by
  subst hz; exact l2Floor_any _ _ _ _ _ _ _ _ _ _ _ h h' hx hy hy0
theorem l2Ceil_z (p q : Bool) (a b : Option Addr) (n c m d : Nat) (xs ys : List Int) (z : Int) (w : World) (h : Sl w a n c xs) (h' : Sl w b m d ys) (hx : Nat40 xs) (hy : Nat40 ys) (hy0 : ys.length ≠ 0) (hz : z = divZ true p q (val xs) (val ys)) :
    Calls Try.prog 106 #[.agg #[.bool p, .slice a n c], .agg #[.bool q, .slice b m d]] w (BigV w.heap.size w z) := by
  subst hz; exact l2Ceil_any _ _ _ _ _ _ _ _ _ _ _ h h' hx hy hy0
theorem l2Big_u (b : Bool) (a : Option Addr) (n c : Nat) (v u : Int) (w : World) (hv : 0 ≤ v) (hu : u = sg b v) (hn : (digits v).length = n) :
    Calls Try.prog 103 #[.bool b, .slice a n c] w (Val w (.agg #[.bool (isNeg u), .slice a n c])) := by
  subst hu; exact l2Big_any _ _ _ _ _ _ hv hn
/-- A new box with a big, its limbs in new memory. -/
def BoxN (w0 : World) (u : Int) (s : Value) (w : World) : Prop :=
  ∃ g a c, s = .pointer (some ⟨g, 0, none⟩) ∧ w.cell? ⟨g, 0, none⟩ = some (.bool (isNeg u)) ∧ w.cell? ⟨g, 1, none⟩ = some (.slice a (mag u).length c) ∧ w0.heap.size ≤ g ∧ g < w.heap.size ∧ Sl w a (mag u).length c (mag u) ∧ Fr w0.heap.size a (mag u).length ∧ Kept [] w0 w
theorem boxN_last {W v : World} {B : Nat} {u : Int} {a : Option Addr} {c : Nat} {T : TypeId} (hB : W.heap.size ≤ B) (hS : Sl v a (mag u).length c (mag u)) (hF : Fr B a (mag u).length) (hk : Hid (Kept [] W v)) :
    BoxN W u (.pointer (some ⟨v.heap.size, 0, none⟩)) (v.alloc (.cells #[.bool (isNeg u), .slice a (mag u).length c] T)) :=
  ⟨v.heap.size, a, c, rfl, by rw [World.cell?_alloc_new]; rfl, by rw [World.cell?_alloc_new]; rfl, hk.out.size, by simp, hS.kept0 ((Kept.refl [] v).alloc _), hF.mono hB, hk.out.alloc _⟩
theorem Kept.set2n {W w2 : World} {g : Nat} {v1 v2 : Value} (h : Hid (Kept [] W w2)) (hg : W.heap.size ≤ g) : Hid (Kept [] W ((w2.setCell ⟨g, 0, none⟩ v1).setCell ⟨g, 1, none⟩ v2)) :=
  Lib.hid ((h.out.setCell _ _ (by simp; omega)).setCell _ _ (by simp; omega))
theorem boxN_set {W v : World} {g : Nat} {u : Int} {a : Option Addr} {c : Nat} {x0 x1 : Value} (hg : W.heap.size ≤ g) (hne : 0 < (mag u).length → ∀ x, a = some x → x.block ≠ g) (hF : Fr W.heap.size a (mag u).length) (hS : Sl v a (mag u).length c (mag u))
    (h0 : v.cell? ⟨g, 0, none⟩ = some x0) (h1 : v.cell? ⟨g, 1, none⟩ = some x1) (hk : Hid (Kept [] W v)) :
    BoxN W u (.pointer (some ⟨g, 0, none⟩)) ((v.setCell ⟨g, 0, none⟩ (.bool (isNeg u))).setCell ⟨g, 1, none⟩ (.slice a (mag u).length c)) := by
  obtain ⟨_, e0, e1⟩ := cells2 (.bool (isNeg u)) (.slice a (mag u).length c) h0 h1
  have hlt := World.block_lt_of_cell? v _ h0
  have hq := (Kept.set2 (v1 := .bool (isNeg u)) (v2 := .slice a (mag u).length c) (Lib.hid (Kept.refl [g] v))).out
  exact ⟨g, a, c, rfl, e0, e1, hg, Nat.lt_of_lt_of_le hlt hq.size, hS.kept hq (fun hn x hx => by have := hne hn x hx; simpa using this), hF, (Kept.set2n hk hg).out⟩

theorem Kept.drewAllocH' {L : List Nat} {W w : World} {o : Obj} (h : Hid (Kept L W w)) : Hid (Kept L W (w.alloc o).drew) := Lib.hid ((h.out.alloc o).drew)
theorem Kept.drewH' {L : List Nat} {W w : World} (h : Hid (Kept L W w)) : Hid (Kept L W w.drew) := Lib.hid h.out.drew
set_option maxHeartbeats 8000000 in
set_option maxRecDepth 20000 in
theorem l3Rat_any (P : Int) (p q : Bool) (a b : Option Addr) (n c m d : Nat) (xs ys : List Int) (u t1 t2 : Int) (w : World) (h : Sl w a n c xs) (h' : Sl w b m d ys) (hP : isP P = true) (hx : BigOk p xs) (hy : BigOk q ys) (lx : xs.length ≤ 20) (hy0 : ys.length ≠ 0) (hul : (mag u).length ≤ 27) (hu : u = inU P p xs) (ht1 : t1 = divZ false (isNeg u) q (val (mag u)) (val ys)) (ht2 : t2 = divZ true (isNeg u) q (val (mag u)) (val ys)) :
    Calls Try.prog 73 #[.int .i64 P, .agg #[.bool p, .slice a n c], .agg #[.bool q, .slice b m d]] w (SpanV w t1 t2) := by
  have hm9 : mag u = digits (val xs * p2 P.toNat) := by rw [hu]; unfold inU sv; rw [show sg p (val xs) * p2 P.toNat = sg p (val xs * p2 P.toNat) by cases p <;> simp [sg, Int.neg_mul]]; exact mag_sg (Int.mul_nonneg (canon_nonneg hx.n40.canon).1 (by have := p2_pos P.toNat; omega))
  have hu9 : u = sg p (val xs * p2 P.toNat) := by rw [hu]; unfold inU sv; cases p <;> simp [sg, Int.neg_mul]
  have hv9 : 0 ≤ val xs * p2 P.toNat := Int.mul_nonneg (canon_nonneg hx.n40.canon).1 (by have := p2_pos P.toNat; omega)
  obtain ⟨v, hv⟩ : ∃ v, v = val xs * p2 P.toNat := ⟨_, rfl⟩
  rw [← hv] at hm9 hu9 hv9
  have HS := Lib.hid h
  have HS' := Lib.hid h'
  have FS := Lib.hid h.lt
  have FS' := Lib.hid h'.lt
  have HM := Lib.hid hm9
  have HUU := Lib.hid hu9
  have HV9 := Lib.hid hv9
  have HV := Lib.hid hv
  have HX := Lib.hid hx.n40
  have HY := Lib.hid hy.n40
  have HY0 := Lib.hid hy0
  have HP := Lib.hid hP
  have HT1 := Lib.hid ht1
  have HT2 := Lib.hid ht2
  have HUO := Lib.hid (bigOk_of (z := u) (by omega)).n40
  clear h h' hm9 hu9 hv9 hv hu hx hy hy0 hP ht1 ht2
  go_enter Try.func73, Try.ntmps73
  go_upto_region 1 with fail
  generalize hW : (((w.alloc (.cells #[.bool p, .slice a n c] 29)).alloc (.cells #[.bool q, .slice b m d] 29)).alloc (.cells #[.bool false, .slice none 0 0, .bool false, .slice none 0 0] 31)) = ww0
  have hkk : Kept [] (((w.alloc (.cells #[.bool p, .slice a n c] 29)).alloc (.cells #[.bool q, .slice b m d] 29)).alloc (.cells #[.bool false, .slice none 0 0, .bool false, .slice none 0 0] 31)) ww0 := by rw [hW]; exact Kept.refl _ _
  have zzA : w.heap.size + 1 + 1 + 1 = ww0.heap.size := by rw [← hW]; simp
  have nA0 := Lib.hid (hkk.peel.peel.top (g := w.heap.size) (by simp) (by simp) 0 (v := .bool p) rfl).1
  have nA1 := Lib.hid (hkk.peel.peel.top (g := w.heap.size) (by simp) (by simp) 1 (v := .slice a n c) rfl).1
  have nB0 := Lib.hid (hkk.peel.top (g := w.heap.size + 1) (by simp) (by simp) 0 (v := .bool q) rfl).1
  have nB1 := Lib.hid (hkk.peel.top (g := w.heap.size + 1) (by simp) (by simp) 1 (v := .slice b m d) rfl).1
  have nR0 := Lib.hid (hkk.top (g := w.heap.size + 1 + 1) (by simp) (by simp) 0 (v := .bool false) rfl).1
  have fR0 := Lib.hid (hkk.top (g := w.heap.size + 1 + 1) (by simp) (by simp) 0 (v := .bool false) rfl).2.1
  have nR1 := Lib.hid (hkk.top (g := w.heap.size + 1 + 1) (by simp) (by simp) 1 (v := .slice none 0 0) rfl).1
  have fR1 := Lib.hid (hkk.top (g := w.heap.size + 1 + 1) (by simp) (by simp) 1 (v := .slice none 0 0) rfl).2.1
  have nR2 := Lib.hid (hkk.top (g := w.heap.size + 1 + 1) (by simp) (by simp) 2 (v := .bool false) rfl).1
  have fR2 := Lib.hid (hkk.top (g := w.heap.size + 1 + 1) (by simp) (by simp) 2 (v := .bool false) rfl).2.1
  have nR3 := Lib.hid (hkk.top (g := w.heap.size + 1 + 1) (by simp) (by simp) 3 (v := .slice none 0 0) rfl).1
  have fR3 := Lib.hid (hkk.top (g := w.heap.size + 1 + 1) (by simp) (by simp) 3 (v := .slice none 0 0) rfl).2.1
  have hk := hkk.peel.peel.peel
  clear hkk hW
  have z0 := hk.size
  have KT := Lib.hid hk
  clear hk
  replace HS := Lib.hid (HS.out.kept0 KT.out)
  replace HS' := Lib.hid (HS'.out.kept0 KT.out)
  have tA0 := nA0.out
  have tA1 := nA1.out
  have kr := Lib.hid (Kept.refl [] ww0)
  go_cut [7] (fun s wx => Hid (BoxN ww0 u s wx))
  case first =>
    go_region_held3 (fun w' => w'.cell? ⟨w.heap.size, 0, none⟩ = some (.bool p) ∧ w'.cell? ⟨w.heap.size, 1, none⟩ = some (.slice a n c) ∧ Hid (Kept [] ww0 w'))
      ((go_split_ands; (try refine ⟨?_, ?_, ?_⟩) <;> with_reducible first | assumption | exact Kept.set2n (by assumption) (by omega) | exact cell_set2 (by assumption) (by (try dsimp only); omega) | exact drew_alloc_cell (by assumption) | exact drew_cell (by assumption) | exact alloc_cell (by assumption) | exact Lib.hid (Kept.trans0 (Hid.out (by assumption)) (by assumption)) | exact Kept.cell (by assumption) (by assumption) (by simp) | exact Kept.allocH (by assumption) | exact Kept.drewAllocH' (by assumption) | exact Kept.drewH' (by assumption)))
      (first
        | (go_at_call 104; go_split_ands; refine (l3Shift_any _ _ _ _ _ _ HP.out (HS.out.kept0 (Hid.out (by assumption))) HX.out lx).mono ?_; rintro e v1 ⟨v9, rfl, ho, hk1⟩; rw [← HV.out, ← HM.out] at ho; obtain ⟨a9, c9, rfl, hs9, hf9⟩ := ho.sl; have zk1 := hk1.size; (try simp only [World.size_drew] at zk1 hf9); (try simp only [World.size_alloc] at zk1); (first | (obtain ⟨z0_, y0_, _⟩ := hk1.undrew.top (g := ww0.heap.size) rfl (by simp) 0 (v := .bool false) rfl; obtain ⟨z1_, y1_, _⟩ := hk1.undrew.top (g := ww0.heap.size) rfl (by simp) 1 (v := .slice none 0 0) rfl) | skip))
        | (go_at_call 103; go_split_ands; refine (l2Big_u _ _ _ _ v u _ HV9.out HUU.out (by rw [HM.out])).mono ?_; rintro e v2 ⟨rfl, hk2⟩; have zk2 := hk2.size; (try simp only [World.size_alloc] at zk2); have sck := Lib.hid (Kept.trans0 (Hid.out (by assumption : Hid (Kept [] ww0 _))) hk2); have sc0 : v2.cell? ⟨w.heap.size, 0, none⟩ = some (.bool p) := hk2.cell (by assumption) (by simp); have sc1 : v2.cell? ⟨w.heap.size, 1, none⟩ = some (.slice a n c) := hk2.cell (by assumption) (by simp); have hs8 := (show Sl _ a9 (mag u).length c9 (mag u) by first | exact hs9 | exact hs9.kept0 ((Kept.refl [] _).alloc _)).kept0 hk2; (first | (obtain ⟨z0_, y0_, _⟩ := hk2.top (g := v1.heap.size) rfl (by simp) 0 (v := .bool false) rfl; obtain ⟨z1_, y1_, _⟩ := hk2.top (g := v1.heap.size) rfl (by simp) 1 (v := .slice none 0 0) rfl) | (replace y0_ := hk2.free' z0_ y0_ (by simp); replace y1_ := hk2.free' z1_ y1_ (by simp); replace z0_ := hk2.cell z0_ (by simp); replace z1_ := hk2.cell z1_ (by simp)) | skip)))
    all_goals
      go_wp2_with fail
      go_meet
      first | (with_reducible refine Lib.hid (boxN_last ?_ hs8 hf9 sck); omega) | (with_reducible refine Lib.hid (boxN_set ?_ ?_ (hf9.mono ?_) hs8 z0_ z1_ sck); omega; (intro hn x hx; unfold Fr at hf9; have h1 := hf9 hn x hx; have h2 := hs9.lt hn x hx; (try simp only [World.size_alloc] at h1); omega); (try simp only [World.size_alloc]); omega)
  case rest =>
  have hc := hcut.out
  clear hcut kr tA0 tA1
  obtain ⟨g1, a1, c1, rfl, e0, e1, hg1, hgl1, hs, hf, hk⟩ := hc
  obtain ⟨ww1, rfl⟩ : ∃ w' : World, w' = wc := ⟨_, rfl⟩
  have SU := Lib.hid hs
  have GU := Lib.hid (hf.mono (B' := w.heap.size + 1 + 1 + 1) (by omega))
  clear hs hf
  have z1 := hk.size
  replace fR0 := Lib.hid (hk.free' (p := ⟨w.heap.size + 1 + 1, 0, none⟩) nR0.out fR0.out (by simp))
  replace fR1 := Lib.hid (hk.free' (p := ⟨w.heap.size + 1 + 1, 1, none⟩) nR1.out fR1.out (by simp))
  replace fR2 := Lib.hid (hk.free' (p := ⟨w.heap.size + 1 + 1, 2, none⟩) nR2.out fR2.out (by simp))
  replace fR3 := Lib.hid (hk.free' (p := ⟨w.heap.size + 1 + 1, 3, none⟩) nR3.out fR3.out (by simp))
  replace nA0 := Lib.hid (hk.cell (p := ⟨w.heap.size, 0, none⟩) nA0.out (by simp))
  replace nA1 := Lib.hid (hk.cell (p := ⟨w.heap.size, 1, none⟩) nA1.out (by simp))
  replace nB0 := Lib.hid (hk.cell (p := ⟨w.heap.size + 1, 0, none⟩) nB0.out (by simp))
  replace nB1 := Lib.hid (hk.cell (p := ⟨w.heap.size + 1, 1, none⟩) nB1.out (by simp))
  replace nR0 := Lib.hid (hk.cell (p := ⟨w.heap.size + 1 + 1, 0, none⟩) nR0.out (by simp))
  replace nR1 := Lib.hid (hk.cell (p := ⟨w.heap.size + 1 + 1, 1, none⟩) nR1.out (by simp))
  replace nR2 := Lib.hid (hk.cell (p := ⟨w.heap.size + 1 + 1, 2, none⟩) nR2.out (by simp))
  replace nR3 := Lib.hid (hk.cell (p := ⟨w.heap.size + 1 + 1, 3, none⟩) nR3.out (by simp))
  replace HS := Lib.hid (HS.out.kept0 hk)
  replace HS' := Lib.hid (HS'.out.kept0 hk)
  replace KT := Lib.hid (KT.out.trans0 hk)
  clear hk
  have nU0 := Lib.hid e0
  have nU1 := Lib.hid e1
  clear e0 e1
  have tU0 := nU0.out
  have tU1 := nU1.out
  have tB0 := nB0.out
  have tB1 := nB1.out
  go_wp2_with fail
  clear tU0 tU1 tB0 tB1
  have tU0 := nU0.out
  have tU1 := nU1.out
  have tB0 := nB0.out
  have tB1 := nB1.out
  go_region_held3 (fun w' => w'.cell? ⟨g1, 0, none⟩ = some (.bool (isNeg u)) ∧ w'.cell? ⟨g1, 1, none⟩ = some (.slice a1 (mag u).length c1) ∧ w'.cell? ⟨w.heap.size + 1, 0, none⟩ = some (.bool q) ∧ w'.cell? ⟨w.heap.size + 1, 1, none⟩ = some (.slice b m d) ∧ Hid (Kept [w.heap.size + 1 + 1] ww1 w'))
    ((go_split_ands; (try refine ⟨?_, ?_, ?_, ?_, ?_⟩) <;> with_reducible first | exact Kept.set4 (by assumption) | exact cell_set4 (by assumption) (by simp <;> omega) | exact Lib.hid ((Kept.refl _ _).drew) | exact drew_cell (by assumption) | exact Kept.allocH (by assumption) | exact alloc_cell (by assumption) | exact Lib.hid (Kept.trans0 (Hid.out (by assumption)) (by assumption)) | exact Kept.cell (by assumption) (by assumption) (by simp)))
    (first
      | (go_at_call 105; go_split_ands; refine (l2Floor_z _ _ _ _ _ _ _ _ _ _ _ _ (SU.out.kept0 ((Kept.refl [] _).drew)) (HS'.out.kept0 ((Kept.refl [] _).drew)) HUO.out HY.out HY0.out HT1.out).mono ?_; rintro e v1 ⟨a3, c3, rfl, hs1, hf1, hk1⟩)
      | (go_at_call 106; go_split_ands; refine (l2Ceil_z _ _ _ _ _ _ _ _ _ _ _ _ (SU.out.kept0 (((Kept.refl [] _).drew).trans0 hk1)) (HS'.out.kept0 (((Kept.refl [] _).drew).trans0 hk1)) HUO.out HY.out HY0.out HT2.out).mono ?_; rintro e v2 ⟨a4, c4, rfl, hs2, hf2, hk2⟩; have hs1 := hs1.kept0 hk2; have z12 := hk1.size; simp only [World.size_drew] at hf1 z12; have hkr := (((Kept.refl [] ww1).drew).trans0 hk1).trans0 hk2; have rg0 := hkr.cell (p := ⟨w.heap.size + 1 + 1, 0, none⟩) nR0.out (by simp); have rg1 := hkr.cell (p := ⟨w.heap.size + 1 + 1, 1, none⟩) nR1.out (by simp); have rg2 := hkr.cell (p := ⟨w.heap.size + 1 + 1, 2, none⟩) nR2.out (by simp); have rg3 := hkr.cell (p := ⟨w.heap.size + 1 + 1, 3, none⟩) nR3.out (by simp); have ru0 := hkr.free' (p := ⟨w.heap.size + 1 + 1, 0, none⟩) nR0.out fR0.out (by simp); have ru1 := hkr.free' (p := ⟨w.heap.size + 1 + 1, 1, none⟩) nR1.out fR1.out (by simp); have ru2 := hkr.free' (p := ⟨w.heap.size + 1 + 1, 2, none⟩) nR2.out fR2.out (by simp); have ru3 := hkr.free' (p := ⟨w.heap.size + 1 + 1, 3, none⟩) nR3.out fR3.out (by simp)))
  clear tU0 tU1 tB0 tB1
  have hk := hkr
  clear hkr
  have z2 := hk.size
  replace fR0 := Lib.hid (hk.free' (p := ⟨w.heap.size + 1 + 1, 0, none⟩) nR0.out fR0.out (by simp))
  replace fR1 := Lib.hid (hk.free' (p := ⟨w.heap.size + 1 + 1, 1, none⟩) nR1.out fR1.out (by simp))
  replace fR2 := Lib.hid (hk.free' (p := ⟨w.heap.size + 1 + 1, 2, none⟩) nR2.out fR2.out (by simp))
  replace fR3 := Lib.hid (hk.free' (p := ⟨w.heap.size + 1 + 1, 3, none⟩) nR3.out fR3.out (by simp))
  replace nA0 := Lib.hid (hk.cell (p := ⟨w.heap.size, 0, none⟩) nA0.out (by simp))
  replace nA1 := Lib.hid (hk.cell (p := ⟨w.heap.size, 1, none⟩) nA1.out (by simp))
  replace nB0 := Lib.hid (hk.cell (p := ⟨w.heap.size + 1, 0, none⟩) nB0.out (by simp))
  replace nB1 := Lib.hid (hk.cell (p := ⟨w.heap.size + 1, 1, none⟩) nB1.out (by simp))
  replace nR0 := Lib.hid (hk.cell (p := ⟨w.heap.size + 1 + 1, 0, none⟩) nR0.out (by simp))
  replace nR1 := Lib.hid (hk.cell (p := ⟨w.heap.size + 1 + 1, 1, none⟩) nR1.out (by simp))
  replace nR2 := Lib.hid (hk.cell (p := ⟨w.heap.size + 1 + 1, 2, none⟩) nR2.out (by simp))
  replace nR3 := Lib.hid (hk.cell (p := ⟨w.heap.size + 1 + 1, 3, none⟩) nR3.out (by simp))
  replace HS := Lib.hid (HS.out.kept0 hk)
  replace HS' := Lib.hid (HS'.out.kept0 hk)
  replace nU0 := Lib.hid (hk.cell (p := ⟨g1, 0, none⟩) nU0.out (by simp))
  replace nU1 := Lib.hid (hk.cell (p := ⟨g1, 1, none⟩) nU1.out (by simp))
  replace SU := Lib.hid (SU.out.kept0 hk)
  replace KT := Lib.hid (KT.out.trans0 hk)
  clear hk
  have hs1 := Lib.hid hs1
  have hs2 := Lib.hid hs2
  have G1 := Lib.hid (hf1.mono (B' := w.heap.size + 1 + 1 + 1) (by omega))
  have G2 := Lib.hid (hf2.mono (B' := w.heap.size + 1 + 1 + 1) (by omega))
  clear hf1 hf2
  obtain ⟨p9, hp9⟩ : ∃ r, r = isNeg t1 := ⟨_, rfl⟩
  obtain ⟨q9, hq9⟩ : ∃ r, r = isNeg t2 := ⟨_, rfl⟩
  rw [← hp9, ← hq9]
  generalize hW : ((((v2.setCell ⟨w.heap.size + 1 + 1, 0, none⟩ (.bool p9)).setCell ⟨w.heap.size + 1 + 1, 1, none⟩ (.slice a3 (mag t1).length c3)).setCell ⟨w.heap.size + 1 + 1, 2, none⟩ (.bool q9)).setCell ⟨w.heap.size + 1 + 1, 3, none⟩ (.slice a4 (mag t2).length c4)) = ww3
  have hk : Kept [w.heap.size + 1 + 1] v2 ww3 := by rw [← hW]; exact ((((Kept.refl _ _).setCell _ _ (by simp)).setCell _ _ (by simp)).setCell _ _ (by simp)).setCell _ _ (by simp)
  have hfz : ∀ x, ww3.frozen? x = v2.frozen? x := by rw [← hW]; intro x; simp only [World.frozen?_setCell]
  have e0 : ww3.cell? ⟨w.heap.size + 1 + 1, 0, none⟩ = some (.bool p9) := by rw [← hW]; rw [World.cell?_setCell_other _ _ _ _ (by simp), World.cell?_setCell_other _ _ _ _ (by simp), World.cell?_setCell_other _ _ _ _ (by simp)]; exact World.cell?_setCell_same _ _ _ (by exact nR0.out)
  have e1 : ww3.cell? ⟨w.heap.size + 1 + 1, 1, none⟩ = some (.slice a3 (mag t1).length c3) := by rw [← hW]; rw [World.cell?_setCell_other _ _ _ _ (by simp), World.cell?_setCell_other _ _ _ _ (by simp)]; exact World.cell?_setCell_same _ _ _ (by rw [World.cell?_setCell_other _ _ _ _ (by simp)]; exact nR1.out)
  have e2 : ww3.cell? ⟨w.heap.size + 1 + 1, 2, none⟩ = some (.bool q9) := by rw [← hW]; rw [World.cell?_setCell_other _ _ _ _ (by simp)]; exact World.cell?_setCell_same _ _ _ (by rw [World.cell?_setCell_other _ _ _ _ (by simp), World.cell?_setCell_other _ _ _ _ (by simp)]; exact nR2.out)
  have e3 : ww3.cell? ⟨w.heap.size + 1 + 1, 3, none⟩ = some (.slice a4 (mag t2).length c4) := by rw [← hW]; exact World.cell?_setCell_same _ _ _ (by rw [World.cell?_setCell_other _ _ _ _ (by simp), World.cell?_setCell_other _ _ _ _ (by simp), World.cell?_setCell_other _ _ _ _ (by simp)]; exact nR3.out)
  have z3 := hk.size
  replace fR0 := Lib.hid (show ww3.frozen? ⟨w.heap.size + 1 + 1, 0, none⟩ = false by rw [hfz]; exact fR0.out)
  replace fR1 := Lib.hid (show ww3.frozen? ⟨w.heap.size + 1 + 1, 1, none⟩ = false by rw [hfz]; exact fR1.out)
  replace fR2 := Lib.hid (show ww3.frozen? ⟨w.heap.size + 1 + 1, 2, none⟩ = false by rw [hfz]; exact fR2.out)
  replace fR3 := Lib.hid (show ww3.frozen? ⟨w.heap.size + 1 + 1, 3, none⟩ = false by rw [hfz]; exact fR3.out)
  replace nA0 := Lib.hid (hk.cell (p := ⟨w.heap.size, 0, none⟩) nA0.out (by simp <;> omega))
  replace nA1 := Lib.hid (hk.cell (p := ⟨w.heap.size, 1, none⟩) nA1.out (by simp <;> omega))
  replace nB0 := Lib.hid (hk.cell (p := ⟨w.heap.size + 1, 0, none⟩) nB0.out (by simp <;> omega))
  replace nB1 := Lib.hid (hk.cell (p := ⟨w.heap.size + 1, 1, none⟩) nB1.out (by simp <;> omega))
  replace HS := Lib.hid (HS.out.kept hk (fun hn y hy hm => by have h9 := FS.out hn y hy; simp at hm; omega))
  replace HS' := Lib.hid (HS'.out.kept hk (fun hn y hy hm => by have h9 := FS'.out hn y hy; simp at hm; omega))
  replace nU0 := Lib.hid (hk.cell (p := ⟨g1, 0, none⟩) nU0.out (by simp <;> omega))
  replace nU1 := Lib.hid (hk.cell (p := ⟨g1, 1, none⟩) nU1.out (by simp <;> omega))
  replace SU := Lib.hid (SU.out.kept hk (fun hn y hy hm => by have h9 := GU.out hn y hy; simp at hm; omega))
  replace hs1 := Lib.hid (hs1.out.kept hk (fun hn y hy hm => by have h9 := G1.out hn y hy; simp at hm; omega))
  replace hs2 := Lib.hid (hs2.out.kept hk (fun hn y hy hm => by have h9 := G2.out hn y hy; simp at hm; omega))
  replace nR0 := Lib.hid e0
  replace nR1 := Lib.hid e1
  replace nR2 := Lib.hid e2
  replace nR3 := Lib.hid e3
  replace KT := Lib.hid (KT.out.trans hk (fun x hx hlt => by simp at hx; omega))
  clear hk hfz hW e0 e1 e2 e3
  have HP9 := Lib.hid hp9
  have HQ9 := Lib.hid hq9
  clear hp9 hq9
  go_wp2_with fail
  have e0 := nR0.out
  have e1 := nR1.out
  have e2 := nR2.out
  have e3 := nR3.out
  refine bodyPost_ret (v := .agg #[.bool p9, .slice a3 (mag t1).length c3, .bool q9, .slice a4 (mag t2).length c4]) (by simp [results, Try.results73, go_sem, e0, e1, e2, e3]) rfl ?_
  exact spanV_fin HP9.out HQ9.out hs1.out hs2.out (G1.out.mono (by omega)) (G2.out.mono (by omega)) KT.out

set_option maxHeartbeats 8000000 in
set_option maxRecDepth 20000 in
theorem sRatSpan_any (P : Int) (p q : Bool) (a b : Option Addr) (n c m d : Nat) (xs ys : List Int) (w : World) (h : Sl w a n c xs) (h' : Sl w b m d ys) :
    Calls Try.prog 37 #[.int .i64 P, .agg #[.bool p, .slice a n c], .agg #[.bool q, .slice b m d]] w (SpanM w (ratS P p xs q ys)) := by
  have hL : xs.length = n := h.1
  have hM : ys.length = m := h'.1
  have HS := Lib.hid h
  have HS' := Lib.hid h'
  have FS := Lib.hid h.lt
  have FS' := Lib.hid h'.lt
  clear h h'
  by_cases hP : isP P = true
  · skip
    by_cases hz : bigFault2 p xs q ys = 0
    · by_cases hy0 : ys.length = 0
      · skip
        rw [show ratS P p xs q ys = noSpan 6 from by unfold ratS; rw [if_pos hP, twoS_zero hz, if_pos hy0]]
        have HZ := Lib.hid (show (if bigFault2 p xs q ys = 0 then (if ys.length = 0 then (6 : Int) else 0) else bigFault2 p xs q ys) = 6 by rw [if_pos hz, if_pos hy0])
        have HP := Lib.hid hP
        clear hz hP hy0 hM hL
        go_enter Try.func37, Try.ntmps37
        go_wp2_with fail
        generalize hW : (((w.alloc (.cells #[.bool p, .slice a n c] 29)).alloc (.cells #[.bool q, .slice b m d] 29)).alloc (.cells #[.int .i64 0, .bool false, .slice none 0 0, .bool false, .slice none 0 0] 38)) = ww0
        have hkk : Kept [] (((w.alloc (.cells #[.bool p, .slice a n c] 29)).alloc (.cells #[.bool q, .slice b m d] 29)).alloc (.cells #[.int .i64 0, .bool false, .slice none 0 0, .bool false, .slice none 0 0] 38)) ww0 := by rw [hW]; exact Kept.refl _ _
        have zzA : w.heap.size + 1 + 1 + 1 = ww0.heap.size := by rw [← hW]; simp
        have nA0 := Lib.hid (hkk.peel.peel.top (g := w.heap.size) (by simp) (by simp) 0 (v := .bool p) rfl).1
        have nA1 := Lib.hid (hkk.peel.peel.top (g := w.heap.size) (by simp) (by simp) 1 (v := .slice a n c) rfl).1
        have nB0 := Lib.hid (hkk.peel.top (g := w.heap.size + 1) (by simp) (by simp) 0 (v := .bool q) rfl).1
        have nB1 := Lib.hid (hkk.peel.top (g := w.heap.size + 1) (by simp) (by simp) 1 (v := .slice b m d) rfl).1
        have nR0 := Lib.hid (hkk.top (g := w.heap.size + 1 + 1) (by simp) (by simp) 0 (v := .int .i64 0) rfl).1
        have fR0 := Lib.hid (hkk.top (g := w.heap.size + 1 + 1) (by simp) (by simp) 0 (v := .int .i64 0) rfl).2.1
        have nR1 := Lib.hid (hkk.top (g := w.heap.size + 1 + 1) (by simp) (by simp) 1 (v := .bool false) rfl).1
        have fR1 := Lib.hid (hkk.top (g := w.heap.size + 1 + 1) (by simp) (by simp) 1 (v := .bool false) rfl).2.1
        have nR2 := Lib.hid (hkk.top (g := w.heap.size + 1 + 1) (by simp) (by simp) 2 (v := .slice none 0 0) rfl).1
        have fR2 := Lib.hid (hkk.top (g := w.heap.size + 1 + 1) (by simp) (by simp) 2 (v := .slice none 0 0) rfl).2.1
        have nR3 := Lib.hid (hkk.top (g := w.heap.size + 1 + 1) (by simp) (by simp) 3 (v := .bool false) rfl).1
        have fR3 := Lib.hid (hkk.top (g := w.heap.size + 1 + 1) (by simp) (by simp) 3 (v := .bool false) rfl).2.1
        have nR4 := Lib.hid (hkk.top (g := w.heap.size + 1 + 1) (by simp) (by simp) 4 (v := .slice none 0 0) rfl).1
        have fR4 := Lib.hid (hkk.top (g := w.heap.size + 1 + 1) (by simp) (by simp) 4 (v := .slice none 0 0) rfl).2.1
        have hk := hkk.peel.peel.peel
        clear hkk hW
        have z0 := hk.size
        have KT := Lib.hid hk
        clear hk
        replace HS := Lib.hid (HS.out.kept0 KT.out)
        replace HS' := Lib.hid (HS'.out.kept0 KT.out)
        refine (l3Prec_any _ _).mono ?_
        rintro e ww1 ⟨rfl, hk⟩
        rw [HP.out]
        have z1 := hk.size
        replace fR0 := Lib.hid (hk.free' (p := ⟨w.heap.size + 1 + 1, 0, none⟩) nR0.out fR0.out (by simp))
        replace fR1 := Lib.hid (hk.free' (p := ⟨w.heap.size + 1 + 1, 1, none⟩) nR1.out fR1.out (by simp))
        replace fR2 := Lib.hid (hk.free' (p := ⟨w.heap.size + 1 + 1, 2, none⟩) nR2.out fR2.out (by simp))
        replace fR3 := Lib.hid (hk.free' (p := ⟨w.heap.size + 1 + 1, 3, none⟩) nR3.out fR3.out (by simp))
        replace fR4 := Lib.hid (hk.free' (p := ⟨w.heap.size + 1 + 1, 4, none⟩) nR4.out fR4.out (by simp))
        replace nA0 := Lib.hid (hk.cell (p := ⟨w.heap.size, 0, none⟩) nA0.out (by simp))
        replace nA1 := Lib.hid (hk.cell (p := ⟨w.heap.size, 1, none⟩) nA1.out (by simp))
        replace nB0 := Lib.hid (hk.cell (p := ⟨w.heap.size + 1, 0, none⟩) nB0.out (by simp))
        replace nB1 := Lib.hid (hk.cell (p := ⟨w.heap.size + 1, 1, none⟩) nB1.out (by simp))
        replace nR0 := Lib.hid (hk.cell (p := ⟨w.heap.size + 1 + 1, 0, none⟩) nR0.out (by simp))
        replace nR1 := Lib.hid (hk.cell (p := ⟨w.heap.size + 1 + 1, 1, none⟩) nR1.out (by simp))
        replace nR2 := Lib.hid (hk.cell (p := ⟨w.heap.size + 1 + 1, 2, none⟩) nR2.out (by simp))
        replace nR3 := Lib.hid (hk.cell (p := ⟨w.heap.size + 1 + 1, 3, none⟩) nR3.out (by simp))
        replace nR4 := Lib.hid (hk.cell (p := ⟨w.heap.size + 1 + 1, 4, none⟩) nR4.out (by simp))
        replace HS := Lib.hid (HS.out.kept0 hk)
        replace HS' := Lib.hid (HS'.out.kept0 hk)
        replace KT := Lib.hid (KT.out.trans0 hk)
        clear hk
        have tA0 := nA0.out
        have tA1 := nA1.out
        have tB0 := nB0.out
        have tB1 := nB1.out
        go_wp2_with fail
        clear tA0 tA1 tB0 tB1
        refine (l2Divs_any _ _ _ _ _ _ _ _ _ _ _ HS.out.rd HS'.out.rd).mono ?_
        rintro e ww2 ⟨rfl, hk⟩
        rw [HZ.out]
        have z2 := hk.size
        replace fR0 := Lib.hid (hk.free' (p := ⟨w.heap.size + 1 + 1, 0, none⟩) nR0.out fR0.out (by simp))
        replace fR1 := Lib.hid (hk.free' (p := ⟨w.heap.size + 1 + 1, 1, none⟩) nR1.out fR1.out (by simp))
        replace fR2 := Lib.hid (hk.free' (p := ⟨w.heap.size + 1 + 1, 2, none⟩) nR2.out fR2.out (by simp))
        replace fR3 := Lib.hid (hk.free' (p := ⟨w.heap.size + 1 + 1, 3, none⟩) nR3.out fR3.out (by simp))
        replace fR4 := Lib.hid (hk.free' (p := ⟨w.heap.size + 1 + 1, 4, none⟩) nR4.out fR4.out (by simp))
        replace nA0 := Lib.hid (hk.cell (p := ⟨w.heap.size, 0, none⟩) nA0.out (by simp))
        replace nA1 := Lib.hid (hk.cell (p := ⟨w.heap.size, 1, none⟩) nA1.out (by simp))
        replace nB0 := Lib.hid (hk.cell (p := ⟨w.heap.size + 1, 0, none⟩) nB0.out (by simp))
        replace nB1 := Lib.hid (hk.cell (p := ⟨w.heap.size + 1, 1, none⟩) nB1.out (by simp))
        replace nR0 := Lib.hid (hk.cell (p := ⟨w.heap.size + 1 + 1, 0, none⟩) nR0.out (by simp))
        replace nR1 := Lib.hid (hk.cell (p := ⟨w.heap.size + 1 + 1, 1, none⟩) nR1.out (by simp))
        replace nR2 := Lib.hid (hk.cell (p := ⟨w.heap.size + 1 + 1, 2, none⟩) nR2.out (by simp))
        replace nR3 := Lib.hid (hk.cell (p := ⟨w.heap.size + 1 + 1, 3, none⟩) nR3.out (by simp))
        replace nR4 := Lib.hid (hk.cell (p := ⟨w.heap.size + 1 + 1, 4, none⟩) nR4.out (by simp))
        replace HS := Lib.hid (HS.out.kept0 hk)
        replace HS' := Lib.hid (HS'.out.kept0 hk)
        replace KT := Lib.hid (KT.out.trans0 hk)
        clear hk
        have tA0 := nA0.out
        have tA1 := nA1.out
        have tB0 := nB0.out
        have tB1 := nB1.out
        have tR0 := nR0.out
        have tR1 := nR1.out
        have tR2 := nR2.out
        have tR3 := nR3.out
        have tR4 := nR4.out
        have uR0 := fR0.out
        have uR1 := fR1.out
        have uR2 := fR2.out
        have uR3 := fR3.out
        have uR4 := fR4.out
        go_wp2_with fail
        clear tA0 tA1 tB0 tB1 tR0 tR1 tR2 tR3 tR4 uR0 uR1 uR2 uR3 uR4
        generalize hW : (((((ww2.setCell ⟨w.heap.size + 1 + 1, 0, none⟩ (.int .i64 6)).setCell ⟨w.heap.size + 1 + 1, 1, none⟩ (.bool false)).setCell ⟨w.heap.size + 1 + 1, 2, none⟩ (.slice none 0 0)).setCell ⟨w.heap.size + 1 + 1, 3, none⟩ (.bool false)).setCell ⟨w.heap.size + 1 + 1, 4, none⟩ (.slice none 0 0)) = ww3
        have hk : Kept [w.heap.size + 1 + 1] ww2 ww3 := by rw [← hW]; exact (((((Kept.refl _ _).setCell _ _ (by simp)).setCell _ _ (by simp)).setCell _ _ (by simp)).setCell _ _ (by simp)).setCell _ _ (by simp)
        have hfz : ∀ x, ww3.frozen? x = ww2.frozen? x := by rw [← hW]; intro x; simp only [World.frozen?_setCell]
        have e0 : ww3.cell? ⟨w.heap.size + 1 + 1, 0, none⟩ = some (.int .i64 6) := by rw [← hW]; rw [World.cell?_setCell_other _ _ _ _ (by simp), World.cell?_setCell_other _ _ _ _ (by simp), World.cell?_setCell_other _ _ _ _ (by simp), World.cell?_setCell_other _ _ _ _ (by simp)]; exact World.cell?_setCell_same _ _ _ (by exact nR0.out)
        have e1 : ww3.cell? ⟨w.heap.size + 1 + 1, 1, none⟩ = some (.bool false) := by rw [← hW]; rw [World.cell?_setCell_other _ _ _ _ (by simp), World.cell?_setCell_other _ _ _ _ (by simp), World.cell?_setCell_other _ _ _ _ (by simp)]; exact World.cell?_setCell_same _ _ _ (by rw [World.cell?_setCell_other _ _ _ _ (by simp)]; exact nR1.out)
        have e2 : ww3.cell? ⟨w.heap.size + 1 + 1, 2, none⟩ = some (.slice none 0 0) := by rw [← hW]; rw [World.cell?_setCell_other _ _ _ _ (by simp), World.cell?_setCell_other _ _ _ _ (by simp)]; exact World.cell?_setCell_same _ _ _ (by rw [World.cell?_setCell_other _ _ _ _ (by simp), World.cell?_setCell_other _ _ _ _ (by simp)]; exact nR2.out)
        have e3 : ww3.cell? ⟨w.heap.size + 1 + 1, 3, none⟩ = some (.bool false) := by rw [← hW]; rw [World.cell?_setCell_other _ _ _ _ (by simp)]; exact World.cell?_setCell_same _ _ _ (by rw [World.cell?_setCell_other _ _ _ _ (by simp), World.cell?_setCell_other _ _ _ _ (by simp), World.cell?_setCell_other _ _ _ _ (by simp)]; exact nR3.out)
        have e4 : ww3.cell? ⟨w.heap.size + 1 + 1, 4, none⟩ = some (.slice none 0 0) := by rw [← hW]; exact World.cell?_setCell_same _ _ _ (by rw [World.cell?_setCell_other _ _ _ _ (by simp), World.cell?_setCell_other _ _ _ _ (by simp), World.cell?_setCell_other _ _ _ _ (by simp), World.cell?_setCell_other _ _ _ _ (by simp)]; exact nR4.out)
        have z3 := hk.size
        replace fR0 := Lib.hid (show ww3.frozen? ⟨w.heap.size + 1 + 1, 0, none⟩ = false by rw [hfz]; exact fR0.out)
        replace fR1 := Lib.hid (show ww3.frozen? ⟨w.heap.size + 1 + 1, 1, none⟩ = false by rw [hfz]; exact fR1.out)
        replace fR2 := Lib.hid (show ww3.frozen? ⟨w.heap.size + 1 + 1, 2, none⟩ = false by rw [hfz]; exact fR2.out)
        replace fR3 := Lib.hid (show ww3.frozen? ⟨w.heap.size + 1 + 1, 3, none⟩ = false by rw [hfz]; exact fR3.out)
        replace fR4 := Lib.hid (show ww3.frozen? ⟨w.heap.size + 1 + 1, 4, none⟩ = false by rw [hfz]; exact fR4.out)
        replace nA0 := Lib.hid (hk.cell (p := ⟨w.heap.size, 0, none⟩) nA0.out (by simp <;> omega))
        replace nA1 := Lib.hid (hk.cell (p := ⟨w.heap.size, 1, none⟩) nA1.out (by simp <;> omega))
        replace nB0 := Lib.hid (hk.cell (p := ⟨w.heap.size + 1, 0, none⟩) nB0.out (by simp <;> omega))
        replace nB1 := Lib.hid (hk.cell (p := ⟨w.heap.size + 1, 1, none⟩) nB1.out (by simp <;> omega))
        replace HS := Lib.hid (HS.out.kept hk (fun hn y hy hm => by have h9 := FS.out hn y hy; simp at hm; omega))
        replace HS' := Lib.hid (HS'.out.kept hk (fun hn y hy hm => by have h9 := FS'.out hn y hy; simp at hm; omega))
        replace nR0 := Lib.hid e0
        replace nR1 := Lib.hid e1
        replace nR2 := Lib.hid e2
        replace nR3 := Lib.hid e3
        replace nR4 := Lib.hid e4
        replace KT := Lib.hid (KT.out.trans hk (fun x hx hlt => by simp at hx; omega))
        clear hk hfz hW e0 e1 e2 e3 e4
        have e0 := nR0.out
        have e1 := nR1.out
        have e2 := nR2.out
        have e3 := nR3.out
        have e4 := nR4.out
        refine bodyPost_ret (v := .agg #[.int .i64 6, .bool false, .slice none 0 0, .bool false, .slice none 0 0]) (by simp [results, Try.results37, go_sem, e0, e1, e2, e3, e4]) rfl ?_
        exact spanM_no KT.out
      · skip
        by_cases h20 : 20 < n
        · skip
          rw [show ratS P p xs q ys = noSpan 2 from by unfold ratS; rw [if_pos hP, twoS_zero hz, if_neg hy0, if_pos (by omega)]]
          have HZ := Lib.hid (show (if bigFault2 p xs q ys = 0 then (if ys.length = 0 then (6 : Int) else 0) else bigFault2 p xs q ys) = 0 by rw [if_pos hz, if_neg hy0])
          have HP := Lib.hid hP
          have q2 : decide ((20 : Int) < (n : Int)) = true := decide_eq_true (by omega)
          clear hz hP hy0 hM hL
          go_enter Try.func37, Try.ntmps37
          go_wp2_with fail
          generalize hW : (((w.alloc (.cells #[.bool p, .slice a n c] 29)).alloc (.cells #[.bool q, .slice b m d] 29)).alloc (.cells #[.int .i64 0, .bool false, .slice none 0 0, .bool false, .slice none 0 0] 38)) = ww0
          have hkk : Kept [] (((w.alloc (.cells #[.bool p, .slice a n c] 29)).alloc (.cells #[.bool q, .slice b m d] 29)).alloc (.cells #[.int .i64 0, .bool false, .slice none 0 0, .bool false, .slice none 0 0] 38)) ww0 := by rw [hW]; exact Kept.refl _ _
          have zzA : w.heap.size + 1 + 1 + 1 = ww0.heap.size := by rw [← hW]; simp
          have nA0 := Lib.hid (hkk.peel.peel.top (g := w.heap.size) (by simp) (by simp) 0 (v := .bool p) rfl).1
          have nA1 := Lib.hid (hkk.peel.peel.top (g := w.heap.size) (by simp) (by simp) 1 (v := .slice a n c) rfl).1
          have nB0 := Lib.hid (hkk.peel.top (g := w.heap.size + 1) (by simp) (by simp) 0 (v := .bool q) rfl).1
          have nB1 := Lib.hid (hkk.peel.top (g := w.heap.size + 1) (by simp) (by simp) 1 (v := .slice b m d) rfl).1
          have nR0 := Lib.hid (hkk.top (g := w.heap.size + 1 + 1) (by simp) (by simp) 0 (v := .int .i64 0) rfl).1
          have fR0 := Lib.hid (hkk.top (g := w.heap.size + 1 + 1) (by simp) (by simp) 0 (v := .int .i64 0) rfl).2.1
          have nR1 := Lib.hid (hkk.top (g := w.heap.size + 1 + 1) (by simp) (by simp) 1 (v := .bool false) rfl).1
          have fR1 := Lib.hid (hkk.top (g := w.heap.size + 1 + 1) (by simp) (by simp) 1 (v := .bool false) rfl).2.1
          have nR2 := Lib.hid (hkk.top (g := w.heap.size + 1 + 1) (by simp) (by simp) 2 (v := .slice none 0 0) rfl).1
          have fR2 := Lib.hid (hkk.top (g := w.heap.size + 1 + 1) (by simp) (by simp) 2 (v := .slice none 0 0) rfl).2.1
          have nR3 := Lib.hid (hkk.top (g := w.heap.size + 1 + 1) (by simp) (by simp) 3 (v := .bool false) rfl).1
          have fR3 := Lib.hid (hkk.top (g := w.heap.size + 1 + 1) (by simp) (by simp) 3 (v := .bool false) rfl).2.1
          have nR4 := Lib.hid (hkk.top (g := w.heap.size + 1 + 1) (by simp) (by simp) 4 (v := .slice none 0 0) rfl).1
          have fR4 := Lib.hid (hkk.top (g := w.heap.size + 1 + 1) (by simp) (by simp) 4 (v := .slice none 0 0) rfl).2.1
          have hk := hkk.peel.peel.peel
          clear hkk hW
          have z0 := hk.size
          have KT := Lib.hid hk
          clear hk
          replace HS := Lib.hid (HS.out.kept0 KT.out)
          replace HS' := Lib.hid (HS'.out.kept0 KT.out)
          refine (l3Prec_any _ _).mono ?_
          rintro e ww1 ⟨rfl, hk⟩
          rw [HP.out]
          have z1 := hk.size
          replace fR0 := Lib.hid (hk.free' (p := ⟨w.heap.size + 1 + 1, 0, none⟩) nR0.out fR0.out (by simp))
          replace fR1 := Lib.hid (hk.free' (p := ⟨w.heap.size + 1 + 1, 1, none⟩) nR1.out fR1.out (by simp))
          replace fR2 := Lib.hid (hk.free' (p := ⟨w.heap.size + 1 + 1, 2, none⟩) nR2.out fR2.out (by simp))
          replace fR3 := Lib.hid (hk.free' (p := ⟨w.heap.size + 1 + 1, 3, none⟩) nR3.out fR3.out (by simp))
          replace fR4 := Lib.hid (hk.free' (p := ⟨w.heap.size + 1 + 1, 4, none⟩) nR4.out fR4.out (by simp))
          replace nA0 := Lib.hid (hk.cell (p := ⟨w.heap.size, 0, none⟩) nA0.out (by simp))
          replace nA1 := Lib.hid (hk.cell (p := ⟨w.heap.size, 1, none⟩) nA1.out (by simp))
          replace nB0 := Lib.hid (hk.cell (p := ⟨w.heap.size + 1, 0, none⟩) nB0.out (by simp))
          replace nB1 := Lib.hid (hk.cell (p := ⟨w.heap.size + 1, 1, none⟩) nB1.out (by simp))
          replace nR0 := Lib.hid (hk.cell (p := ⟨w.heap.size + 1 + 1, 0, none⟩) nR0.out (by simp))
          replace nR1 := Lib.hid (hk.cell (p := ⟨w.heap.size + 1 + 1, 1, none⟩) nR1.out (by simp))
          replace nR2 := Lib.hid (hk.cell (p := ⟨w.heap.size + 1 + 1, 2, none⟩) nR2.out (by simp))
          replace nR3 := Lib.hid (hk.cell (p := ⟨w.heap.size + 1 + 1, 3, none⟩) nR3.out (by simp))
          replace nR4 := Lib.hid (hk.cell (p := ⟨w.heap.size + 1 + 1, 4, none⟩) nR4.out (by simp))
          replace HS := Lib.hid (HS.out.kept0 hk)
          replace HS' := Lib.hid (HS'.out.kept0 hk)
          replace KT := Lib.hid (KT.out.trans0 hk)
          clear hk
          have tA0 := nA0.out
          have tA1 := nA1.out
          have tB0 := nB0.out
          have tB1 := nB1.out
          go_wp2_with fail
          clear tA0 tA1 tB0 tB1
          refine (l2Divs_any _ _ _ _ _ _ _ _ _ _ _ HS.out.rd HS'.out.rd).mono ?_
          rintro e ww2 ⟨rfl, hk⟩
          rw [HZ.out]
          have z2 := hk.size
          replace fR0 := Lib.hid (hk.free' (p := ⟨w.heap.size + 1 + 1, 0, none⟩) nR0.out fR0.out (by simp))
          replace fR1 := Lib.hid (hk.free' (p := ⟨w.heap.size + 1 + 1, 1, none⟩) nR1.out fR1.out (by simp))
          replace fR2 := Lib.hid (hk.free' (p := ⟨w.heap.size + 1 + 1, 2, none⟩) nR2.out fR2.out (by simp))
          replace fR3 := Lib.hid (hk.free' (p := ⟨w.heap.size + 1 + 1, 3, none⟩) nR3.out fR3.out (by simp))
          replace fR4 := Lib.hid (hk.free' (p := ⟨w.heap.size + 1 + 1, 4, none⟩) nR4.out fR4.out (by simp))
          replace nA0 := Lib.hid (hk.cell (p := ⟨w.heap.size, 0, none⟩) nA0.out (by simp))
          replace nA1 := Lib.hid (hk.cell (p := ⟨w.heap.size, 1, none⟩) nA1.out (by simp))
          replace nB0 := Lib.hid (hk.cell (p := ⟨w.heap.size + 1, 0, none⟩) nB0.out (by simp))
          replace nB1 := Lib.hid (hk.cell (p := ⟨w.heap.size + 1, 1, none⟩) nB1.out (by simp))
          replace nR0 := Lib.hid (hk.cell (p := ⟨w.heap.size + 1 + 1, 0, none⟩) nR0.out (by simp))
          replace nR1 := Lib.hid (hk.cell (p := ⟨w.heap.size + 1 + 1, 1, none⟩) nR1.out (by simp))
          replace nR2 := Lib.hid (hk.cell (p := ⟨w.heap.size + 1 + 1, 2, none⟩) nR2.out (by simp))
          replace nR3 := Lib.hid (hk.cell (p := ⟨w.heap.size + 1 + 1, 3, none⟩) nR3.out (by simp))
          replace nR4 := Lib.hid (hk.cell (p := ⟨w.heap.size + 1 + 1, 4, none⟩) nR4.out (by simp))
          replace HS := Lib.hid (HS.out.kept0 hk)
          replace HS' := Lib.hid (HS'.out.kept0 hk)
          replace KT := Lib.hid (KT.out.trans0 hk)
          clear hk
          have tA0 := nA0.out
          have tA1 := nA1.out
          have tB0 := nB0.out
          have tB1 := nB1.out
          have tR0 := nR0.out
          have tR1 := nR1.out
          have tR2 := nR2.out
          have tR3 := nR3.out
          have tR4 := nR4.out
          have uR0 := fR0.out
          have uR1 := fR1.out
          have uR2 := fR2.out
          have uR3 := fR3.out
          have uR4 := fR4.out
          go_wp2_with fail
          clear tA0 tA1 tB0 tB1 tR0 tR1 tR2 tR3 tR4 uR0 uR1 uR2 uR3 uR4
          generalize hW : (((((ww2.setCell ⟨w.heap.size + 1 + 1, 0, none⟩ (.int .i64 2)).setCell ⟨w.heap.size + 1 + 1, 1, none⟩ (.bool false)).setCell ⟨w.heap.size + 1 + 1, 2, none⟩ (.slice none 0 0)).setCell ⟨w.heap.size + 1 + 1, 3, none⟩ (.bool false)).setCell ⟨w.heap.size + 1 + 1, 4, none⟩ (.slice none 0 0)) = ww3
          have hk : Kept [w.heap.size + 1 + 1] ww2 ww3 := by rw [← hW]; exact (((((Kept.refl _ _).setCell _ _ (by simp)).setCell _ _ (by simp)).setCell _ _ (by simp)).setCell _ _ (by simp)).setCell _ _ (by simp)
          have hfz : ∀ x, ww3.frozen? x = ww2.frozen? x := by rw [← hW]; intro x; simp only [World.frozen?_setCell]
          have e0 : ww3.cell? ⟨w.heap.size + 1 + 1, 0, none⟩ = some (.int .i64 2) := by rw [← hW]; rw [World.cell?_setCell_other _ _ _ _ (by simp), World.cell?_setCell_other _ _ _ _ (by simp), World.cell?_setCell_other _ _ _ _ (by simp), World.cell?_setCell_other _ _ _ _ (by simp)]; exact World.cell?_setCell_same _ _ _ (by exact nR0.out)
          have e1 : ww3.cell? ⟨w.heap.size + 1 + 1, 1, none⟩ = some (.bool false) := by rw [← hW]; rw [World.cell?_setCell_other _ _ _ _ (by simp), World.cell?_setCell_other _ _ _ _ (by simp), World.cell?_setCell_other _ _ _ _ (by simp)]; exact World.cell?_setCell_same _ _ _ (by rw [World.cell?_setCell_other _ _ _ _ (by simp)]; exact nR1.out)
          have e2 : ww3.cell? ⟨w.heap.size + 1 + 1, 2, none⟩ = some (.slice none 0 0) := by rw [← hW]; rw [World.cell?_setCell_other _ _ _ _ (by simp), World.cell?_setCell_other _ _ _ _ (by simp)]; exact World.cell?_setCell_same _ _ _ (by rw [World.cell?_setCell_other _ _ _ _ (by simp), World.cell?_setCell_other _ _ _ _ (by simp)]; exact nR2.out)
          have e3 : ww3.cell? ⟨w.heap.size + 1 + 1, 3, none⟩ = some (.bool false) := by rw [← hW]; rw [World.cell?_setCell_other _ _ _ _ (by simp)]; exact World.cell?_setCell_same _ _ _ (by rw [World.cell?_setCell_other _ _ _ _ (by simp), World.cell?_setCell_other _ _ _ _ (by simp), World.cell?_setCell_other _ _ _ _ (by simp)]; exact nR3.out)
          have e4 : ww3.cell? ⟨w.heap.size + 1 + 1, 4, none⟩ = some (.slice none 0 0) := by rw [← hW]; exact World.cell?_setCell_same _ _ _ (by rw [World.cell?_setCell_other _ _ _ _ (by simp), World.cell?_setCell_other _ _ _ _ (by simp), World.cell?_setCell_other _ _ _ _ (by simp), World.cell?_setCell_other _ _ _ _ (by simp)]; exact nR4.out)
          have z3 := hk.size
          replace fR0 := Lib.hid (show ww3.frozen? ⟨w.heap.size + 1 + 1, 0, none⟩ = false by rw [hfz]; exact fR0.out)
          replace fR1 := Lib.hid (show ww3.frozen? ⟨w.heap.size + 1 + 1, 1, none⟩ = false by rw [hfz]; exact fR1.out)
          replace fR2 := Lib.hid (show ww3.frozen? ⟨w.heap.size + 1 + 1, 2, none⟩ = false by rw [hfz]; exact fR2.out)
          replace fR3 := Lib.hid (show ww3.frozen? ⟨w.heap.size + 1 + 1, 3, none⟩ = false by rw [hfz]; exact fR3.out)
          replace fR4 := Lib.hid (show ww3.frozen? ⟨w.heap.size + 1 + 1, 4, none⟩ = false by rw [hfz]; exact fR4.out)
          replace nA0 := Lib.hid (hk.cell (p := ⟨w.heap.size, 0, none⟩) nA0.out (by simp <;> omega))
          replace nA1 := Lib.hid (hk.cell (p := ⟨w.heap.size, 1, none⟩) nA1.out (by simp <;> omega))
          replace nB0 := Lib.hid (hk.cell (p := ⟨w.heap.size + 1, 0, none⟩) nB0.out (by simp <;> omega))
          replace nB1 := Lib.hid (hk.cell (p := ⟨w.heap.size + 1, 1, none⟩) nB1.out (by simp <;> omega))
          replace HS := Lib.hid (HS.out.kept hk (fun hn y hy hm => by have h9 := FS.out hn y hy; simp at hm; omega))
          replace HS' := Lib.hid (HS'.out.kept hk (fun hn y hy hm => by have h9 := FS'.out hn y hy; simp at hm; omega))
          replace nR0 := Lib.hid e0
          replace nR1 := Lib.hid e1
          replace nR2 := Lib.hid e2
          replace nR3 := Lib.hid e3
          replace nR4 := Lib.hid e4
          replace KT := Lib.hid (KT.out.trans hk (fun x hx hlt => by simp at hx; omega))
          clear hk hfz hW e0 e1 e2 e3 e4
          have e0 := nR0.out
          have e1 := nR1.out
          have e2 := nR2.out
          have e3 := nR3.out
          have e4 := nR4.out
          refine bodyPost_ret (v := .agg #[.int .i64 2, .bool false, .slice none 0 0, .bool false, .slice none 0 0]) (by simp [results, Try.results37, go_sem, e0, e1, e2, e3, e4]) rfl ?_
          exact spanM_no KT.out
        have g20 := h20
        clear h20
        by_cases h20 : 20 < m
        · skip
          rw [show ratS P p xs q ys = noSpan 2 from by unfold ratS; rw [if_pos hP, twoS_zero hz, if_neg hy0, if_pos (by omega)]]
          have HZ := Lib.hid (show (if bigFault2 p xs q ys = 0 then (if ys.length = 0 then (6 : Int) else 0) else bigFault2 p xs q ys) = 0 by rw [if_pos hz, if_neg hy0])
          have HP := Lib.hid hP
          have q2 : decide ((20 : Int) < (m : Int)) = true := decide_eq_true (by omega)
          have q1 : decide ((20 : Int) < (n : Int)) = false := decide_eq_false (by omega)
          clear hz hP hy0 hM hL
          go_enter Try.func37, Try.ntmps37
          go_wp2_with fail
          generalize hW : (((w.alloc (.cells #[.bool p, .slice a n c] 29)).alloc (.cells #[.bool q, .slice b m d] 29)).alloc (.cells #[.int .i64 0, .bool false, .slice none 0 0, .bool false, .slice none 0 0] 38)) = ww0
          have hkk : Kept [] (((w.alloc (.cells #[.bool p, .slice a n c] 29)).alloc (.cells #[.bool q, .slice b m d] 29)).alloc (.cells #[.int .i64 0, .bool false, .slice none 0 0, .bool false, .slice none 0 0] 38)) ww0 := by rw [hW]; exact Kept.refl _ _
          have zzA : w.heap.size + 1 + 1 + 1 = ww0.heap.size := by rw [← hW]; simp
          have nA0 := Lib.hid (hkk.peel.peel.top (g := w.heap.size) (by simp) (by simp) 0 (v := .bool p) rfl).1
          have nA1 := Lib.hid (hkk.peel.peel.top (g := w.heap.size) (by simp) (by simp) 1 (v := .slice a n c) rfl).1
          have nB0 := Lib.hid (hkk.peel.top (g := w.heap.size + 1) (by simp) (by simp) 0 (v := .bool q) rfl).1
          have nB1 := Lib.hid (hkk.peel.top (g := w.heap.size + 1) (by simp) (by simp) 1 (v := .slice b m d) rfl).1
          have nR0 := Lib.hid (hkk.top (g := w.heap.size + 1 + 1) (by simp) (by simp) 0 (v := .int .i64 0) rfl).1
          have fR0 := Lib.hid (hkk.top (g := w.heap.size + 1 + 1) (by simp) (by simp) 0 (v := .int .i64 0) rfl).2.1
          have nR1 := Lib.hid (hkk.top (g := w.heap.size + 1 + 1) (by simp) (by simp) 1 (v := .bool false) rfl).1
          have fR1 := Lib.hid (hkk.top (g := w.heap.size + 1 + 1) (by simp) (by simp) 1 (v := .bool false) rfl).2.1
          have nR2 := Lib.hid (hkk.top (g := w.heap.size + 1 + 1) (by simp) (by simp) 2 (v := .slice none 0 0) rfl).1
          have fR2 := Lib.hid (hkk.top (g := w.heap.size + 1 + 1) (by simp) (by simp) 2 (v := .slice none 0 0) rfl).2.1
          have nR3 := Lib.hid (hkk.top (g := w.heap.size + 1 + 1) (by simp) (by simp) 3 (v := .bool false) rfl).1
          have fR3 := Lib.hid (hkk.top (g := w.heap.size + 1 + 1) (by simp) (by simp) 3 (v := .bool false) rfl).2.1
          have nR4 := Lib.hid (hkk.top (g := w.heap.size + 1 + 1) (by simp) (by simp) 4 (v := .slice none 0 0) rfl).1
          have fR4 := Lib.hid (hkk.top (g := w.heap.size + 1 + 1) (by simp) (by simp) 4 (v := .slice none 0 0) rfl).2.1
          have hk := hkk.peel.peel.peel
          clear hkk hW
          have z0 := hk.size
          have KT := Lib.hid hk
          clear hk
          replace HS := Lib.hid (HS.out.kept0 KT.out)
          replace HS' := Lib.hid (HS'.out.kept0 KT.out)
          refine (l3Prec_any _ _).mono ?_
          rintro e ww1 ⟨rfl, hk⟩
          rw [HP.out]
          have z1 := hk.size
          replace fR0 := Lib.hid (hk.free' (p := ⟨w.heap.size + 1 + 1, 0, none⟩) nR0.out fR0.out (by simp))
          replace fR1 := Lib.hid (hk.free' (p := ⟨w.heap.size + 1 + 1, 1, none⟩) nR1.out fR1.out (by simp))
          replace fR2 := Lib.hid (hk.free' (p := ⟨w.heap.size + 1 + 1, 2, none⟩) nR2.out fR2.out (by simp))
          replace fR3 := Lib.hid (hk.free' (p := ⟨w.heap.size + 1 + 1, 3, none⟩) nR3.out fR3.out (by simp))
          replace fR4 := Lib.hid (hk.free' (p := ⟨w.heap.size + 1 + 1, 4, none⟩) nR4.out fR4.out (by simp))
          replace nA0 := Lib.hid (hk.cell (p := ⟨w.heap.size, 0, none⟩) nA0.out (by simp))
          replace nA1 := Lib.hid (hk.cell (p := ⟨w.heap.size, 1, none⟩) nA1.out (by simp))
          replace nB0 := Lib.hid (hk.cell (p := ⟨w.heap.size + 1, 0, none⟩) nB0.out (by simp))
          replace nB1 := Lib.hid (hk.cell (p := ⟨w.heap.size + 1, 1, none⟩) nB1.out (by simp))
          replace nR0 := Lib.hid (hk.cell (p := ⟨w.heap.size + 1 + 1, 0, none⟩) nR0.out (by simp))
          replace nR1 := Lib.hid (hk.cell (p := ⟨w.heap.size + 1 + 1, 1, none⟩) nR1.out (by simp))
          replace nR2 := Lib.hid (hk.cell (p := ⟨w.heap.size + 1 + 1, 2, none⟩) nR2.out (by simp))
          replace nR3 := Lib.hid (hk.cell (p := ⟨w.heap.size + 1 + 1, 3, none⟩) nR3.out (by simp))
          replace nR4 := Lib.hid (hk.cell (p := ⟨w.heap.size + 1 + 1, 4, none⟩) nR4.out (by simp))
          replace HS := Lib.hid (HS.out.kept0 hk)
          replace HS' := Lib.hid (HS'.out.kept0 hk)
          replace KT := Lib.hid (KT.out.trans0 hk)
          clear hk
          have tA0 := nA0.out
          have tA1 := nA1.out
          have tB0 := nB0.out
          have tB1 := nB1.out
          go_wp2_with fail
          clear tA0 tA1 tB0 tB1
          refine (l2Divs_any _ _ _ _ _ _ _ _ _ _ _ HS.out.rd HS'.out.rd).mono ?_
          rintro e ww2 ⟨rfl, hk⟩
          rw [HZ.out]
          have z2 := hk.size
          replace fR0 := Lib.hid (hk.free' (p := ⟨w.heap.size + 1 + 1, 0, none⟩) nR0.out fR0.out (by simp))
          replace fR1 := Lib.hid (hk.free' (p := ⟨w.heap.size + 1 + 1, 1, none⟩) nR1.out fR1.out (by simp))
          replace fR2 := Lib.hid (hk.free' (p := ⟨w.heap.size + 1 + 1, 2, none⟩) nR2.out fR2.out (by simp))
          replace fR3 := Lib.hid (hk.free' (p := ⟨w.heap.size + 1 + 1, 3, none⟩) nR3.out fR3.out (by simp))
          replace fR4 := Lib.hid (hk.free' (p := ⟨w.heap.size + 1 + 1, 4, none⟩) nR4.out fR4.out (by simp))
          replace nA0 := Lib.hid (hk.cell (p := ⟨w.heap.size, 0, none⟩) nA0.out (by simp))
          replace nA1 := Lib.hid (hk.cell (p := ⟨w.heap.size, 1, none⟩) nA1.out (by simp))
          replace nB0 := Lib.hid (hk.cell (p := ⟨w.heap.size + 1, 0, none⟩) nB0.out (by simp))
          replace nB1 := Lib.hid (hk.cell (p := ⟨w.heap.size + 1, 1, none⟩) nB1.out (by simp))
          replace nR0 := Lib.hid (hk.cell (p := ⟨w.heap.size + 1 + 1, 0, none⟩) nR0.out (by simp))
          replace nR1 := Lib.hid (hk.cell (p := ⟨w.heap.size + 1 + 1, 1, none⟩) nR1.out (by simp))
          replace nR2 := Lib.hid (hk.cell (p := ⟨w.heap.size + 1 + 1, 2, none⟩) nR2.out (by simp))
          replace nR3 := Lib.hid (hk.cell (p := ⟨w.heap.size + 1 + 1, 3, none⟩) nR3.out (by simp))
          replace nR4 := Lib.hid (hk.cell (p := ⟨w.heap.size + 1 + 1, 4, none⟩) nR4.out (by simp))
          replace HS := Lib.hid (HS.out.kept0 hk)
          replace HS' := Lib.hid (HS'.out.kept0 hk)
          replace KT := Lib.hid (KT.out.trans0 hk)
          clear hk
          have tA0 := nA0.out
          have tA1 := nA1.out
          have tB0 := nB0.out
          have tB1 := nB1.out
          have tR0 := nR0.out
          have tR1 := nR1.out
          have tR2 := nR2.out
          have tR3 := nR3.out
          have tR4 := nR4.out
          have uR0 := fR0.out
          have uR1 := fR1.out
          have uR2 := fR2.out
          have uR3 := fR3.out
          have uR4 := fR4.out
          go_wp2_with fail
          clear tA0 tA1 tB0 tB1 tR0 tR1 tR2 tR3 tR4 uR0 uR1 uR2 uR3 uR4
          generalize hW : (((((ww2.setCell ⟨w.heap.size + 1 + 1, 0, none⟩ (.int .i64 2)).setCell ⟨w.heap.size + 1 + 1, 1, none⟩ (.bool false)).setCell ⟨w.heap.size + 1 + 1, 2, none⟩ (.slice none 0 0)).setCell ⟨w.heap.size + 1 + 1, 3, none⟩ (.bool false)).setCell ⟨w.heap.size + 1 + 1, 4, none⟩ (.slice none 0 0)) = ww3
          have hk : Kept [w.heap.size + 1 + 1] ww2 ww3 := by rw [← hW]; exact (((((Kept.refl _ _).setCell _ _ (by simp)).setCell _ _ (by simp)).setCell _ _ (by simp)).setCell _ _ (by simp)).setCell _ _ (by simp)
          have hfz : ∀ x, ww3.frozen? x = ww2.frozen? x := by rw [← hW]; intro x; simp only [World.frozen?_setCell]
          have e0 : ww3.cell? ⟨w.heap.size + 1 + 1, 0, none⟩ = some (.int .i64 2) := by rw [← hW]; rw [World.cell?_setCell_other _ _ _ _ (by simp), World.cell?_setCell_other _ _ _ _ (by simp), World.cell?_setCell_other _ _ _ _ (by simp), World.cell?_setCell_other _ _ _ _ (by simp)]; exact World.cell?_setCell_same _ _ _ (by exact nR0.out)
          have e1 : ww3.cell? ⟨w.heap.size + 1 + 1, 1, none⟩ = some (.bool false) := by rw [← hW]; rw [World.cell?_setCell_other _ _ _ _ (by simp), World.cell?_setCell_other _ _ _ _ (by simp), World.cell?_setCell_other _ _ _ _ (by simp)]; exact World.cell?_setCell_same _ _ _ (by rw [World.cell?_setCell_other _ _ _ _ (by simp)]; exact nR1.out)
          have e2 : ww3.cell? ⟨w.heap.size + 1 + 1, 2, none⟩ = some (.slice none 0 0) := by rw [← hW]; rw [World.cell?_setCell_other _ _ _ _ (by simp), World.cell?_setCell_other _ _ _ _ (by simp)]; exact World.cell?_setCell_same _ _ _ (by rw [World.cell?_setCell_other _ _ _ _ (by simp), World.cell?_setCell_other _ _ _ _ (by simp)]; exact nR2.out)
          have e3 : ww3.cell? ⟨w.heap.size + 1 + 1, 3, none⟩ = some (.bool false) := by rw [← hW]; rw [World.cell?_setCell_other _ _ _ _ (by simp)]; exact World.cell?_setCell_same _ _ _ (by rw [World.cell?_setCell_other _ _ _ _ (by simp), World.cell?_setCell_other _ _ _ _ (by simp), World.cell?_setCell_other _ _ _ _ (by simp)]; exact nR3.out)
          have e4 : ww3.cell? ⟨w.heap.size + 1 + 1, 4, none⟩ = some (.slice none 0 0) := by rw [← hW]; exact World.cell?_setCell_same _ _ _ (by rw [World.cell?_setCell_other _ _ _ _ (by simp), World.cell?_setCell_other _ _ _ _ (by simp), World.cell?_setCell_other _ _ _ _ (by simp), World.cell?_setCell_other _ _ _ _ (by simp)]; exact nR4.out)
          have z3 := hk.size
          replace fR0 := Lib.hid (show ww3.frozen? ⟨w.heap.size + 1 + 1, 0, none⟩ = false by rw [hfz]; exact fR0.out)
          replace fR1 := Lib.hid (show ww3.frozen? ⟨w.heap.size + 1 + 1, 1, none⟩ = false by rw [hfz]; exact fR1.out)
          replace fR2 := Lib.hid (show ww3.frozen? ⟨w.heap.size + 1 + 1, 2, none⟩ = false by rw [hfz]; exact fR2.out)
          replace fR3 := Lib.hid (show ww3.frozen? ⟨w.heap.size + 1 + 1, 3, none⟩ = false by rw [hfz]; exact fR3.out)
          replace fR4 := Lib.hid (show ww3.frozen? ⟨w.heap.size + 1 + 1, 4, none⟩ = false by rw [hfz]; exact fR4.out)
          replace nA0 := Lib.hid (hk.cell (p := ⟨w.heap.size, 0, none⟩) nA0.out (by simp <;> omega))
          replace nA1 := Lib.hid (hk.cell (p := ⟨w.heap.size, 1, none⟩) nA1.out (by simp <;> omega))
          replace nB0 := Lib.hid (hk.cell (p := ⟨w.heap.size + 1, 0, none⟩) nB0.out (by simp <;> omega))
          replace nB1 := Lib.hid (hk.cell (p := ⟨w.heap.size + 1, 1, none⟩) nB1.out (by simp <;> omega))
          replace HS := Lib.hid (HS.out.kept hk (fun hn y hy hm => by have h9 := FS.out hn y hy; simp at hm; omega))
          replace HS' := Lib.hid (HS'.out.kept hk (fun hn y hy hm => by have h9 := FS'.out hn y hy; simp at hm; omega))
          replace nR0 := Lib.hid e0
          replace nR1 := Lib.hid e1
          replace nR2 := Lib.hid e2
          replace nR3 := Lib.hid e3
          replace nR4 := Lib.hid e4
          replace KT := Lib.hid (KT.out.trans hk (fun x hx hlt => by simp at hx; omega))
          clear hk hfz hW e0 e1 e2 e3 e4
          have e0 := nR0.out
          have e1 := nR1.out
          have e2 := nR2.out
          have e3 := nR3.out
          have e4 := nR4.out
          refine bodyPost_ret (v := .agg #[.int .i64 2, .bool false, .slice none 0 0, .bool false, .slice none 0 0]) (by simp [results, Try.results37, go_sem, e0, e1, e2, e3, e4]) rfl ?_
          exact spanM_no KT.out
        have q1 : decide ((20 : Int) < (n : Int)) = false := decide_eq_false (by omega)
        have q2 : decide ((20 : Int) < (m : Int)) = false := decide_eq_false (by omega)
        have lx : xs.length ≤ 20 := by omega
        obtain ⟨u, hu⟩ : ∃ u, u = inU P p xs := ⟨_, rfl⟩
        obtain ⟨hx, hy⟩ := bigFault2_zero hz
        have hul : (mag u).length ≤ 27 := by rw [hu]; exact inU_len hP hx (by omega)
        obtain ⟨t1, ht1⟩ : ∃ t, t = divZ false (isNeg u) q (val (mag u)) (val ys) := ⟨_, rfl⟩
        obtain ⟨t2, ht2⟩ : ∃ t, t = divZ true (isNeg u) q (val (mag u)) (val ys) := ⟨_, rfl⟩
        obtain ⟨r, hr⟩ : ∃ r, r = fitS t1 t2 := ⟨_, rfl⟩
        rw [show ratS P p xs q ys = r from by unfold ratS; rw [if_pos hP, twoS_zero hz, if_neg hy0, if_neg (by omega), ← hu, ← ht1, ← ht2, hr]]
        have HZ := Lib.hid (show (if bigFault2 p xs q ys = 0 then (if ys.length = 0 then (6 : Int) else 0) else bigFault2 p xs q ys) = 0 by rw [if_pos hz, if_neg hy0])
        have HP := Lib.hid hP
        have HR := Lib.hid hr
        have HT1 := Lib.hid ht1
        have HT2 := Lib.hid ht2
        have HX := Lib.hid hx
        have HY := Lib.hid hy
        have HY0 := Lib.hid hy0
        have HU := Lib.hid hu
        clear hz hP hr ht1 ht2 hx hy hu hy0 hM hL
        go_enter Try.func37, Try.ntmps37
        go_wp2_with fail
        generalize hW : (((w.alloc (.cells #[.bool p, .slice a n c] 29)).alloc (.cells #[.bool q, .slice b m d] 29)).alloc (.cells #[.int .i64 0, .bool false, .slice none 0 0, .bool false, .slice none 0 0] 38)) = ww0
        have hkk : Kept [] (((w.alloc (.cells #[.bool p, .slice a n c] 29)).alloc (.cells #[.bool q, .slice b m d] 29)).alloc (.cells #[.int .i64 0, .bool false, .slice none 0 0, .bool false, .slice none 0 0] 38)) ww0 := by rw [hW]; exact Kept.refl _ _
        have zzA : w.heap.size + 1 + 1 + 1 = ww0.heap.size := by rw [← hW]; simp
        have nA0 := Lib.hid (hkk.peel.peel.top (g := w.heap.size) (by simp) (by simp) 0 (v := .bool p) rfl).1
        have nA1 := Lib.hid (hkk.peel.peel.top (g := w.heap.size) (by simp) (by simp) 1 (v := .slice a n c) rfl).1
        have nB0 := Lib.hid (hkk.peel.top (g := w.heap.size + 1) (by simp) (by simp) 0 (v := .bool q) rfl).1
        have nB1 := Lib.hid (hkk.peel.top (g := w.heap.size + 1) (by simp) (by simp) 1 (v := .slice b m d) rfl).1
        have nR0 := Lib.hid (hkk.top (g := w.heap.size + 1 + 1) (by simp) (by simp) 0 (v := .int .i64 0) rfl).1
        have fR0 := Lib.hid (hkk.top (g := w.heap.size + 1 + 1) (by simp) (by simp) 0 (v := .int .i64 0) rfl).2.1
        have nR1 := Lib.hid (hkk.top (g := w.heap.size + 1 + 1) (by simp) (by simp) 1 (v := .bool false) rfl).1
        have fR1 := Lib.hid (hkk.top (g := w.heap.size + 1 + 1) (by simp) (by simp) 1 (v := .bool false) rfl).2.1
        have nR2 := Lib.hid (hkk.top (g := w.heap.size + 1 + 1) (by simp) (by simp) 2 (v := .slice none 0 0) rfl).1
        have fR2 := Lib.hid (hkk.top (g := w.heap.size + 1 + 1) (by simp) (by simp) 2 (v := .slice none 0 0) rfl).2.1
        have nR3 := Lib.hid (hkk.top (g := w.heap.size + 1 + 1) (by simp) (by simp) 3 (v := .bool false) rfl).1
        have fR3 := Lib.hid (hkk.top (g := w.heap.size + 1 + 1) (by simp) (by simp) 3 (v := .bool false) rfl).2.1
        have nR4 := Lib.hid (hkk.top (g := w.heap.size + 1 + 1) (by simp) (by simp) 4 (v := .slice none 0 0) rfl).1
        have fR4 := Lib.hid (hkk.top (g := w.heap.size + 1 + 1) (by simp) (by simp) 4 (v := .slice none 0 0) rfl).2.1
        have hk := hkk.peel.peel.peel
        clear hkk hW
        have z0 := hk.size
        have KT := Lib.hid hk
        clear hk
        replace HS := Lib.hid (HS.out.kept0 KT.out)
        replace HS' := Lib.hid (HS'.out.kept0 KT.out)
        refine (l3Prec_any _ _).mono ?_
        rintro e ww1 ⟨rfl, hk⟩
        rw [HP.out]
        have z1 := hk.size
        replace fR0 := Lib.hid (hk.free' (p := ⟨w.heap.size + 1 + 1, 0, none⟩) nR0.out fR0.out (by simp))
        replace fR1 := Lib.hid (hk.free' (p := ⟨w.heap.size + 1 + 1, 1, none⟩) nR1.out fR1.out (by simp))
        replace fR2 := Lib.hid (hk.free' (p := ⟨w.heap.size + 1 + 1, 2, none⟩) nR2.out fR2.out (by simp))
        replace fR3 := Lib.hid (hk.free' (p := ⟨w.heap.size + 1 + 1, 3, none⟩) nR3.out fR3.out (by simp))
        replace fR4 := Lib.hid (hk.free' (p := ⟨w.heap.size + 1 + 1, 4, none⟩) nR4.out fR4.out (by simp))
        replace nA0 := Lib.hid (hk.cell (p := ⟨w.heap.size, 0, none⟩) nA0.out (by simp))
        replace nA1 := Lib.hid (hk.cell (p := ⟨w.heap.size, 1, none⟩) nA1.out (by simp))
        replace nB0 := Lib.hid (hk.cell (p := ⟨w.heap.size + 1, 0, none⟩) nB0.out (by simp))
        replace nB1 := Lib.hid (hk.cell (p := ⟨w.heap.size + 1, 1, none⟩) nB1.out (by simp))
        replace nR0 := Lib.hid (hk.cell (p := ⟨w.heap.size + 1 + 1, 0, none⟩) nR0.out (by simp))
        replace nR1 := Lib.hid (hk.cell (p := ⟨w.heap.size + 1 + 1, 1, none⟩) nR1.out (by simp))
        replace nR2 := Lib.hid (hk.cell (p := ⟨w.heap.size + 1 + 1, 2, none⟩) nR2.out (by simp))
        replace nR3 := Lib.hid (hk.cell (p := ⟨w.heap.size + 1 + 1, 3, none⟩) nR3.out (by simp))
        replace nR4 := Lib.hid (hk.cell (p := ⟨w.heap.size + 1 + 1, 4, none⟩) nR4.out (by simp))
        replace HS := Lib.hid (HS.out.kept0 hk)
        replace HS' := Lib.hid (HS'.out.kept0 hk)
        replace KT := Lib.hid (KT.out.trans0 hk)
        clear hk
        have tA0 := nA0.out
        have tA1 := nA1.out
        have tB0 := nB0.out
        have tB1 := nB1.out
        go_wp2_with fail
        clear tA0 tA1 tB0 tB1
        refine (l2Divs_any _ _ _ _ _ _ _ _ _ _ _ HS.out.rd HS'.out.rd).mono ?_
        rintro e ww2 ⟨rfl, hk⟩
        rw [HZ.out]
        have z2 := hk.size
        replace fR0 := Lib.hid (hk.free' (p := ⟨w.heap.size + 1 + 1, 0, none⟩) nR0.out fR0.out (by simp))
        replace fR1 := Lib.hid (hk.free' (p := ⟨w.heap.size + 1 + 1, 1, none⟩) nR1.out fR1.out (by simp))
        replace fR2 := Lib.hid (hk.free' (p := ⟨w.heap.size + 1 + 1, 2, none⟩) nR2.out fR2.out (by simp))
        replace fR3 := Lib.hid (hk.free' (p := ⟨w.heap.size + 1 + 1, 3, none⟩) nR3.out fR3.out (by simp))
        replace fR4 := Lib.hid (hk.free' (p := ⟨w.heap.size + 1 + 1, 4, none⟩) nR4.out fR4.out (by simp))
        replace nA0 := Lib.hid (hk.cell (p := ⟨w.heap.size, 0, none⟩) nA0.out (by simp))
        replace nA1 := Lib.hid (hk.cell (p := ⟨w.heap.size, 1, none⟩) nA1.out (by simp))
        replace nB0 := Lib.hid (hk.cell (p := ⟨w.heap.size + 1, 0, none⟩) nB0.out (by simp))
        replace nB1 := Lib.hid (hk.cell (p := ⟨w.heap.size + 1, 1, none⟩) nB1.out (by simp))
        replace nR0 := Lib.hid (hk.cell (p := ⟨w.heap.size + 1 + 1, 0, none⟩) nR0.out (by simp))
        replace nR1 := Lib.hid (hk.cell (p := ⟨w.heap.size + 1 + 1, 1, none⟩) nR1.out (by simp))
        replace nR2 := Lib.hid (hk.cell (p := ⟨w.heap.size + 1 + 1, 2, none⟩) nR2.out (by simp))
        replace nR3 := Lib.hid (hk.cell (p := ⟨w.heap.size + 1 + 1, 3, none⟩) nR3.out (by simp))
        replace nR4 := Lib.hid (hk.cell (p := ⟨w.heap.size + 1 + 1, 4, none⟩) nR4.out (by simp))
        replace HS := Lib.hid (HS.out.kept0 hk)
        replace HS' := Lib.hid (HS'.out.kept0 hk)
        replace KT := Lib.hid (KT.out.trans0 hk)
        clear hk
        have tA0 := nA0.out
        have tA1 := nA1.out
        have tB0 := nB0.out
        have tB1 := nB1.out
        go_wp2_with fail
        clear tA0 tA1 tB0 tB1
        refine (l3Rat_any P _ _ _ _ _ _ _ _ _ _ u t1 t2 _ HS.out HS'.out HP.out HX.out HY.out lx HY0.out hul HU.out HT1.out HT2.out).mono ?_
        rintro e ww3 ⟨a1, c1, a2, c2, rfl, hs1, hs2, hf1, hf2, hk⟩
        have z3 := hk.size
        replace fR0 := Lib.hid (hk.free' (p := ⟨w.heap.size + 1 + 1, 0, none⟩) nR0.out fR0.out (by simp))
        replace fR1 := Lib.hid (hk.free' (p := ⟨w.heap.size + 1 + 1, 1, none⟩) nR1.out fR1.out (by simp))
        replace fR2 := Lib.hid (hk.free' (p := ⟨w.heap.size + 1 + 1, 2, none⟩) nR2.out fR2.out (by simp))
        replace fR3 := Lib.hid (hk.free' (p := ⟨w.heap.size + 1 + 1, 3, none⟩) nR3.out fR3.out (by simp))
        replace fR4 := Lib.hid (hk.free' (p := ⟨w.heap.size + 1 + 1, 4, none⟩) nR4.out fR4.out (by simp))
        replace nA0 := Lib.hid (hk.cell (p := ⟨w.heap.size, 0, none⟩) nA0.out (by simp))
        replace nA1 := Lib.hid (hk.cell (p := ⟨w.heap.size, 1, none⟩) nA1.out (by simp))
        replace nB0 := Lib.hid (hk.cell (p := ⟨w.heap.size + 1, 0, none⟩) nB0.out (by simp))
        replace nB1 := Lib.hid (hk.cell (p := ⟨w.heap.size + 1, 1, none⟩) nB1.out (by simp))
        replace nR0 := Lib.hid (hk.cell (p := ⟨w.heap.size + 1 + 1, 0, none⟩) nR0.out (by simp))
        replace nR1 := Lib.hid (hk.cell (p := ⟨w.heap.size + 1 + 1, 1, none⟩) nR1.out (by simp))
        replace nR2 := Lib.hid (hk.cell (p := ⟨w.heap.size + 1 + 1, 2, none⟩) nR2.out (by simp))
        replace nR3 := Lib.hid (hk.cell (p := ⟨w.heap.size + 1 + 1, 3, none⟩) nR3.out (by simp))
        replace nR4 := Lib.hid (hk.cell (p := ⟨w.heap.size + 1 + 1, 4, none⟩) nR4.out (by simp))
        replace HS := Lib.hid (HS.out.kept0 hk)
        replace HS' := Lib.hid (HS'.out.kept0 hk)
        replace KT := Lib.hid (KT.out.trans0 hk)
        clear hk
        have hs1 := Lib.hid hs1
        have hs2 := Lib.hid hs2
        have G1 := Lib.hid hf1
        have G2 := Lib.hid hf2
        clear hf1 hf2
        go_wp2_with fail
        refine (l3Whole_any _ _ _ _ _ _ _ _ _ hs1.out hs2.out).mono ?_
        rintro e ww4 ⟨a3, c3, b3, d3, rfl, hs3, hs4, he3, he4, hk⟩
        have g3 := fr_of_fitS G1.out he3
        have g4 := fr_of_fitS' G2.out he4
        rw [← HR.out] at hs3 hs4 g3 g4 ⊢
        clear he3 he4
        have z4 := hk.size
        replace fR0 := Lib.hid (hk.free' (p := ⟨w.heap.size + 1 + 1, 0, none⟩) nR0.out fR0.out (by simp))
        replace fR1 := Lib.hid (hk.free' (p := ⟨w.heap.size + 1 + 1, 1, none⟩) nR1.out fR1.out (by simp))
        replace fR2 := Lib.hid (hk.free' (p := ⟨w.heap.size + 1 + 1, 2, none⟩) nR2.out fR2.out (by simp))
        replace fR3 := Lib.hid (hk.free' (p := ⟨w.heap.size + 1 + 1, 3, none⟩) nR3.out fR3.out (by simp))
        replace fR4 := Lib.hid (hk.free' (p := ⟨w.heap.size + 1 + 1, 4, none⟩) nR4.out fR4.out (by simp))
        replace nA0 := Lib.hid (hk.cell (p := ⟨w.heap.size, 0, none⟩) nA0.out (by simp))
        replace nA1 := Lib.hid (hk.cell (p := ⟨w.heap.size, 1, none⟩) nA1.out (by simp))
        replace nB0 := Lib.hid (hk.cell (p := ⟨w.heap.size + 1, 0, none⟩) nB0.out (by simp))
        replace nB1 := Lib.hid (hk.cell (p := ⟨w.heap.size + 1, 1, none⟩) nB1.out (by simp))
        replace nR0 := Lib.hid (hk.cell (p := ⟨w.heap.size + 1 + 1, 0, none⟩) nR0.out (by simp))
        replace nR1 := Lib.hid (hk.cell (p := ⟨w.heap.size + 1 + 1, 1, none⟩) nR1.out (by simp))
        replace nR2 := Lib.hid (hk.cell (p := ⟨w.heap.size + 1 + 1, 2, none⟩) nR2.out (by simp))
        replace nR3 := Lib.hid (hk.cell (p := ⟨w.heap.size + 1 + 1, 3, none⟩) nR3.out (by simp))
        replace nR4 := Lib.hid (hk.cell (p := ⟨w.heap.size + 1 + 1, 4, none⟩) nR4.out (by simp))
        replace HS := Lib.hid (HS.out.kept0 hk)
        replace HS' := Lib.hid (HS'.out.kept0 hk)
        replace hs1 := Lib.hid (hs1.out.kept0 hk)
        replace hs2 := Lib.hid (hs2.out.kept0 hk)
        replace KT := Lib.hid (KT.out.trans0 hk)
        clear hk
        have hs3 := Lib.hid hs3
        have hs4 := Lib.hid hs4
        have G3 := Lib.hid (g3.mono (B' := w.heap.size + 1 + 1 + 1) (by omega))
        have G4 := Lib.hid (g4.mono (B' := w.heap.size + 1 + 1 + 1) (by omega))
        clear g3 g4
        clear hs1 hs2
        have tR0 := nR0.out
        have tR1 := nR1.out
        have tR2 := nR2.out
        have tR3 := nR3.out
        have tR4 := nR4.out
        have uR0 := fR0.out
        have uR1 := fR1.out
        have uR2 := fR2.out
        have uR3 := fR3.out
        have uR4 := fR4.out
        go_wp2_with fail
        clear tR0 tR1 tR2 tR3 tR4 uR0 uR1 uR2 uR3 uR4
        generalize hW : (((((ww4.setCell ⟨w.heap.size + 1 + 1, 0, none⟩ (.int .i64 r.code)).setCell ⟨w.heap.size + 1 + 1, 1, none⟩ (.bool (isNeg r.lo))).setCell ⟨w.heap.size + 1 + 1, 2, none⟩ (.slice a3 (mag r.lo).length c3)).setCell ⟨w.heap.size + 1 + 1, 3, none⟩ (.bool (isNeg r.hi))).setCell ⟨w.heap.size + 1 + 1, 4, none⟩ (.slice b3 (mag r.hi).length d3)) = ww5
        have hk : Kept [w.heap.size + 1 + 1] ww4 ww5 := by rw [← hW]; exact (((((Kept.refl _ _).setCell _ _ (by simp)).setCell _ _ (by simp)).setCell _ _ (by simp)).setCell _ _ (by simp)).setCell _ _ (by simp)
        have hfz : ∀ x, ww5.frozen? x = ww4.frozen? x := by rw [← hW]; intro x; simp only [World.frozen?_setCell]
        have e0 : ww5.cell? ⟨w.heap.size + 1 + 1, 0, none⟩ = some (.int .i64 r.code) := by rw [← hW]; rw [World.cell?_setCell_other _ _ _ _ (by simp), World.cell?_setCell_other _ _ _ _ (by simp), World.cell?_setCell_other _ _ _ _ (by simp), World.cell?_setCell_other _ _ _ _ (by simp)]; exact World.cell?_setCell_same _ _ _ (by exact nR0.out)
        have e1 : ww5.cell? ⟨w.heap.size + 1 + 1, 1, none⟩ = some (.bool (isNeg r.lo)) := by rw [← hW]; rw [World.cell?_setCell_other _ _ _ _ (by simp), World.cell?_setCell_other _ _ _ _ (by simp), World.cell?_setCell_other _ _ _ _ (by simp)]; exact World.cell?_setCell_same _ _ _ (by rw [World.cell?_setCell_other _ _ _ _ (by simp)]; exact nR1.out)
        have e2 : ww5.cell? ⟨w.heap.size + 1 + 1, 2, none⟩ = some (.slice a3 (mag r.lo).length c3) := by rw [← hW]; rw [World.cell?_setCell_other _ _ _ _ (by simp), World.cell?_setCell_other _ _ _ _ (by simp)]; exact World.cell?_setCell_same _ _ _ (by rw [World.cell?_setCell_other _ _ _ _ (by simp), World.cell?_setCell_other _ _ _ _ (by simp)]; exact nR2.out)
        have e3 : ww5.cell? ⟨w.heap.size + 1 + 1, 3, none⟩ = some (.bool (isNeg r.hi)) := by rw [← hW]; rw [World.cell?_setCell_other _ _ _ _ (by simp)]; exact World.cell?_setCell_same _ _ _ (by rw [World.cell?_setCell_other _ _ _ _ (by simp), World.cell?_setCell_other _ _ _ _ (by simp), World.cell?_setCell_other _ _ _ _ (by simp)]; exact nR3.out)
        have e4 : ww5.cell? ⟨w.heap.size + 1 + 1, 4, none⟩ = some (.slice b3 (mag r.hi).length d3) := by rw [← hW]; exact World.cell?_setCell_same _ _ _ (by rw [World.cell?_setCell_other _ _ _ _ (by simp), World.cell?_setCell_other _ _ _ _ (by simp), World.cell?_setCell_other _ _ _ _ (by simp), World.cell?_setCell_other _ _ _ _ (by simp)]; exact nR4.out)
        have z5 := hk.size
        replace fR0 := Lib.hid (show ww5.frozen? ⟨w.heap.size + 1 + 1, 0, none⟩ = false by rw [hfz]; exact fR0.out)
        replace fR1 := Lib.hid (show ww5.frozen? ⟨w.heap.size + 1 + 1, 1, none⟩ = false by rw [hfz]; exact fR1.out)
        replace fR2 := Lib.hid (show ww5.frozen? ⟨w.heap.size + 1 + 1, 2, none⟩ = false by rw [hfz]; exact fR2.out)
        replace fR3 := Lib.hid (show ww5.frozen? ⟨w.heap.size + 1 + 1, 3, none⟩ = false by rw [hfz]; exact fR3.out)
        replace fR4 := Lib.hid (show ww5.frozen? ⟨w.heap.size + 1 + 1, 4, none⟩ = false by rw [hfz]; exact fR4.out)
        replace nA0 := Lib.hid (hk.cell (p := ⟨w.heap.size, 0, none⟩) nA0.out (by simp <;> omega))
        replace nA1 := Lib.hid (hk.cell (p := ⟨w.heap.size, 1, none⟩) nA1.out (by simp <;> omega))
        replace nB0 := Lib.hid (hk.cell (p := ⟨w.heap.size + 1, 0, none⟩) nB0.out (by simp <;> omega))
        replace nB1 := Lib.hid (hk.cell (p := ⟨w.heap.size + 1, 1, none⟩) nB1.out (by simp <;> omega))
        replace HS := Lib.hid (HS.out.kept hk (fun hn y hy hm => by have h9 := FS.out hn y hy; simp at hm; omega))
        replace HS' := Lib.hid (HS'.out.kept hk (fun hn y hy hm => by have h9 := FS'.out hn y hy; simp at hm; omega))
        replace hs3 := Lib.hid (hs3.out.kept hk (fun hn y hy hm => by have h9 := G3.out hn y hy; simp at hm; omega))
        replace hs4 := Lib.hid (hs4.out.kept hk (fun hn y hy hm => by have h9 := G4.out hn y hy; simp at hm; omega))
        replace nR0 := Lib.hid e0
        replace nR1 := Lib.hid e1
        replace nR2 := Lib.hid e2
        replace nR3 := Lib.hid e3
        replace nR4 := Lib.hid e4
        replace KT := Lib.hid (KT.out.trans hk (fun x hx hlt => by simp at hx; omega))
        clear hk hfz hW e0 e1 e2 e3 e4
        have e0 := nR0.out
        have e1 := nR1.out
        have e2 := nR2.out
        have e3 := nR3.out
        have e4 := nR4.out
        refine bodyPost_ret (v := .agg #[.int .i64 r.code, .bool (isNeg r.lo), .slice a3 (mag r.lo).length c3, .bool (isNeg r.hi), .slice b3 (mag r.hi).length d3]) (by simp [results, Try.results37, go_sem, e0, e1, e2, e3, e4]) rfl ?_
        exact ⟨a3, c3, b3, d3, rfl, hs3.out, hs4.out, G3.out.mono (by omega), G4.out.mono (by omega), KT.out⟩
    · skip
      rw [show ratS P p xs q ys = noSpan (bigFault2 p xs q ys) from by unfold ratS; rw [if_pos hP, twoS_not hz]]
      have hz9 : (if bigFault2 p xs q ys = 0 then (if ys.length = 0 then (6 : Int) else 0) else bigFault2 p xs q ys) = bigFault2 p xs q ys := if_neg hz
      obtain ⟨f, hf⟩ : ∃ f, f = bigFault2 p xs q ys := ⟨_, rfl⟩
      rw [← hf]
      have HZ := Lib.hid (show (if bigFault2 p xs q ys = 0 then (if ys.length = 0 then (6 : Int) else 0) else bigFault2 p xs q ys) = f by rw [hz9, hf])
      have hne : (f == 0) = false := by rw [beq_eq_false_iff_ne, hf]; exact hz
      have HP := Lib.hid hP
      clear hf hz hz9 hP hM hL
      go_enter Try.func37, Try.ntmps37
      go_wp2_with fail
      generalize hW : (((w.alloc (.cells #[.bool p, .slice a n c] 29)).alloc (.cells #[.bool q, .slice b m d] 29)).alloc (.cells #[.int .i64 0, .bool false, .slice none 0 0, .bool false, .slice none 0 0] 38)) = ww0
      have hkk : Kept [] (((w.alloc (.cells #[.bool p, .slice a n c] 29)).alloc (.cells #[.bool q, .slice b m d] 29)).alloc (.cells #[.int .i64 0, .bool false, .slice none 0 0, .bool false, .slice none 0 0] 38)) ww0 := by rw [hW]; exact Kept.refl _ _
      have zzA : w.heap.size + 1 + 1 + 1 = ww0.heap.size := by rw [← hW]; simp
      have nA0 := Lib.hid (hkk.peel.peel.top (g := w.heap.size) (by simp) (by simp) 0 (v := .bool p) rfl).1
      have nA1 := Lib.hid (hkk.peel.peel.top (g := w.heap.size) (by simp) (by simp) 1 (v := .slice a n c) rfl).1
      have nB0 := Lib.hid (hkk.peel.top (g := w.heap.size + 1) (by simp) (by simp) 0 (v := .bool q) rfl).1
      have nB1 := Lib.hid (hkk.peel.top (g := w.heap.size + 1) (by simp) (by simp) 1 (v := .slice b m d) rfl).1
      have nR0 := Lib.hid (hkk.top (g := w.heap.size + 1 + 1) (by simp) (by simp) 0 (v := .int .i64 0) rfl).1
      have fR0 := Lib.hid (hkk.top (g := w.heap.size + 1 + 1) (by simp) (by simp) 0 (v := .int .i64 0) rfl).2.1
      have nR1 := Lib.hid (hkk.top (g := w.heap.size + 1 + 1) (by simp) (by simp) 1 (v := .bool false) rfl).1
      have fR1 := Lib.hid (hkk.top (g := w.heap.size + 1 + 1) (by simp) (by simp) 1 (v := .bool false) rfl).2.1
      have nR2 := Lib.hid (hkk.top (g := w.heap.size + 1 + 1) (by simp) (by simp) 2 (v := .slice none 0 0) rfl).1
      have fR2 := Lib.hid (hkk.top (g := w.heap.size + 1 + 1) (by simp) (by simp) 2 (v := .slice none 0 0) rfl).2.1
      have nR3 := Lib.hid (hkk.top (g := w.heap.size + 1 + 1) (by simp) (by simp) 3 (v := .bool false) rfl).1
      have fR3 := Lib.hid (hkk.top (g := w.heap.size + 1 + 1) (by simp) (by simp) 3 (v := .bool false) rfl).2.1
      have nR4 := Lib.hid (hkk.top (g := w.heap.size + 1 + 1) (by simp) (by simp) 4 (v := .slice none 0 0) rfl).1
      have fR4 := Lib.hid (hkk.top (g := w.heap.size + 1 + 1) (by simp) (by simp) 4 (v := .slice none 0 0) rfl).2.1
      have hk := hkk.peel.peel.peel
      clear hkk hW
      have z0 := hk.size
      have KT := Lib.hid hk
      clear hk
      replace HS := Lib.hid (HS.out.kept0 KT.out)
      replace HS' := Lib.hid (HS'.out.kept0 KT.out)
      refine (l3Prec_any _ _).mono ?_
      rintro e ww1 ⟨rfl, hk⟩
      rw [HP.out]
      have z1 := hk.size
      replace fR0 := Lib.hid (hk.free' (p := ⟨w.heap.size + 1 + 1, 0, none⟩) nR0.out fR0.out (by simp))
      replace fR1 := Lib.hid (hk.free' (p := ⟨w.heap.size + 1 + 1, 1, none⟩) nR1.out fR1.out (by simp))
      replace fR2 := Lib.hid (hk.free' (p := ⟨w.heap.size + 1 + 1, 2, none⟩) nR2.out fR2.out (by simp))
      replace fR3 := Lib.hid (hk.free' (p := ⟨w.heap.size + 1 + 1, 3, none⟩) nR3.out fR3.out (by simp))
      replace fR4 := Lib.hid (hk.free' (p := ⟨w.heap.size + 1 + 1, 4, none⟩) nR4.out fR4.out (by simp))
      replace nA0 := Lib.hid (hk.cell (p := ⟨w.heap.size, 0, none⟩) nA0.out (by simp))
      replace nA1 := Lib.hid (hk.cell (p := ⟨w.heap.size, 1, none⟩) nA1.out (by simp))
      replace nB0 := Lib.hid (hk.cell (p := ⟨w.heap.size + 1, 0, none⟩) nB0.out (by simp))
      replace nB1 := Lib.hid (hk.cell (p := ⟨w.heap.size + 1, 1, none⟩) nB1.out (by simp))
      replace nR0 := Lib.hid (hk.cell (p := ⟨w.heap.size + 1 + 1, 0, none⟩) nR0.out (by simp))
      replace nR1 := Lib.hid (hk.cell (p := ⟨w.heap.size + 1 + 1, 1, none⟩) nR1.out (by simp))
      replace nR2 := Lib.hid (hk.cell (p := ⟨w.heap.size + 1 + 1, 2, none⟩) nR2.out (by simp))
      replace nR3 := Lib.hid (hk.cell (p := ⟨w.heap.size + 1 + 1, 3, none⟩) nR3.out (by simp))
      replace nR4 := Lib.hid (hk.cell (p := ⟨w.heap.size + 1 + 1, 4, none⟩) nR4.out (by simp))
      replace HS := Lib.hid (HS.out.kept0 hk)
      replace HS' := Lib.hid (HS'.out.kept0 hk)
      replace KT := Lib.hid (KT.out.trans0 hk)
      clear hk
      have tA0 := nA0.out
      have tA1 := nA1.out
      have tB0 := nB0.out
      have tB1 := nB1.out
      go_wp2_with fail
      clear tA0 tA1 tB0 tB1
      refine (l2Divs_any _ _ _ _ _ _ _ _ _ _ _ HS.out.rd HS'.out.rd).mono ?_
      rintro e ww2 ⟨rfl, hk⟩
      rw [HZ.out]
      have z2 := hk.size
      replace fR0 := Lib.hid (hk.free' (p := ⟨w.heap.size + 1 + 1, 0, none⟩) nR0.out fR0.out (by simp))
      replace fR1 := Lib.hid (hk.free' (p := ⟨w.heap.size + 1 + 1, 1, none⟩) nR1.out fR1.out (by simp))
      replace fR2 := Lib.hid (hk.free' (p := ⟨w.heap.size + 1 + 1, 2, none⟩) nR2.out fR2.out (by simp))
      replace fR3 := Lib.hid (hk.free' (p := ⟨w.heap.size + 1 + 1, 3, none⟩) nR3.out fR3.out (by simp))
      replace fR4 := Lib.hid (hk.free' (p := ⟨w.heap.size + 1 + 1, 4, none⟩) nR4.out fR4.out (by simp))
      replace nA0 := Lib.hid (hk.cell (p := ⟨w.heap.size, 0, none⟩) nA0.out (by simp))
      replace nA1 := Lib.hid (hk.cell (p := ⟨w.heap.size, 1, none⟩) nA1.out (by simp))
      replace nB0 := Lib.hid (hk.cell (p := ⟨w.heap.size + 1, 0, none⟩) nB0.out (by simp))
      replace nB1 := Lib.hid (hk.cell (p := ⟨w.heap.size + 1, 1, none⟩) nB1.out (by simp))
      replace nR0 := Lib.hid (hk.cell (p := ⟨w.heap.size + 1 + 1, 0, none⟩) nR0.out (by simp))
      replace nR1 := Lib.hid (hk.cell (p := ⟨w.heap.size + 1 + 1, 1, none⟩) nR1.out (by simp))
      replace nR2 := Lib.hid (hk.cell (p := ⟨w.heap.size + 1 + 1, 2, none⟩) nR2.out (by simp))
      replace nR3 := Lib.hid (hk.cell (p := ⟨w.heap.size + 1 + 1, 3, none⟩) nR3.out (by simp))
      replace nR4 := Lib.hid (hk.cell (p := ⟨w.heap.size + 1 + 1, 4, none⟩) nR4.out (by simp))
      replace HS := Lib.hid (HS.out.kept0 hk)
      replace HS' := Lib.hid (HS'.out.kept0 hk)
      replace KT := Lib.hid (KT.out.trans0 hk)
      clear hk
      have tA0 := nA0.out
      have tA1 := nA1.out
      have tB0 := nB0.out
      have tB1 := nB1.out
      have tR0 := nR0.out
      have tR1 := nR1.out
      have tR2 := nR2.out
      have tR3 := nR3.out
      have tR4 := nR4.out
      have uR0 := fR0.out
      have uR1 := fR1.out
      have uR2 := fR2.out
      have uR3 := fR3.out
      have uR4 := fR4.out
      go_wp2_with fail
      clear tA0 tA1 tB0 tB1 tR0 tR1 tR2 tR3 tR4 uR0 uR1 uR2 uR3 uR4
      generalize hW : (((((ww2.setCell ⟨w.heap.size + 1 + 1, 0, none⟩ (.int .i64 f)).setCell ⟨w.heap.size + 1 + 1, 1, none⟩ (.bool false)).setCell ⟨w.heap.size + 1 + 1, 2, none⟩ (.slice none 0 0)).setCell ⟨w.heap.size + 1 + 1, 3, none⟩ (.bool false)).setCell ⟨w.heap.size + 1 + 1, 4, none⟩ (.slice none 0 0)) = ww3
      have hk : Kept [w.heap.size + 1 + 1] ww2 ww3 := by rw [← hW]; exact (((((Kept.refl _ _).setCell _ _ (by simp)).setCell _ _ (by simp)).setCell _ _ (by simp)).setCell _ _ (by simp)).setCell _ _ (by simp)
      have hfz : ∀ x, ww3.frozen? x = ww2.frozen? x := by rw [← hW]; intro x; simp only [World.frozen?_setCell]
      have e0 : ww3.cell? ⟨w.heap.size + 1 + 1, 0, none⟩ = some (.int .i64 f) := by rw [← hW]; rw [World.cell?_setCell_other _ _ _ _ (by simp), World.cell?_setCell_other _ _ _ _ (by simp), World.cell?_setCell_other _ _ _ _ (by simp), World.cell?_setCell_other _ _ _ _ (by simp)]; exact World.cell?_setCell_same _ _ _ (by exact nR0.out)
      have e1 : ww3.cell? ⟨w.heap.size + 1 + 1, 1, none⟩ = some (.bool false) := by rw [← hW]; rw [World.cell?_setCell_other _ _ _ _ (by simp), World.cell?_setCell_other _ _ _ _ (by simp), World.cell?_setCell_other _ _ _ _ (by simp)]; exact World.cell?_setCell_same _ _ _ (by rw [World.cell?_setCell_other _ _ _ _ (by simp)]; exact nR1.out)
      have e2 : ww3.cell? ⟨w.heap.size + 1 + 1, 2, none⟩ = some (.slice none 0 0) := by rw [← hW]; rw [World.cell?_setCell_other _ _ _ _ (by simp), World.cell?_setCell_other _ _ _ _ (by simp)]; exact World.cell?_setCell_same _ _ _ (by rw [World.cell?_setCell_other _ _ _ _ (by simp), World.cell?_setCell_other _ _ _ _ (by simp)]; exact nR2.out)
      have e3 : ww3.cell? ⟨w.heap.size + 1 + 1, 3, none⟩ = some (.bool false) := by rw [← hW]; rw [World.cell?_setCell_other _ _ _ _ (by simp)]; exact World.cell?_setCell_same _ _ _ (by rw [World.cell?_setCell_other _ _ _ _ (by simp), World.cell?_setCell_other _ _ _ _ (by simp), World.cell?_setCell_other _ _ _ _ (by simp)]; exact nR3.out)
      have e4 : ww3.cell? ⟨w.heap.size + 1 + 1, 4, none⟩ = some (.slice none 0 0) := by rw [← hW]; exact World.cell?_setCell_same _ _ _ (by rw [World.cell?_setCell_other _ _ _ _ (by simp), World.cell?_setCell_other _ _ _ _ (by simp), World.cell?_setCell_other _ _ _ _ (by simp), World.cell?_setCell_other _ _ _ _ (by simp)]; exact nR4.out)
      have z3 := hk.size
      replace fR0 := Lib.hid (show ww3.frozen? ⟨w.heap.size + 1 + 1, 0, none⟩ = false by rw [hfz]; exact fR0.out)
      replace fR1 := Lib.hid (show ww3.frozen? ⟨w.heap.size + 1 + 1, 1, none⟩ = false by rw [hfz]; exact fR1.out)
      replace fR2 := Lib.hid (show ww3.frozen? ⟨w.heap.size + 1 + 1, 2, none⟩ = false by rw [hfz]; exact fR2.out)
      replace fR3 := Lib.hid (show ww3.frozen? ⟨w.heap.size + 1 + 1, 3, none⟩ = false by rw [hfz]; exact fR3.out)
      replace fR4 := Lib.hid (show ww3.frozen? ⟨w.heap.size + 1 + 1, 4, none⟩ = false by rw [hfz]; exact fR4.out)
      replace nA0 := Lib.hid (hk.cell (p := ⟨w.heap.size, 0, none⟩) nA0.out (by simp <;> omega))
      replace nA1 := Lib.hid (hk.cell (p := ⟨w.heap.size, 1, none⟩) nA1.out (by simp <;> omega))
      replace nB0 := Lib.hid (hk.cell (p := ⟨w.heap.size + 1, 0, none⟩) nB0.out (by simp <;> omega))
      replace nB1 := Lib.hid (hk.cell (p := ⟨w.heap.size + 1, 1, none⟩) nB1.out (by simp <;> omega))
      replace HS := Lib.hid (HS.out.kept hk (fun hn y hy hm => by have h9 := FS.out hn y hy; simp at hm; omega))
      replace HS' := Lib.hid (HS'.out.kept hk (fun hn y hy hm => by have h9 := FS'.out hn y hy; simp at hm; omega))
      replace nR0 := Lib.hid e0
      replace nR1 := Lib.hid e1
      replace nR2 := Lib.hid e2
      replace nR3 := Lib.hid e3
      replace nR4 := Lib.hid e4
      replace KT := Lib.hid (KT.out.trans hk (fun x hx hlt => by simp at hx; omega))
      clear hk hfz hW e0 e1 e2 e3 e4
      have e0 := nR0.out
      have e1 := nR1.out
      have e2 := nR2.out
      have e3 := nR3.out
      have e4 := nR4.out
      refine bodyPost_ret (v := .agg #[.int .i64 f, .bool false, .slice none 0 0, .bool false, .slice none 0 0]) (by simp [results, Try.results37, go_sem, e0, e1, e2, e3, e4]) rfl ?_
      exact spanM_no KT.out
  · skip
    rw [show ratS P p xs q ys = noSpan 3 from by unfold ratS; rw [if_neg hP]]
    have HP := Lib.hid (show isP P = false by simpa using hP)
    clear hP hM hL
    go_enter Try.func37, Try.ntmps37
    go_wp2_with fail
    generalize hW : (((w.alloc (.cells #[.bool p, .slice a n c] 29)).alloc (.cells #[.bool q, .slice b m d] 29)).alloc (.cells #[.int .i64 0, .bool false, .slice none 0 0, .bool false, .slice none 0 0] 38)) = ww0
    have hkk : Kept [] (((w.alloc (.cells #[.bool p, .slice a n c] 29)).alloc (.cells #[.bool q, .slice b m d] 29)).alloc (.cells #[.int .i64 0, .bool false, .slice none 0 0, .bool false, .slice none 0 0] 38)) ww0 := by rw [hW]; exact Kept.refl _ _
    have zzA : w.heap.size + 1 + 1 + 1 = ww0.heap.size := by rw [← hW]; simp
    have nA0 := Lib.hid (hkk.peel.peel.top (g := w.heap.size) (by simp) (by simp) 0 (v := .bool p) rfl).1
    have nA1 := Lib.hid (hkk.peel.peel.top (g := w.heap.size) (by simp) (by simp) 1 (v := .slice a n c) rfl).1
    have nB0 := Lib.hid (hkk.peel.top (g := w.heap.size + 1) (by simp) (by simp) 0 (v := .bool q) rfl).1
    have nB1 := Lib.hid (hkk.peel.top (g := w.heap.size + 1) (by simp) (by simp) 1 (v := .slice b m d) rfl).1
    have nR0 := Lib.hid (hkk.top (g := w.heap.size + 1 + 1) (by simp) (by simp) 0 (v := .int .i64 0) rfl).1
    have fR0 := Lib.hid (hkk.top (g := w.heap.size + 1 + 1) (by simp) (by simp) 0 (v := .int .i64 0) rfl).2.1
    have nR1 := Lib.hid (hkk.top (g := w.heap.size + 1 + 1) (by simp) (by simp) 1 (v := .bool false) rfl).1
    have fR1 := Lib.hid (hkk.top (g := w.heap.size + 1 + 1) (by simp) (by simp) 1 (v := .bool false) rfl).2.1
    have nR2 := Lib.hid (hkk.top (g := w.heap.size + 1 + 1) (by simp) (by simp) 2 (v := .slice none 0 0) rfl).1
    have fR2 := Lib.hid (hkk.top (g := w.heap.size + 1 + 1) (by simp) (by simp) 2 (v := .slice none 0 0) rfl).2.1
    have nR3 := Lib.hid (hkk.top (g := w.heap.size + 1 + 1) (by simp) (by simp) 3 (v := .bool false) rfl).1
    have fR3 := Lib.hid (hkk.top (g := w.heap.size + 1 + 1) (by simp) (by simp) 3 (v := .bool false) rfl).2.1
    have nR4 := Lib.hid (hkk.top (g := w.heap.size + 1 + 1) (by simp) (by simp) 4 (v := .slice none 0 0) rfl).1
    have fR4 := Lib.hid (hkk.top (g := w.heap.size + 1 + 1) (by simp) (by simp) 4 (v := .slice none 0 0) rfl).2.1
    have hk := hkk.peel.peel.peel
    clear hkk hW
    have z0 := hk.size
    have KT := Lib.hid hk
    clear hk
    replace HS := Lib.hid (HS.out.kept0 KT.out)
    replace HS' := Lib.hid (HS'.out.kept0 KT.out)
    refine (l3Prec_any _ _).mono ?_
    rintro e ww1 ⟨rfl, hk⟩
    rw [HP.out]
    have z1 := hk.size
    replace fR0 := Lib.hid (hk.free' (p := ⟨w.heap.size + 1 + 1, 0, none⟩) nR0.out fR0.out (by simp))
    replace fR1 := Lib.hid (hk.free' (p := ⟨w.heap.size + 1 + 1, 1, none⟩) nR1.out fR1.out (by simp))
    replace fR2 := Lib.hid (hk.free' (p := ⟨w.heap.size + 1 + 1, 2, none⟩) nR2.out fR2.out (by simp))
    replace fR3 := Lib.hid (hk.free' (p := ⟨w.heap.size + 1 + 1, 3, none⟩) nR3.out fR3.out (by simp))
    replace fR4 := Lib.hid (hk.free' (p := ⟨w.heap.size + 1 + 1, 4, none⟩) nR4.out fR4.out (by simp))
    replace nA0 := Lib.hid (hk.cell (p := ⟨w.heap.size, 0, none⟩) nA0.out (by simp))
    replace nA1 := Lib.hid (hk.cell (p := ⟨w.heap.size, 1, none⟩) nA1.out (by simp))
    replace nB0 := Lib.hid (hk.cell (p := ⟨w.heap.size + 1, 0, none⟩) nB0.out (by simp))
    replace nB1 := Lib.hid (hk.cell (p := ⟨w.heap.size + 1, 1, none⟩) nB1.out (by simp))
    replace nR0 := Lib.hid (hk.cell (p := ⟨w.heap.size + 1 + 1, 0, none⟩) nR0.out (by simp))
    replace nR1 := Lib.hid (hk.cell (p := ⟨w.heap.size + 1 + 1, 1, none⟩) nR1.out (by simp))
    replace nR2 := Lib.hid (hk.cell (p := ⟨w.heap.size + 1 + 1, 2, none⟩) nR2.out (by simp))
    replace nR3 := Lib.hid (hk.cell (p := ⟨w.heap.size + 1 + 1, 3, none⟩) nR3.out (by simp))
    replace nR4 := Lib.hid (hk.cell (p := ⟨w.heap.size + 1 + 1, 4, none⟩) nR4.out (by simp))
    replace HS := Lib.hid (HS.out.kept0 hk)
    replace HS' := Lib.hid (HS'.out.kept0 hk)
    replace KT := Lib.hid (KT.out.trans0 hk)
    clear hk
    have tA0 := nA0.out
    have tA1 := nA1.out
    have tB0 := nB0.out
    have tB1 := nB1.out
    have tR0 := nR0.out
    have tR1 := nR1.out
    have tR2 := nR2.out
    have tR3 := nR3.out
    have tR4 := nR4.out
    have uR0 := fR0.out
    have uR1 := fR1.out
    have uR2 := fR2.out
    have uR3 := fR3.out
    have uR4 := fR4.out
    go_wp2_with fail
    clear tA0 tA1 tB0 tB1 tR0 tR1 tR2 tR3 tR4 uR0 uR1 uR2 uR3 uR4
    generalize hW : (((((ww1.setCell ⟨w.heap.size + 1 + 1, 0, none⟩ (.int .i64 3)).setCell ⟨w.heap.size + 1 + 1, 1, none⟩ (.bool false)).setCell ⟨w.heap.size + 1 + 1, 2, none⟩ (.slice none 0 0)).setCell ⟨w.heap.size + 1 + 1, 3, none⟩ (.bool false)).setCell ⟨w.heap.size + 1 + 1, 4, none⟩ (.slice none 0 0)) = ww2
    have hk : Kept [w.heap.size + 1 + 1] ww1 ww2 := by rw [← hW]; exact (((((Kept.refl _ _).setCell _ _ (by simp)).setCell _ _ (by simp)).setCell _ _ (by simp)).setCell _ _ (by simp)).setCell _ _ (by simp)
    have hfz : ∀ x, ww2.frozen? x = ww1.frozen? x := by rw [← hW]; intro x; simp only [World.frozen?_setCell]
    have e0 : ww2.cell? ⟨w.heap.size + 1 + 1, 0, none⟩ = some (.int .i64 3) := by rw [← hW]; rw [World.cell?_setCell_other _ _ _ _ (by simp), World.cell?_setCell_other _ _ _ _ (by simp), World.cell?_setCell_other _ _ _ _ (by simp), World.cell?_setCell_other _ _ _ _ (by simp)]; exact World.cell?_setCell_same _ _ _ (by exact nR0.out)
    have e1 : ww2.cell? ⟨w.heap.size + 1 + 1, 1, none⟩ = some (.bool false) := by rw [← hW]; rw [World.cell?_setCell_other _ _ _ _ (by simp), World.cell?_setCell_other _ _ _ _ (by simp), World.cell?_setCell_other _ _ _ _ (by simp)]; exact World.cell?_setCell_same _ _ _ (by rw [World.cell?_setCell_other _ _ _ _ (by simp)]; exact nR1.out)
    have e2 : ww2.cell? ⟨w.heap.size + 1 + 1, 2, none⟩ = some (.slice none 0 0) := by rw [← hW]; rw [World.cell?_setCell_other _ _ _ _ (by simp), World.cell?_setCell_other _ _ _ _ (by simp)]; exact World.cell?_setCell_same _ _ _ (by rw [World.cell?_setCell_other _ _ _ _ (by simp), World.cell?_setCell_other _ _ _ _ (by simp)]; exact nR2.out)
    have e3 : ww2.cell? ⟨w.heap.size + 1 + 1, 3, none⟩ = some (.bool false) := by rw [← hW]; rw [World.cell?_setCell_other _ _ _ _ (by simp)]; exact World.cell?_setCell_same _ _ _ (by rw [World.cell?_setCell_other _ _ _ _ (by simp), World.cell?_setCell_other _ _ _ _ (by simp), World.cell?_setCell_other _ _ _ _ (by simp)]; exact nR3.out)
    have e4 : ww2.cell? ⟨w.heap.size + 1 + 1, 4, none⟩ = some (.slice none 0 0) := by rw [← hW]; exact World.cell?_setCell_same _ _ _ (by rw [World.cell?_setCell_other _ _ _ _ (by simp), World.cell?_setCell_other _ _ _ _ (by simp), World.cell?_setCell_other _ _ _ _ (by simp), World.cell?_setCell_other _ _ _ _ (by simp)]; exact nR4.out)
    have z2 := hk.size
    replace fR0 := Lib.hid (show ww2.frozen? ⟨w.heap.size + 1 + 1, 0, none⟩ = false by rw [hfz]; exact fR0.out)
    replace fR1 := Lib.hid (show ww2.frozen? ⟨w.heap.size + 1 + 1, 1, none⟩ = false by rw [hfz]; exact fR1.out)
    replace fR2 := Lib.hid (show ww2.frozen? ⟨w.heap.size + 1 + 1, 2, none⟩ = false by rw [hfz]; exact fR2.out)
    replace fR3 := Lib.hid (show ww2.frozen? ⟨w.heap.size + 1 + 1, 3, none⟩ = false by rw [hfz]; exact fR3.out)
    replace fR4 := Lib.hid (show ww2.frozen? ⟨w.heap.size + 1 + 1, 4, none⟩ = false by rw [hfz]; exact fR4.out)
    replace nA0 := Lib.hid (hk.cell (p := ⟨w.heap.size, 0, none⟩) nA0.out (by simp <;> omega))
    replace nA1 := Lib.hid (hk.cell (p := ⟨w.heap.size, 1, none⟩) nA1.out (by simp <;> omega))
    replace nB0 := Lib.hid (hk.cell (p := ⟨w.heap.size + 1, 0, none⟩) nB0.out (by simp <;> omega))
    replace nB1 := Lib.hid (hk.cell (p := ⟨w.heap.size + 1, 1, none⟩) nB1.out (by simp <;> omega))
    replace HS := Lib.hid (HS.out.kept hk (fun hn y hy hm => by have h9 := FS.out hn y hy; simp at hm; omega))
    replace HS' := Lib.hid (HS'.out.kept hk (fun hn y hy hm => by have h9 := FS'.out hn y hy; simp at hm; omega))
    replace nR0 := Lib.hid e0
    replace nR1 := Lib.hid e1
    replace nR2 := Lib.hid e2
    replace nR3 := Lib.hid e3
    replace nR4 := Lib.hid e4
    replace KT := Lib.hid (KT.out.trans hk (fun x hx hlt => by simp at hx; omega))
    clear hk hfz hW e0 e1 e2 e3 e4
    have e0 := nR0.out
    have e1 := nR1.out
    have e2 := nR2.out
    have e3 := nR3.out
    have e4 := nR4.out
    refine bodyPost_ret (v := .agg #[.int .i64 3, .bool false, .slice none 0 0, .bool false, .slice none 0 0]) (by simp [results, Try.results37, go_sem, e0, e1, e2, e3, e4]) rfl ?_
    exact spanM_no KT.out

open Go.RowKit

set_option maxRecDepth 20000 in
set_option maxHeartbeats 2000000 in
theorem isPrecision_same (P : Int) (w : World) : Calls Try.prog 75 #[.int .i64 P] w (fun e w' => e = .returned (.bool (isP P)) ∧ w' = w) := by
  unfold isP
  by_cases h1 : P = 48
  · subst h1
    go_enter Try.func75, Try.ntmps75
    go_wp2
    go_ret
    exact ⟨rfl, rfl⟩
  · by_cases h2 : P = 72
    · subst h2
      go_enter Try.func75, Try.ntmps75
      go_wp2
      go_ret
      exact ⟨rfl, rfl⟩
    · by_cases h3 : P = 96
      · subst h3
        go_enter Try.func75, Try.ntmps75
        go_wp2
        go_ret
        exact ⟨rfl, rfl⟩
      · have e1 : (P == 48) = false := by simpa using h1
        have e2 : (P == 72) = false := by simpa using h2
        have e3 : (P == 96) = false := by simpa using h3
        have HE := Lib.hid (show decide (P = 48 ∨ P = 72 ∨ P = 96) = false from decide_eq_false (by omega))
        clear h1 h2 h3
        go_enter Try.func75, Try.ntmps75
        go_wp2
        go_ret
        exact ⟨by rw [HE.out] <;> rfl, rfl⟩
/-- The code of a precision, or else that of a span. -/
def precS (P : Int) (f : Int) : Int := if isP P = true then f else 3
set_option maxHeartbeats 2000000 in
set_option maxRecDepth 20000 in
theorem precisionFault_one (P : Int) (g : Nat) (p q : Bool) (a b : Option Addr) (n c m d : Nat) (xs ys : List Int) (w : World) (hg : g = w.heap.size) (h1 : Sl w a n c xs) (h2 : Sl w b m d ys) :
    Calls Try.prog 83 #[.int .i64 P, .slice (some ⟨g, 0, none⟩) 1 1] (w.alloc (.cells #[.bool p, .slice a n c, .bool q, .slice b m d] 31)) (Ans w (.int .i64 (precS P (spanFault p xs q ys)))) := by
  have H1 := Lib.hid h1
  have H2 := Lib.hid h2
  clear h1 h2
  subst hg
  by_cases hP : isP P = true
  · rw [show precS P (spanFault p xs q ys) = spanFault p xs q ys from if_pos hP]
    have HP := Lib.hid hP
    clear hP
    go_enter Try.func83, Try.ntmps83
    go_wp2_with fail
    refine (isPrecision_same _ _).mono ?_
    rintro e w1 ⟨rfl, rfl⟩
    rw [HP.out]
    go_wp2_with fail
    refine (firstSpanFault_one _ _ _ _ _ _ _ _ _ _ _ _ rfl H1.out H2.out).mono ?_
    rintro e w2 ⟨rfl, hk⟩
    have HK := Lib.hid hk
    clear hk
    go_wp2_with fail
    go_ret
    exact ⟨rfl, HK.out⟩
  · rw [show precS P (spanFault p xs q ys) = 3 from if_neg hP]
    have HP := Lib.hid (show isP P = false by simpa using hP)
    clear hP
    go_enter Try.func83, Try.ntmps83
    go_wp2_with fail
    refine (isPrecision_same _ _).mono ?_
    rintro e w1 ⟨rfl, rfl⟩
    rw [HP.out]
    go_wp2_with fail
    go_ret
    exact ⟨rfl, (Kept.refl [] w).alloc _⟩
theorem FloorRoot_z (a : Option Addr) (n c : Nat) (u t : Int) (w : World) (h : Sl w a n c (mag u)) (hu : 0 ≤ u) (hl : (mag u).length ≤ 40) (ht : t = isq u) :
    Calls Try.prog 92 #[.agg #[.bool (isNeg u), .slice a n c]] w (BigZ w t) := by
  have h1 := FloorRoot_any (isNeg u) a n c (mag u) w h
  have hb := bigOk_of hl
  have h2 : rootB isq (isNeg u) (mag u) = ⟨0, isNeg t, mag t⟩ := by
    have h0 := isq_nonneg hu
    unfold rootB
    rw [if_pos hb.fault, isNeg_no hu, if_neg (by simp), val_mag, if_neg (by omega), ht, isNeg_no h0, mag_no h0]
  rw [h2] at h1
  exact h1
theorem CeilRoot_z (a : Option Addr) (n c : Nat) (u t : Int) (w : World) (h : Sl w a n c (mag u)) (hu : 0 ≤ u) (hl : (mag u).length ≤ 40) (ht : t = csqZ u) :
    Calls Try.prog 93 #[.agg #[.bool (isNeg u), .slice a n c]] w (BigZ w t) := by
  have h1 := CeilRoot_any (isNeg u) a n c (mag u) w h
  have hb := bigOk_of hl
  have h2 : rootB csq (isNeg u) (mag u) = ⟨0, isNeg t, mag t⟩ := by
    have h0 := (csq_le hu).1
    have h9 : t = csq u := ht
    unfold rootB
    rw [if_pos hb.fault, isNeg_no hu, if_neg (by simp), val_mag, if_neg (by omega), h9, isNeg_no h0, mag_no h0]
  rw [h2] at h1
  exact h1
set_option maxRecDepth 20000 in
theorem mul_p2_len {v : Int} {k : Nat} {xs : List Int} (hx : Nat40 xs) (lx : xs.length ≤ 20) (hk : k ≤ 96) (hv : v = val xs ∨ v = 0) : (mag (v * p2 k)).length ≤ 27 := by
  rcases hv with rfl | rfl
  · have h := mul_len (p := false) (q := false) hx (p2_ok hk).1.n40 lx (p2_len hk)
    rw [(p2_ok hk).2] at h
    exact h
  · rw [Int.zero_mul, mag_zero]; simp
attribute [local go_sem ↓] field_big
set_option maxHeartbeats 8000000 in
set_option maxRecDepth 20000 in
theorem RootSpan_any (P : Int) (p q : Bool) (a b : Option Addr) (n c m d : Nat) (xs ys : List Int) (w : World) (h1 : Sl w a n c xs) (h2 : Sl w b m d ys) :
    Calls Try.prog 49 #[.int .i64 P, .agg #[.bool p, .slice a n c, .bool q, .slice b m d]] w (SpanR w (rootS P p xs q ys)) := by
  have H1 := Lib.hid h1
  have H2 := Lib.hid h2
  have F1 := Lib.hid h1.lt
  have F2 := Lib.hid h2.lt
  clear h1 h2
  by_cases hP : isP P = true
  · skip
    by_cases hz : spanFault p xs q ys = 0
    · cases q
      · skip
        obtain ⟨k, rfl⟩ : ∃ k : Nat, P = (k : Int) := ⟨P.toNat, by rcases isP_cases hP with h | h | h <;> omega⟩
        have hk96 : k ≤ 96 := by rcases isP_cases hP with h | h | h <;> omega
        obtain ⟨hx, hy, lx, ly, _⟩ := spanFault_zero hz
        obtain ⟨t0, ht0⟩ : ∃ t, t = lowZ p xs := ⟨_, rfl⟩
        obtain ⟨u1, hu1⟩ : ∃ u, u = t0 * p2 k := ⟨_, rfl⟩
        obtain ⟨u2, hu2⟩ : ∃ u, u = val ys * p2 k := ⟨_, rfl⟩
        obtain ⟨t1, ht1⟩ : ∃ t, t = isq u1 := ⟨_, rfl⟩
        obtain ⟨t2, ht2⟩ : ∃ t, t = csqZ u2 := ⟨_, rfl⟩
        obtain ⟨r, hr⟩ : ∃ r, r = fitS t1 t2 := ⟨_, rfl⟩
        rw [show rootS (k : Int) p xs false ys = r from by unfold rootS; rw [if_pos hP, twoS_zero hz, if_neg (by simp), hr, ht1, ht2, hu1, hu2, ht0]; rfl]
        have h0 := lowZ_nonneg hx
        have hp2 := p2_pos k
        have hn1 : 0 ≤ u1 := by rw [hu1, ht0]; exact Int.mul_nonneg h0 (by omega)
        have hn2 : 0 ≤ u2 := by rw [hu2]; exact Int.mul_nonneg (canon_nonneg hy.n40.canon).1 (by omega)
        have hl1 : (mag u1).length ≤ 27 := by rw [hu1]; exact mul_p2_len hx.n40 lx hk96 (by rw [ht0]; unfold lowZ; split; exact Or.inr rfl; exact Or.inl rfl)
        have hl2 : (mag u2).length ≤ 27 := by rw [hu2]; exact mul_p2_len hy.n40 ly hk96 (Or.inl rfl)
        have hl0 : (mag t0).length ≤ 20 := by rw [ht0]; exact lowZ_len hx lx
        have hm0 : t0 = maxZ (sv p xs) (sv false []) := by rw [ht0]; exact lowZ_max hx
        have hs0 : u1 = sv (isNeg t0) (mag t0) * p2 k := by rw [sv_mag]; exact hu1
        have hs2 : u2 = sv false ys * p2 k := hu2
        have HZ := Lib.hid (show precS (k : Int) (spanFault p xs false ys) = 0 by unfold precS; rw [if_pos hP]; exact hz)
        have HR := Lib.hid hr
        have HT1 := Lib.hid ht1
        have HT2 := Lib.hid ht2
        have HX := Lib.hid hx
        have HY := Lib.hid hy
        have HM0 := Lib.hid hm0
        have HS0 := Lib.hid hs0
        have HS2 := Lib.hid hs2
        have HO0 := Lib.hid (bigOk_of (z := t0) (by omega))
        have HOE := Lib.hid (show BigOk false [] from ⟨by decide, by simp⟩)
        have HN1 := Lib.hid hn1
        have HN2 := Lib.hid hn2
        clear hz hP hr ht0 ht1 ht2 hx hy hu1 hu2 hm0 hs0 hs2 h0 hp2 hn1 hn2
        go_enter Try.func49, Try.ntmps49
        go_wp2_with fail
        generalize hW : ((w.alloc (.cells #[.bool p, .slice a n c, .bool false, .slice b m d] 31)).alloc (.cells #[.int .i64 0, .bool false, .slice none 0 0, .bool false, .slice none 0 0] 38)) = ww0
        have hkk : Kept [] ((w.alloc (.cells #[.bool p, .slice a n c, .bool false, .slice b m d] 31)).alloc (.cells #[.int .i64 0, .bool false, .slice none 0 0, .bool false, .slice none 0 0] 38)) ww0 := by rw [hW]; exact Kept.refl _ _
        have zzA : w.heap.size + 1 + 1 = ww0.heap.size := by rw [← hW]; simp
        have nA0 := Lib.hid (hkk.peel.top (g := w.heap.size) (by simp) (by simp) 0 (v := .bool p) rfl).1
        have nA1 := Lib.hid (hkk.peel.top (g := w.heap.size) (by simp) (by simp) 1 (v := .slice a n c) rfl).1
        have nA2 := Lib.hid (hkk.peel.top (g := w.heap.size) (by simp) (by simp) 2 (v := .bool false) rfl).1
        have nA3 := Lib.hid (hkk.peel.top (g := w.heap.size) (by simp) (by simp) 3 (v := .slice b m d) rfl).1
        have nR0 := Lib.hid (hkk.top (g := w.heap.size + 1) (by simp) (by simp) 0 (v := .int .i64 0) rfl).1
        have fR0 := Lib.hid (hkk.top (g := w.heap.size + 1) (by simp) (by simp) 0 (v := .int .i64 0) rfl).2.1
        have nR1 := Lib.hid (hkk.top (g := w.heap.size + 1) (by simp) (by simp) 1 (v := .bool false) rfl).1
        have fR1 := Lib.hid (hkk.top (g := w.heap.size + 1) (by simp) (by simp) 1 (v := .bool false) rfl).2.1
        have nR2 := Lib.hid (hkk.top (g := w.heap.size + 1) (by simp) (by simp) 2 (v := .slice none 0 0) rfl).1
        have fR2 := Lib.hid (hkk.top (g := w.heap.size + 1) (by simp) (by simp) 2 (v := .slice none 0 0) rfl).2.1
        have nR3 := Lib.hid (hkk.top (g := w.heap.size + 1) (by simp) (by simp) 3 (v := .bool false) rfl).1
        have fR3 := Lib.hid (hkk.top (g := w.heap.size + 1) (by simp) (by simp) 3 (v := .bool false) rfl).2.1
        have nR4 := Lib.hid (hkk.top (g := w.heap.size + 1) (by simp) (by simp) 4 (v := .slice none 0 0) rfl).1
        have fR4 := Lib.hid (hkk.top (g := w.heap.size + 1) (by simp) (by simp) 4 (v := .slice none 0 0) rfl).2.1
        have hk := hkk.peel.peel
        clear hkk hW
        have z0 := hk.size
        have KT := Lib.hid hk
        clear hk
        replace H1 := Lib.hid (H1.out.kept0 KT.out)
        replace H2 := Lib.hid (H2.out.kept0 KT.out)
        refine (precisionFault_one _ _ _ _ _ _ _ _ _ _ _ _ _ (by omega) H1.out H2.out).mono ?_
        rintro e ww1 ⟨rfl, hk⟩
        rw [HZ.out]
        have z1 := hk.size
        replace fR0 := Lib.hid (hk.free' (p := ⟨w.heap.size + 1, 0, none⟩) nR0.out fR0.out (by simp))
        replace fR1 := Lib.hid (hk.free' (p := ⟨w.heap.size + 1, 1, none⟩) nR1.out fR1.out (by simp))
        replace fR2 := Lib.hid (hk.free' (p := ⟨w.heap.size + 1, 2, none⟩) nR2.out fR2.out (by simp))
        replace fR3 := Lib.hid (hk.free' (p := ⟨w.heap.size + 1, 3, none⟩) nR3.out fR3.out (by simp))
        replace fR4 := Lib.hid (hk.free' (p := ⟨w.heap.size + 1, 4, none⟩) nR4.out fR4.out (by simp))
        replace nA0 := Lib.hid (hk.cell (p := ⟨w.heap.size, 0, none⟩) nA0.out (by simp))
        replace nA1 := Lib.hid (hk.cell (p := ⟨w.heap.size, 1, none⟩) nA1.out (by simp))
        replace nA2 := Lib.hid (hk.cell (p := ⟨w.heap.size, 2, none⟩) nA2.out (by simp))
        replace nA3 := Lib.hid (hk.cell (p := ⟨w.heap.size, 3, none⟩) nA3.out (by simp))
        replace nR0 := Lib.hid (hk.cell (p := ⟨w.heap.size + 1, 0, none⟩) nR0.out (by simp))
        replace nR1 := Lib.hid (hk.cell (p := ⟨w.heap.size + 1, 1, none⟩) nR1.out (by simp))
        replace nR2 := Lib.hid (hk.cell (p := ⟨w.heap.size + 1, 2, none⟩) nR2.out (by simp))
        replace nR3 := Lib.hid (hk.cell (p := ⟨w.heap.size + 1, 3, none⟩) nR3.out (by simp))
        replace nR4 := Lib.hid (hk.cell (p := ⟨w.heap.size + 1, 4, none⟩) nR4.out (by simp))
        replace H1 := Lib.hid (H1.out.kept0 hk)
        replace H2 := Lib.hid (H2.out.kept0 hk)
        replace KT := Lib.hid (KT.out.trans0 hk)
        clear hk
        have tA0 := nA0.out
        have tA1 := nA1.out
        have tA2 := nA2.out
        have tA3 := nA3.out
        go_wp2_with fail
        clear tA0 tA1 tA2 tA3
        refine (leastOf_isAbove_two _ p false a none n c 0 0 xs [] t0 _ (rowB2_at rfl (by simp <;> omega)) (H1.out.kept0 ((Kept.refl [] _).alloc _)) (Sl.nil _) HX.out HOE.out HM0.out).mono ?_
        rintro e ww2 h77
        unfold BigN at h77
        obtain ⟨a0, c0, rfl, hs0, hk0⟩ := h77
        have hk := Kept.trans0 ((Kept.refl [] _).alloc _) hk0
        have SU := Lib.hid hs0
        clear hs0 hk0
        have z2 := hk.size
        replace fR0 := Lib.hid (hk.free' (p := ⟨w.heap.size + 1, 0, none⟩) nR0.out fR0.out (by simp))
        replace fR1 := Lib.hid (hk.free' (p := ⟨w.heap.size + 1, 1, none⟩) nR1.out fR1.out (by simp))
        replace fR2 := Lib.hid (hk.free' (p := ⟨w.heap.size + 1, 2, none⟩) nR2.out fR2.out (by simp))
        replace fR3 := Lib.hid (hk.free' (p := ⟨w.heap.size + 1, 3, none⟩) nR3.out fR3.out (by simp))
        replace fR4 := Lib.hid (hk.free' (p := ⟨w.heap.size + 1, 4, none⟩) nR4.out fR4.out (by simp))
        replace nA0 := Lib.hid (hk.cell (p := ⟨w.heap.size, 0, none⟩) nA0.out (by simp))
        replace nA1 := Lib.hid (hk.cell (p := ⟨w.heap.size, 1, none⟩) nA1.out (by simp))
        replace nA2 := Lib.hid (hk.cell (p := ⟨w.heap.size, 2, none⟩) nA2.out (by simp))
        replace nA3 := Lib.hid (hk.cell (p := ⟨w.heap.size, 3, none⟩) nA3.out (by simp))
        replace nR0 := Lib.hid (hk.cell (p := ⟨w.heap.size + 1, 0, none⟩) nR0.out (by simp))
        replace nR1 := Lib.hid (hk.cell (p := ⟨w.heap.size + 1, 1, none⟩) nR1.out (by simp))
        replace nR2 := Lib.hid (hk.cell (p := ⟨w.heap.size + 1, 2, none⟩) nR2.out (by simp))
        replace nR3 := Lib.hid (hk.cell (p := ⟨w.heap.size + 1, 3, none⟩) nR3.out (by simp))
        replace nR4 := Lib.hid (hk.cell (p := ⟨w.heap.size + 1, 4, none⟩) nR4.out (by simp))
        replace H1 := Lib.hid (H1.out.kept0 hk)
        replace H2 := Lib.hid (H2.out.kept0 hk)
        replace KT := Lib.hid (KT.out.trans0 hk)
        clear hk
        go_upto_region 7 with fail
        generalize hW : (ww2.alloc (.cells #[.bool (isNeg t0), .slice a0 (mag t0).length c0] 29)) = ww3
        have hk : Kept [] ww2 ww3 := by rw [← hW]; exact (Kept.refl [] _).alloc _
        have zzU : ww2.heap.size + 1 = ww3.heap.size := by rw [← hW]; simp
        have nU0 := Lib.hid (show ww3.cell? ⟨ww2.heap.size, 0, none⟩ = some (.bool (isNeg t0)) by rw [← hW, World.cell?_alloc_new]; rfl)
        have nU1 := Lib.hid (show ww3.cell? ⟨ww2.heap.size, 1, none⟩ = some (.slice a0 (mag t0).length c0) by rw [← hW, World.cell?_alloc_new]; rfl)
        clear hW
        have z3 := hk.size
        replace fR0 := Lib.hid (hk.free' (p := ⟨w.heap.size + 1, 0, none⟩) nR0.out fR0.out (by simp))
        replace fR1 := Lib.hid (hk.free' (p := ⟨w.heap.size + 1, 1, none⟩) nR1.out fR1.out (by simp))
        replace fR2 := Lib.hid (hk.free' (p := ⟨w.heap.size + 1, 2, none⟩) nR2.out fR2.out (by simp))
        replace fR3 := Lib.hid (hk.free' (p := ⟨w.heap.size + 1, 3, none⟩) nR3.out fR3.out (by simp))
        replace fR4 := Lib.hid (hk.free' (p := ⟨w.heap.size + 1, 4, none⟩) nR4.out fR4.out (by simp))
        replace nA0 := Lib.hid (hk.cell (p := ⟨w.heap.size, 0, none⟩) nA0.out (by simp))
        replace nA1 := Lib.hid (hk.cell (p := ⟨w.heap.size, 1, none⟩) nA1.out (by simp))
        replace nA2 := Lib.hid (hk.cell (p := ⟨w.heap.size, 2, none⟩) nA2.out (by simp))
        replace nA3 := Lib.hid (hk.cell (p := ⟨w.heap.size, 3, none⟩) nA3.out (by simp))
        replace nR0 := Lib.hid (hk.cell (p := ⟨w.heap.size + 1, 0, none⟩) nR0.out (by simp))
        replace nR1 := Lib.hid (hk.cell (p := ⟨w.heap.size + 1, 1, none⟩) nR1.out (by simp))
        replace nR2 := Lib.hid (hk.cell (p := ⟨w.heap.size + 1, 2, none⟩) nR2.out (by simp))
        replace nR3 := Lib.hid (hk.cell (p := ⟨w.heap.size + 1, 3, none⟩) nR3.out (by simp))
        replace nR4 := Lib.hid (hk.cell (p := ⟨w.heap.size + 1, 4, none⟩) nR4.out (by simp))
        replace H1 := Lib.hid (H1.out.kept0 hk)
        replace H2 := Lib.hid (H2.out.kept0 hk)
        replace SU := Lib.hid (SU.out.kept0 hk)
        replace KT := Lib.hid (KT.out.trans0 hk)
        clear hk
        have tU0 := nU0.out
        have tU1 := nU1.out
        have tA0 := nA0.out
        have tA1 := nA1.out
        have tA2 := nA2.out
        have tA3 := nA3.out
        go_region_held3 (fun w' => w'.cell? ⟨ww2.heap.size, 0, none⟩ = some (.bool (isNeg t0)) ∧ w'.cell? ⟨ww2.heap.size, 1, none⟩ = some (.slice a0 (mag t0).length c0) ∧ w'.cell? ⟨w.heap.size, 0, none⟩ = some (.bool p) ∧ w'.cell? ⟨w.heap.size, 1, none⟩ = some (.slice a n c) ∧ w'.cell? ⟨w.heap.size, 2, none⟩ = some (.bool false) ∧ w'.cell? ⟨w.heap.size, 3, none⟩ = some (.slice b m d) ∧ Hid (Kept [w.heap.size + 1] ww3 w'))
          ((go_split_ands; (try refine ⟨?_, ?_, ?_, ?_, ?_, ?_, ?_⟩) <;> with_reducible first | exact Kept.set5 (by assumption) | exact cell_set5 (by assumption) (by simp <;> omega) | exact Lib.hid ((Kept.refl _ _).drew) | exact drew_cell (by assumption) | exact Kept.allocH (by assumption) | exact alloc_cell (by assumption) | exact Lib.hid (Kept.trans0 (Hid.out (by assumption)) (by assumption)) | exact Kept.cell (by assumption) (by assumption) (by simp)))
          (first
            | (go_at_call_of 76 (Value.agg #[Value.bool (isNeg t0), Value.slice a0 (mag t0).length c0]); go_split_ands; refine (inUnits_any k _ _ _ _ _ u1 _ hk96 (SU.out.kept0 ((Kept.refl [] _).drew)) HO0.out (by omega) HS0.out).mono ?_; rintro e v1 ⟨a1, c1, rfl, hs1, hf1, hk1⟩)
            | (go_at_call 92; go_split_ands; refine (FloorRoot_z _ _ _ u1 t1 _ hs1 HN1.out (by omega) HT1.out).mono ?_; rintro e v2 ⟨a2, c2, rfl, hs2, hf2, hk2⟩)
            | (go_at_call_of 76 (Value.agg #[Value.bool false, Value.slice b m d]); go_split_ands; refine (inUnits_any k _ _ _ _ _ u2 _ hk96 (H2.out.kept0 ((((Kept.refl [] _).drew).trans0 hk1).trans0 hk2)) HY.out (by omega) HS2.out).mono ?_; rintro e v3 ⟨a4, c4, rfl, hs4, hf4, hk3⟩)
            | (go_at_call 93; go_split_ands; refine (CeilRoot_z _ _ _ u2 t2 _ hs4 HN2.out (by omega) HT2.out).mono ?_; rintro e v4 ⟨a5, c5, rfl, hs5, hf5, hk4⟩)
            | (go_at_call 61; go_split_ands; refine (spanResult_any _ _ _ _ _ _ _ _ _ (hs2.kept0 (hk3.trans0 hk4)) hs5).mono ?_; rintro e v5 ⟨a3, c3, b3, d3, rfl, hs3, hs6, hf3, hf6, hne, hk5⟩; have z12 := (((hk1.trans0 hk2).trans0 hk3).trans0 hk4).size; simp only [World.size_drew] at z12; have hs4 := hs6; have hf4 := hf6; have hkr := ((((((Kept.refl [] ww3).drew).trans0 hk1).trans0 hk2).trans0 hk3).trans0 hk4).trans0 hk5; have rg0 := hkr.cell (p := ⟨w.heap.size + 1, 0, none⟩) nR0.out (by simp); have rg1 := hkr.cell (p := ⟨w.heap.size + 1, 1, none⟩) nR1.out (by simp); have rg2 := hkr.cell (p := ⟨w.heap.size + 1, 2, none⟩) nR2.out (by simp); have rg3 := hkr.cell (p := ⟨w.heap.size + 1, 3, none⟩) nR3.out (by simp); have rg4 := hkr.cell (p := ⟨w.heap.size + 1, 4, none⟩) nR4.out (by simp); have ru0 := hkr.free' (p := ⟨w.heap.size + 1, 0, none⟩) nR0.out fR0.out (by simp); have ru1 := hkr.free' (p := ⟨w.heap.size + 1, 1, none⟩) nR1.out fR1.out (by simp); have ru2 := hkr.free' (p := ⟨w.heap.size + 1, 2, none⟩) nR2.out fR2.out (by simp); have ru3 := hkr.free' (p := ⟨w.heap.size + 1, 3, none⟩) nR3.out fR3.out (by simp); have ru4 := hkr.free' (p := ⟨w.heap.size + 1, 4, none⟩) nR4.out fR4.out (by simp)))
        clear tU0 tU1 tA0 tA1 tA2 tA3
        have hk := hkr
        clear hkr
        clear hs1 hf1 hs2 hf2 hs5 hf5 hs6 hf6 hk1 hk2 hk3 hk4 hk5
        rw [← HR.out] at hs3 hs4 hf3 hf4 hne ⊢
        have z4 := hk.size
        replace fR0 := Lib.hid (hk.free' (p := ⟨w.heap.size + 1, 0, none⟩) nR0.out fR0.out (by simp))
        replace fR1 := Lib.hid (hk.free' (p := ⟨w.heap.size + 1, 1, none⟩) nR1.out fR1.out (by simp))
        replace fR2 := Lib.hid (hk.free' (p := ⟨w.heap.size + 1, 2, none⟩) nR2.out fR2.out (by simp))
        replace fR3 := Lib.hid (hk.free' (p := ⟨w.heap.size + 1, 3, none⟩) nR3.out fR3.out (by simp))
        replace fR4 := Lib.hid (hk.free' (p := ⟨w.heap.size + 1, 4, none⟩) nR4.out fR4.out (by simp))
        replace nA0 := Lib.hid (hk.cell (p := ⟨w.heap.size, 0, none⟩) nA0.out (by simp))
        replace nA1 := Lib.hid (hk.cell (p := ⟨w.heap.size, 1, none⟩) nA1.out (by simp))
        replace nA2 := Lib.hid (hk.cell (p := ⟨w.heap.size, 2, none⟩) nA2.out (by simp))
        replace nA3 := Lib.hid (hk.cell (p := ⟨w.heap.size, 3, none⟩) nA3.out (by simp))
        replace nR0 := Lib.hid (hk.cell (p := ⟨w.heap.size + 1, 0, none⟩) nR0.out (by simp))
        replace nR1 := Lib.hid (hk.cell (p := ⟨w.heap.size + 1, 1, none⟩) nR1.out (by simp))
        replace nR2 := Lib.hid (hk.cell (p := ⟨w.heap.size + 1, 2, none⟩) nR2.out (by simp))
        replace nR3 := Lib.hid (hk.cell (p := ⟨w.heap.size + 1, 3, none⟩) nR3.out (by simp))
        replace nR4 := Lib.hid (hk.cell (p := ⟨w.heap.size + 1, 4, none⟩) nR4.out (by simp))
        replace H1 := Lib.hid (H1.out.kept0 hk)
        replace H2 := Lib.hid (H2.out.kept0 hk)
        replace nU0 := Lib.hid (hk.cell (p := ⟨ww2.heap.size, 0, none⟩) nU0.out (by simp))
        replace nU1 := Lib.hid (hk.cell (p := ⟨ww2.heap.size, 1, none⟩) nU1.out (by simp))
        replace KT := Lib.hid (KT.out.trans0 hk)
        clear hk
        have hs3 := Lib.hid hs3
        have hs4 := Lib.hid hs4
        have HNE := Lib.hid hne
        have G3 := Lib.hid (hf3.mono (B' := w.heap.size + 1 + 1 + 1) (by omega))
        have G4 := Lib.hid (hf4.mono (B' := w.heap.size + 1 + 1 + 1) (by omega))
        clear hf3 hf4 hne
        generalize hW : (((((v5.setCell ⟨w.heap.size + 1, 0, none⟩ (.int .i64 r.code)).setCell ⟨w.heap.size + 1, 1, none⟩ (.bool (isNeg r.lo))).setCell ⟨w.heap.size + 1, 2, none⟩ (.slice a3 (mag r.lo).length c3)).setCell ⟨w.heap.size + 1, 3, none⟩ (.bool (isNeg r.hi))).setCell ⟨w.heap.size + 1, 4, none⟩ (.slice b3 (mag r.hi).length d3)) = ww5
        have hk : Kept [w.heap.size + 1] v5 ww5 := by rw [← hW]; exact (((((Kept.refl _ _).setCell _ _ (by simp)).setCell _ _ (by simp)).setCell _ _ (by simp)).setCell _ _ (by simp)).setCell _ _ (by simp)
        have hfz : ∀ x, ww5.frozen? x = v5.frozen? x := by rw [← hW]; intro x; simp only [World.frozen?_setCell]
        have e0 : ww5.cell? ⟨w.heap.size + 1, 0, none⟩ = some (.int .i64 r.code) := by rw [← hW]; rw [World.cell?_setCell_other _ _ _ _ (by simp), World.cell?_setCell_other _ _ _ _ (by simp), World.cell?_setCell_other _ _ _ _ (by simp), World.cell?_setCell_other _ _ _ _ (by simp)]; exact World.cell?_setCell_same _ _ _ (by exact nR0.out)
        have e1 : ww5.cell? ⟨w.heap.size + 1, 1, none⟩ = some (.bool (isNeg r.lo)) := by rw [← hW]; rw [World.cell?_setCell_other _ _ _ _ (by simp), World.cell?_setCell_other _ _ _ _ (by simp), World.cell?_setCell_other _ _ _ _ (by simp)]; exact World.cell?_setCell_same _ _ _ (by rw [World.cell?_setCell_other _ _ _ _ (by simp)]; exact nR1.out)
        have e2 : ww5.cell? ⟨w.heap.size + 1, 2, none⟩ = some (.slice a3 (mag r.lo).length c3) := by rw [← hW]; rw [World.cell?_setCell_other _ _ _ _ (by simp), World.cell?_setCell_other _ _ _ _ (by simp)]; exact World.cell?_setCell_same _ _ _ (by rw [World.cell?_setCell_other _ _ _ _ (by simp), World.cell?_setCell_other _ _ _ _ (by simp)]; exact nR2.out)
        have e3 : ww5.cell? ⟨w.heap.size + 1, 3, none⟩ = some (.bool (isNeg r.hi)) := by rw [← hW]; rw [World.cell?_setCell_other _ _ _ _ (by simp)]; exact World.cell?_setCell_same _ _ _ (by rw [World.cell?_setCell_other _ _ _ _ (by simp), World.cell?_setCell_other _ _ _ _ (by simp), World.cell?_setCell_other _ _ _ _ (by simp)]; exact nR3.out)
        have e4 : ww5.cell? ⟨w.heap.size + 1, 4, none⟩ = some (.slice b3 (mag r.hi).length d3) := by rw [← hW]; exact World.cell?_setCell_same _ _ _ (by rw [World.cell?_setCell_other _ _ _ _ (by simp), World.cell?_setCell_other _ _ _ _ (by simp), World.cell?_setCell_other _ _ _ _ (by simp), World.cell?_setCell_other _ _ _ _ (by simp)]; exact nR4.out)
        have z5 := hk.size
        replace fR0 := Lib.hid (show ww5.frozen? ⟨w.heap.size + 1, 0, none⟩ = false by rw [hfz]; exact fR0.out)
        replace fR1 := Lib.hid (show ww5.frozen? ⟨w.heap.size + 1, 1, none⟩ = false by rw [hfz]; exact fR1.out)
        replace fR2 := Lib.hid (show ww5.frozen? ⟨w.heap.size + 1, 2, none⟩ = false by rw [hfz]; exact fR2.out)
        replace fR3 := Lib.hid (show ww5.frozen? ⟨w.heap.size + 1, 3, none⟩ = false by rw [hfz]; exact fR3.out)
        replace fR4 := Lib.hid (show ww5.frozen? ⟨w.heap.size + 1, 4, none⟩ = false by rw [hfz]; exact fR4.out)
        replace nA0 := Lib.hid (hk.cell (p := ⟨w.heap.size, 0, none⟩) nA0.out (by simp <;> omega))
        replace nA1 := Lib.hid (hk.cell (p := ⟨w.heap.size, 1, none⟩) nA1.out (by simp <;> omega))
        replace nA2 := Lib.hid (hk.cell (p := ⟨w.heap.size, 2, none⟩) nA2.out (by simp <;> omega))
        replace nA3 := Lib.hid (hk.cell (p := ⟨w.heap.size, 3, none⟩) nA3.out (by simp <;> omega))
        replace H1 := Lib.hid (H1.out.kept hk (fun hn y hy hm => by have h9 := F1.out hn y hy; simp at hm; omega))
        replace H2 := Lib.hid (H2.out.kept hk (fun hn y hy hm => by have h9 := F2.out hn y hy; simp at hm; omega))
        replace nU0 := Lib.hid (hk.cell (p := ⟨ww2.heap.size, 0, none⟩) nU0.out (by simp <;> omega))
        replace nU1 := Lib.hid (hk.cell (p := ⟨ww2.heap.size, 1, none⟩) nU1.out (by simp <;> omega))
        replace hs3 := Lib.hid (hs3.out.kept hk (fun hn y hy hm => by have h9 := G3.out hn y hy; simp at hm; omega))
        replace hs4 := Lib.hid (hs4.out.kept hk (fun hn y hy hm => by have h9 := G4.out hn y hy; simp at hm; omega))
        replace nR0 := Lib.hid e0
        replace nR1 := Lib.hid e1
        replace nR2 := Lib.hid e2
        replace nR3 := Lib.hid e3
        replace nR4 := Lib.hid e4
        replace KT := Lib.hid (KT.out.trans hk (fun x hx hlt => by simp at hx; omega))
        clear hk hfz hW e0 e1 e2 e3 e4
        go_wp2_with fail
        have e0 := nR0.out
        have e1 := nR1.out
        have e2 := nR2.out
        have e3 := nR3.out
        have e4 := nR4.out
        refine bodyPost_ret (v := .agg #[.int .i64 r.code, .bool (isNeg r.lo), .slice a3 (mag r.lo).length c3, .bool (isNeg r.hi), .slice b3 (mag r.hi).length d3]) (by simp [results, Try.results49, go_sem, e0, e1, e2, e3, e4]) rfl ?_
        exact ⟨a3, c3, b3, d3, rfl, hs3.out, hs4.out, G3.out.mono (by omega), G4.out.mono (by omega), HNE.out, KT.out⟩
      · skip
        rw [show rootS P p xs true ys = noSpan 3 from by unfold rootS; rw [if_pos hP, twoS_zero hz, if_pos rfl]]
        have HZ := Lib.hid (show precS P (spanFault p xs true ys) = 0 by unfold precS; rw [if_pos hP]; exact hz)
        clear hz hP
        go_enter Try.func49, Try.ntmps49
        go_wp2_with fail
        generalize hW : ((w.alloc (.cells #[.bool p, .slice a n c, .bool true, .slice b m d] 31)).alloc (.cells #[.int .i64 0, .bool false, .slice none 0 0, .bool false, .slice none 0 0] 38)) = ww0
        have hkk : Kept [] ((w.alloc (.cells #[.bool p, .slice a n c, .bool true, .slice b m d] 31)).alloc (.cells #[.int .i64 0, .bool false, .slice none 0 0, .bool false, .slice none 0 0] 38)) ww0 := by rw [hW]; exact Kept.refl _ _
        have zzA : w.heap.size + 1 + 1 = ww0.heap.size := by rw [← hW]; simp
        have nA0 := Lib.hid (hkk.peel.top (g := w.heap.size) (by simp) (by simp) 0 (v := .bool p) rfl).1
        have nA1 := Lib.hid (hkk.peel.top (g := w.heap.size) (by simp) (by simp) 1 (v := .slice a n c) rfl).1
        have nA2 := Lib.hid (hkk.peel.top (g := w.heap.size) (by simp) (by simp) 2 (v := .bool true) rfl).1
        have nA3 := Lib.hid (hkk.peel.top (g := w.heap.size) (by simp) (by simp) 3 (v := .slice b m d) rfl).1
        have nR0 := Lib.hid (hkk.top (g := w.heap.size + 1) (by simp) (by simp) 0 (v := .int .i64 0) rfl).1
        have fR0 := Lib.hid (hkk.top (g := w.heap.size + 1) (by simp) (by simp) 0 (v := .int .i64 0) rfl).2.1
        have nR1 := Lib.hid (hkk.top (g := w.heap.size + 1) (by simp) (by simp) 1 (v := .bool false) rfl).1
        have fR1 := Lib.hid (hkk.top (g := w.heap.size + 1) (by simp) (by simp) 1 (v := .bool false) rfl).2.1
        have nR2 := Lib.hid (hkk.top (g := w.heap.size + 1) (by simp) (by simp) 2 (v := .slice none 0 0) rfl).1
        have fR2 := Lib.hid (hkk.top (g := w.heap.size + 1) (by simp) (by simp) 2 (v := .slice none 0 0) rfl).2.1
        have nR3 := Lib.hid (hkk.top (g := w.heap.size + 1) (by simp) (by simp) 3 (v := .bool false) rfl).1
        have fR3 := Lib.hid (hkk.top (g := w.heap.size + 1) (by simp) (by simp) 3 (v := .bool false) rfl).2.1
        have nR4 := Lib.hid (hkk.top (g := w.heap.size + 1) (by simp) (by simp) 4 (v := .slice none 0 0) rfl).1
        have fR4 := Lib.hid (hkk.top (g := w.heap.size + 1) (by simp) (by simp) 4 (v := .slice none 0 0) rfl).2.1
        have hk := hkk.peel.peel
        clear hkk hW
        have z0 := hk.size
        have KT := Lib.hid hk
        clear hk
        replace H1 := Lib.hid (H1.out.kept0 KT.out)
        replace H2 := Lib.hid (H2.out.kept0 KT.out)
        refine (precisionFault_one _ _ _ _ _ _ _ _ _ _ _ _ _ (by omega) H1.out H2.out).mono ?_
        rintro e ww1 ⟨rfl, hk⟩
        rw [HZ.out]
        have z1 := hk.size
        replace fR0 := Lib.hid (hk.free' (p := ⟨w.heap.size + 1, 0, none⟩) nR0.out fR0.out (by simp))
        replace fR1 := Lib.hid (hk.free' (p := ⟨w.heap.size + 1, 1, none⟩) nR1.out fR1.out (by simp))
        replace fR2 := Lib.hid (hk.free' (p := ⟨w.heap.size + 1, 2, none⟩) nR2.out fR2.out (by simp))
        replace fR3 := Lib.hid (hk.free' (p := ⟨w.heap.size + 1, 3, none⟩) nR3.out fR3.out (by simp))
        replace fR4 := Lib.hid (hk.free' (p := ⟨w.heap.size + 1, 4, none⟩) nR4.out fR4.out (by simp))
        replace nA0 := Lib.hid (hk.cell (p := ⟨w.heap.size, 0, none⟩) nA0.out (by simp))
        replace nA1 := Lib.hid (hk.cell (p := ⟨w.heap.size, 1, none⟩) nA1.out (by simp))
        replace nA2 := Lib.hid (hk.cell (p := ⟨w.heap.size, 2, none⟩) nA2.out (by simp))
        replace nA3 := Lib.hid (hk.cell (p := ⟨w.heap.size, 3, none⟩) nA3.out (by simp))
        replace nR0 := Lib.hid (hk.cell (p := ⟨w.heap.size + 1, 0, none⟩) nR0.out (by simp))
        replace nR1 := Lib.hid (hk.cell (p := ⟨w.heap.size + 1, 1, none⟩) nR1.out (by simp))
        replace nR2 := Lib.hid (hk.cell (p := ⟨w.heap.size + 1, 2, none⟩) nR2.out (by simp))
        replace nR3 := Lib.hid (hk.cell (p := ⟨w.heap.size + 1, 3, none⟩) nR3.out (by simp))
        replace nR4 := Lib.hid (hk.cell (p := ⟨w.heap.size + 1, 4, none⟩) nR4.out (by simp))
        replace H1 := Lib.hid (H1.out.kept0 hk)
        replace H2 := Lib.hid (H2.out.kept0 hk)
        replace KT := Lib.hid (KT.out.trans0 hk)
        clear hk
        have tA0 := nA0.out
        have tA1 := nA1.out
        have tA2 := nA2.out
        have tA3 := nA3.out
        have tR0 := nR0.out
        have tR1 := nR1.out
        have tR2 := nR2.out
        have tR3 := nR3.out
        have tR4 := nR4.out
        have uR0 := fR0.out
        have uR1 := fR1.out
        have uR2 := fR2.out
        have uR3 := fR3.out
        have uR4 := fR4.out
        go_wp2_with fail
        clear tA0 tA1 tA2 tA3 tR0 tR1 tR2 tR3 tR4 uR0 uR1 uR2 uR3 uR4
        generalize hW : (((((ww1.setCell ⟨w.heap.size + 1, 0, none⟩ (.int .i64 3)).setCell ⟨w.heap.size + 1, 1, none⟩ (.bool false)).setCell ⟨w.heap.size + 1, 2, none⟩ (.slice none 0 0)).setCell ⟨w.heap.size + 1, 3, none⟩ (.bool false)).setCell ⟨w.heap.size + 1, 4, none⟩ (.slice none 0 0)) = ww2
        have hk : Kept [w.heap.size + 1] ww1 ww2 := by rw [← hW]; exact (((((Kept.refl _ _).setCell _ _ (by simp)).setCell _ _ (by simp)).setCell _ _ (by simp)).setCell _ _ (by simp)).setCell _ _ (by simp)
        have hfz : ∀ x, ww2.frozen? x = ww1.frozen? x := by rw [← hW]; intro x; simp only [World.frozen?_setCell]
        have e0 : ww2.cell? ⟨w.heap.size + 1, 0, none⟩ = some (.int .i64 3) := by rw [← hW]; rw [World.cell?_setCell_other _ _ _ _ (by simp), World.cell?_setCell_other _ _ _ _ (by simp), World.cell?_setCell_other _ _ _ _ (by simp), World.cell?_setCell_other _ _ _ _ (by simp)]; exact World.cell?_setCell_same _ _ _ (by exact nR0.out)
        have e1 : ww2.cell? ⟨w.heap.size + 1, 1, none⟩ = some (.bool false) := by rw [← hW]; rw [World.cell?_setCell_other _ _ _ _ (by simp), World.cell?_setCell_other _ _ _ _ (by simp), World.cell?_setCell_other _ _ _ _ (by simp)]; exact World.cell?_setCell_same _ _ _ (by rw [World.cell?_setCell_other _ _ _ _ (by simp)]; exact nR1.out)
        have e2 : ww2.cell? ⟨w.heap.size + 1, 2, none⟩ = some (.slice none 0 0) := by rw [← hW]; rw [World.cell?_setCell_other _ _ _ _ (by simp), World.cell?_setCell_other _ _ _ _ (by simp)]; exact World.cell?_setCell_same _ _ _ (by rw [World.cell?_setCell_other _ _ _ _ (by simp), World.cell?_setCell_other _ _ _ _ (by simp)]; exact nR2.out)
        have e3 : ww2.cell? ⟨w.heap.size + 1, 3, none⟩ = some (.bool false) := by rw [← hW]; rw [World.cell?_setCell_other _ _ _ _ (by simp)]; exact World.cell?_setCell_same _ _ _ (by rw [World.cell?_setCell_other _ _ _ _ (by simp), World.cell?_setCell_other _ _ _ _ (by simp), World.cell?_setCell_other _ _ _ _ (by simp)]; exact nR3.out)
        have e4 : ww2.cell? ⟨w.heap.size + 1, 4, none⟩ = some (.slice none 0 0) := by rw [← hW]; exact World.cell?_setCell_same _ _ _ (by rw [World.cell?_setCell_other _ _ _ _ (by simp), World.cell?_setCell_other _ _ _ _ (by simp), World.cell?_setCell_other _ _ _ _ (by simp), World.cell?_setCell_other _ _ _ _ (by simp)]; exact nR4.out)
        have z2 := hk.size
        replace fR0 := Lib.hid (show ww2.frozen? ⟨w.heap.size + 1, 0, none⟩ = false by rw [hfz]; exact fR0.out)
        replace fR1 := Lib.hid (show ww2.frozen? ⟨w.heap.size + 1, 1, none⟩ = false by rw [hfz]; exact fR1.out)
        replace fR2 := Lib.hid (show ww2.frozen? ⟨w.heap.size + 1, 2, none⟩ = false by rw [hfz]; exact fR2.out)
        replace fR3 := Lib.hid (show ww2.frozen? ⟨w.heap.size + 1, 3, none⟩ = false by rw [hfz]; exact fR3.out)
        replace fR4 := Lib.hid (show ww2.frozen? ⟨w.heap.size + 1, 4, none⟩ = false by rw [hfz]; exact fR4.out)
        replace nA0 := Lib.hid (hk.cell (p := ⟨w.heap.size, 0, none⟩) nA0.out (by simp <;> omega))
        replace nA1 := Lib.hid (hk.cell (p := ⟨w.heap.size, 1, none⟩) nA1.out (by simp <;> omega))
        replace nA2 := Lib.hid (hk.cell (p := ⟨w.heap.size, 2, none⟩) nA2.out (by simp <;> omega))
        replace nA3 := Lib.hid (hk.cell (p := ⟨w.heap.size, 3, none⟩) nA3.out (by simp <;> omega))
        replace H1 := Lib.hid (H1.out.kept hk (fun hn y hy hm => by have h9 := F1.out hn y hy; simp at hm; omega))
        replace H2 := Lib.hid (H2.out.kept hk (fun hn y hy hm => by have h9 := F2.out hn y hy; simp at hm; omega))
        replace nR0 := Lib.hid e0
        replace nR1 := Lib.hid e1
        replace nR2 := Lib.hid e2
        replace nR3 := Lib.hid e3
        replace nR4 := Lib.hid e4
        replace KT := Lib.hid (KT.out.trans hk (fun x hx hlt => by simp at hx; omega))
        clear hk hfz hW e0 e1 e2 e3 e4
        have e0 := nR0.out
        have e1 := nR1.out
        have e2 := nR2.out
        have e3 := nR3.out
        have e4 := nR4.out
        refine bodyPost_ret (v := .agg #[.int .i64 3, .bool false, .slice none 0 0, .bool false, .slice none 0 0]) (by simp [results, Try.results49, go_sem, e0, e1, e2, e3, e4]) rfl ?_
        exact spanR_no KT.out
    · skip
      rw [show rootS P p xs q ys = noSpan (spanFault p xs q ys) from by unfold rootS; rw [if_pos hP, twoS_not hz]]
      have HP := Lib.hid hP
      generalize hf : spanFault p xs q ys = f at *
      have hne : (f == 0) = false := by rw [beq_eq_false_iff_ne]; exact hz
      have HZ := Lib.hid (show precS P (spanFault p xs q ys) = f by unfold precS; rw [if_pos HP.out, hf])
      clear hf hz hP
      go_enter Try.func49, Try.ntmps49
      go_wp2_with fail
      generalize hW : ((w.alloc (.cells #[.bool p, .slice a n c, .bool q, .slice b m d] 31)).alloc (.cells #[.int .i64 0, .bool false, .slice none 0 0, .bool false, .slice none 0 0] 38)) = ww0
      have hkk : Kept [] ((w.alloc (.cells #[.bool p, .slice a n c, .bool q, .slice b m d] 31)).alloc (.cells #[.int .i64 0, .bool false, .slice none 0 0, .bool false, .slice none 0 0] 38)) ww0 := by rw [hW]; exact Kept.refl _ _
      have zzA : w.heap.size + 1 + 1 = ww0.heap.size := by rw [← hW]; simp
      have nA0 := Lib.hid (hkk.peel.top (g := w.heap.size) (by simp) (by simp) 0 (v := .bool p) rfl).1
      have nA1 := Lib.hid (hkk.peel.top (g := w.heap.size) (by simp) (by simp) 1 (v := .slice a n c) rfl).1
      have nA2 := Lib.hid (hkk.peel.top (g := w.heap.size) (by simp) (by simp) 2 (v := .bool q) rfl).1
      have nA3 := Lib.hid (hkk.peel.top (g := w.heap.size) (by simp) (by simp) 3 (v := .slice b m d) rfl).1
      have nR0 := Lib.hid (hkk.top (g := w.heap.size + 1) (by simp) (by simp) 0 (v := .int .i64 0) rfl).1
      have fR0 := Lib.hid (hkk.top (g := w.heap.size + 1) (by simp) (by simp) 0 (v := .int .i64 0) rfl).2.1
      have nR1 := Lib.hid (hkk.top (g := w.heap.size + 1) (by simp) (by simp) 1 (v := .bool false) rfl).1
      have fR1 := Lib.hid (hkk.top (g := w.heap.size + 1) (by simp) (by simp) 1 (v := .bool false) rfl).2.1
      have nR2 := Lib.hid (hkk.top (g := w.heap.size + 1) (by simp) (by simp) 2 (v := .slice none 0 0) rfl).1
      have fR2 := Lib.hid (hkk.top (g := w.heap.size + 1) (by simp) (by simp) 2 (v := .slice none 0 0) rfl).2.1
      have nR3 := Lib.hid (hkk.top (g := w.heap.size + 1) (by simp) (by simp) 3 (v := .bool false) rfl).1
      have fR3 := Lib.hid (hkk.top (g := w.heap.size + 1) (by simp) (by simp) 3 (v := .bool false) rfl).2.1
      have nR4 := Lib.hid (hkk.top (g := w.heap.size + 1) (by simp) (by simp) 4 (v := .slice none 0 0) rfl).1
      have fR4 := Lib.hid (hkk.top (g := w.heap.size + 1) (by simp) (by simp) 4 (v := .slice none 0 0) rfl).2.1
      have hk := hkk.peel.peel
      clear hkk hW
      have z0 := hk.size
      have KT := Lib.hid hk
      clear hk
      replace H1 := Lib.hid (H1.out.kept0 KT.out)
      replace H2 := Lib.hid (H2.out.kept0 KT.out)
      refine (precisionFault_one _ _ _ _ _ _ _ _ _ _ _ _ _ (by omega) H1.out H2.out).mono ?_
      rintro e ww1 ⟨rfl, hk⟩
      rw [HZ.out]
      have z1 := hk.size
      replace fR0 := Lib.hid (hk.free' (p := ⟨w.heap.size + 1, 0, none⟩) nR0.out fR0.out (by simp))
      replace fR1 := Lib.hid (hk.free' (p := ⟨w.heap.size + 1, 1, none⟩) nR1.out fR1.out (by simp))
      replace fR2 := Lib.hid (hk.free' (p := ⟨w.heap.size + 1, 2, none⟩) nR2.out fR2.out (by simp))
      replace fR3 := Lib.hid (hk.free' (p := ⟨w.heap.size + 1, 3, none⟩) nR3.out fR3.out (by simp))
      replace fR4 := Lib.hid (hk.free' (p := ⟨w.heap.size + 1, 4, none⟩) nR4.out fR4.out (by simp))
      replace nA0 := Lib.hid (hk.cell (p := ⟨w.heap.size, 0, none⟩) nA0.out (by simp))
      replace nA1 := Lib.hid (hk.cell (p := ⟨w.heap.size, 1, none⟩) nA1.out (by simp))
      replace nA2 := Lib.hid (hk.cell (p := ⟨w.heap.size, 2, none⟩) nA2.out (by simp))
      replace nA3 := Lib.hid (hk.cell (p := ⟨w.heap.size, 3, none⟩) nA3.out (by simp))
      replace nR0 := Lib.hid (hk.cell (p := ⟨w.heap.size + 1, 0, none⟩) nR0.out (by simp))
      replace nR1 := Lib.hid (hk.cell (p := ⟨w.heap.size + 1, 1, none⟩) nR1.out (by simp))
      replace nR2 := Lib.hid (hk.cell (p := ⟨w.heap.size + 1, 2, none⟩) nR2.out (by simp))
      replace nR3 := Lib.hid (hk.cell (p := ⟨w.heap.size + 1, 3, none⟩) nR3.out (by simp))
      replace nR4 := Lib.hid (hk.cell (p := ⟨w.heap.size + 1, 4, none⟩) nR4.out (by simp))
      replace H1 := Lib.hid (H1.out.kept0 hk)
      replace H2 := Lib.hid (H2.out.kept0 hk)
      replace KT := Lib.hid (KT.out.trans0 hk)
      clear hk
      have tA0 := nA0.out
      have tA1 := nA1.out
      have tA2 := nA2.out
      have tA3 := nA3.out
      have tR0 := nR0.out
      have tR1 := nR1.out
      have tR2 := nR2.out
      have tR3 := nR3.out
      have tR4 := nR4.out
      have uR0 := fR0.out
      have uR1 := fR1.out
      have uR2 := fR2.out
      have uR3 := fR3.out
      have uR4 := fR4.out
      go_wp2_with fail
      clear tA0 tA1 tA2 tA3 tR0 tR1 tR2 tR3 tR4 uR0 uR1 uR2 uR3 uR4
      generalize hW : (((((ww1.setCell ⟨w.heap.size + 1, 0, none⟩ (.int .i64 f)).setCell ⟨w.heap.size + 1, 1, none⟩ (.bool false)).setCell ⟨w.heap.size + 1, 2, none⟩ (.slice none 0 0)).setCell ⟨w.heap.size + 1, 3, none⟩ (.bool false)).setCell ⟨w.heap.size + 1, 4, none⟩ (.slice none 0 0)) = ww2
      have hk : Kept [w.heap.size + 1] ww1 ww2 := by rw [← hW]; exact (((((Kept.refl _ _).setCell _ _ (by simp)).setCell _ _ (by simp)).setCell _ _ (by simp)).setCell _ _ (by simp)).setCell _ _ (by simp)
      have hfz : ∀ x, ww2.frozen? x = ww1.frozen? x := by rw [← hW]; intro x; simp only [World.frozen?_setCell]
      have e0 : ww2.cell? ⟨w.heap.size + 1, 0, none⟩ = some (.int .i64 f) := by rw [← hW]; rw [World.cell?_setCell_other _ _ _ _ (by simp), World.cell?_setCell_other _ _ _ _ (by simp), World.cell?_setCell_other _ _ _ _ (by simp), World.cell?_setCell_other _ _ _ _ (by simp)]; exact World.cell?_setCell_same _ _ _ (by exact nR0.out)
      have e1 : ww2.cell? ⟨w.heap.size + 1, 1, none⟩ = some (.bool false) := by rw [← hW]; rw [World.cell?_setCell_other _ _ _ _ (by simp), World.cell?_setCell_other _ _ _ _ (by simp), World.cell?_setCell_other _ _ _ _ (by simp)]; exact World.cell?_setCell_same _ _ _ (by rw [World.cell?_setCell_other _ _ _ _ (by simp)]; exact nR1.out)
      have e2 : ww2.cell? ⟨w.heap.size + 1, 2, none⟩ = some (.slice none 0 0) := by rw [← hW]; rw [World.cell?_setCell_other _ _ _ _ (by simp), World.cell?_setCell_other _ _ _ _ (by simp)]; exact World.cell?_setCell_same _ _ _ (by rw [World.cell?_setCell_other _ _ _ _ (by simp), World.cell?_setCell_other _ _ _ _ (by simp)]; exact nR2.out)
      have e3 : ww2.cell? ⟨w.heap.size + 1, 3, none⟩ = some (.bool false) := by rw [← hW]; rw [World.cell?_setCell_other _ _ _ _ (by simp)]; exact World.cell?_setCell_same _ _ _ (by rw [World.cell?_setCell_other _ _ _ _ (by simp), World.cell?_setCell_other _ _ _ _ (by simp), World.cell?_setCell_other _ _ _ _ (by simp)]; exact nR3.out)
      have e4 : ww2.cell? ⟨w.heap.size + 1, 4, none⟩ = some (.slice none 0 0) := by rw [← hW]; exact World.cell?_setCell_same _ _ _ (by rw [World.cell?_setCell_other _ _ _ _ (by simp), World.cell?_setCell_other _ _ _ _ (by simp), World.cell?_setCell_other _ _ _ _ (by simp), World.cell?_setCell_other _ _ _ _ (by simp)]; exact nR4.out)
      have z2 := hk.size
      replace fR0 := Lib.hid (show ww2.frozen? ⟨w.heap.size + 1, 0, none⟩ = false by rw [hfz]; exact fR0.out)
      replace fR1 := Lib.hid (show ww2.frozen? ⟨w.heap.size + 1, 1, none⟩ = false by rw [hfz]; exact fR1.out)
      replace fR2 := Lib.hid (show ww2.frozen? ⟨w.heap.size + 1, 2, none⟩ = false by rw [hfz]; exact fR2.out)
      replace fR3 := Lib.hid (show ww2.frozen? ⟨w.heap.size + 1, 3, none⟩ = false by rw [hfz]; exact fR3.out)
      replace fR4 := Lib.hid (show ww2.frozen? ⟨w.heap.size + 1, 4, none⟩ = false by rw [hfz]; exact fR4.out)
      replace nA0 := Lib.hid (hk.cell (p := ⟨w.heap.size, 0, none⟩) nA0.out (by simp <;> omega))
      replace nA1 := Lib.hid (hk.cell (p := ⟨w.heap.size, 1, none⟩) nA1.out (by simp <;> omega))
      replace nA2 := Lib.hid (hk.cell (p := ⟨w.heap.size, 2, none⟩) nA2.out (by simp <;> omega))
      replace nA3 := Lib.hid (hk.cell (p := ⟨w.heap.size, 3, none⟩) nA3.out (by simp <;> omega))
      replace H1 := Lib.hid (H1.out.kept hk (fun hn y hy hm => by have h9 := F1.out hn y hy; simp at hm; omega))
      replace H2 := Lib.hid (H2.out.kept hk (fun hn y hy hm => by have h9 := F2.out hn y hy; simp at hm; omega))
      replace nR0 := Lib.hid e0
      replace nR1 := Lib.hid e1
      replace nR2 := Lib.hid e2
      replace nR3 := Lib.hid e3
      replace nR4 := Lib.hid e4
      replace KT := Lib.hid (KT.out.trans hk (fun x hx hlt => by simp at hx; omega))
      clear hk hfz hW e0 e1 e2 e3 e4
      have e0 := nR0.out
      have e1 := nR1.out
      have e2 := nR2.out
      have e3 := nR3.out
      have e4 := nR4.out
      refine bodyPost_ret (v := .agg #[.int .i64 f, .bool false, .slice none 0 0, .bool false, .slice none 0 0]) (by simp [results, Try.results49, go_sem, e0, e1, e2, e3, e4]) rfl ?_
      exact spanR_no KT.out
  · skip
    rw [show rootS P p xs q ys = noSpan 3 from by unfold rootS; rw [if_neg hP]]
    have HZ := Lib.hid (show precS P (spanFault p xs q ys) = 3 from if_neg hP)
    clear hP
    go_enter Try.func49, Try.ntmps49
    go_wp2_with fail
    generalize hW : ((w.alloc (.cells #[.bool p, .slice a n c, .bool q, .slice b m d] 31)).alloc (.cells #[.int .i64 0, .bool false, .slice none 0 0, .bool false, .slice none 0 0] 38)) = ww0
    have hkk : Kept [] ((w.alloc (.cells #[.bool p, .slice a n c, .bool q, .slice b m d] 31)).alloc (.cells #[.int .i64 0, .bool false, .slice none 0 0, .bool false, .slice none 0 0] 38)) ww0 := by rw [hW]; exact Kept.refl _ _
    have zzA : w.heap.size + 1 + 1 = ww0.heap.size := by rw [← hW]; simp
    have nA0 := Lib.hid (hkk.peel.top (g := w.heap.size) (by simp) (by simp) 0 (v := .bool p) rfl).1
    have nA1 := Lib.hid (hkk.peel.top (g := w.heap.size) (by simp) (by simp) 1 (v := .slice a n c) rfl).1
    have nA2 := Lib.hid (hkk.peel.top (g := w.heap.size) (by simp) (by simp) 2 (v := .bool q) rfl).1
    have nA3 := Lib.hid (hkk.peel.top (g := w.heap.size) (by simp) (by simp) 3 (v := .slice b m d) rfl).1
    have nR0 := Lib.hid (hkk.top (g := w.heap.size + 1) (by simp) (by simp) 0 (v := .int .i64 0) rfl).1
    have fR0 := Lib.hid (hkk.top (g := w.heap.size + 1) (by simp) (by simp) 0 (v := .int .i64 0) rfl).2.1
    have nR1 := Lib.hid (hkk.top (g := w.heap.size + 1) (by simp) (by simp) 1 (v := .bool false) rfl).1
    have fR1 := Lib.hid (hkk.top (g := w.heap.size + 1) (by simp) (by simp) 1 (v := .bool false) rfl).2.1
    have nR2 := Lib.hid (hkk.top (g := w.heap.size + 1) (by simp) (by simp) 2 (v := .slice none 0 0) rfl).1
    have fR2 := Lib.hid (hkk.top (g := w.heap.size + 1) (by simp) (by simp) 2 (v := .slice none 0 0) rfl).2.1
    have nR3 := Lib.hid (hkk.top (g := w.heap.size + 1) (by simp) (by simp) 3 (v := .bool false) rfl).1
    have fR3 := Lib.hid (hkk.top (g := w.heap.size + 1) (by simp) (by simp) 3 (v := .bool false) rfl).2.1
    have nR4 := Lib.hid (hkk.top (g := w.heap.size + 1) (by simp) (by simp) 4 (v := .slice none 0 0) rfl).1
    have fR4 := Lib.hid (hkk.top (g := w.heap.size + 1) (by simp) (by simp) 4 (v := .slice none 0 0) rfl).2.1
    have hk := hkk.peel.peel
    clear hkk hW
    have z0 := hk.size
    have KT := Lib.hid hk
    clear hk
    replace H1 := Lib.hid (H1.out.kept0 KT.out)
    replace H2 := Lib.hid (H2.out.kept0 KT.out)
    refine (precisionFault_one _ _ _ _ _ _ _ _ _ _ _ _ _ (by omega) H1.out H2.out).mono ?_
    rintro e ww1 ⟨rfl, hk⟩
    rw [HZ.out]
    have z1 := hk.size
    replace fR0 := Lib.hid (hk.free' (p := ⟨w.heap.size + 1, 0, none⟩) nR0.out fR0.out (by simp))
    replace fR1 := Lib.hid (hk.free' (p := ⟨w.heap.size + 1, 1, none⟩) nR1.out fR1.out (by simp))
    replace fR2 := Lib.hid (hk.free' (p := ⟨w.heap.size + 1, 2, none⟩) nR2.out fR2.out (by simp))
    replace fR3 := Lib.hid (hk.free' (p := ⟨w.heap.size + 1, 3, none⟩) nR3.out fR3.out (by simp))
    replace fR4 := Lib.hid (hk.free' (p := ⟨w.heap.size + 1, 4, none⟩) nR4.out fR4.out (by simp))
    replace nA0 := Lib.hid (hk.cell (p := ⟨w.heap.size, 0, none⟩) nA0.out (by simp))
    replace nA1 := Lib.hid (hk.cell (p := ⟨w.heap.size, 1, none⟩) nA1.out (by simp))
    replace nA2 := Lib.hid (hk.cell (p := ⟨w.heap.size, 2, none⟩) nA2.out (by simp))
    replace nA3 := Lib.hid (hk.cell (p := ⟨w.heap.size, 3, none⟩) nA3.out (by simp))
    replace nR0 := Lib.hid (hk.cell (p := ⟨w.heap.size + 1, 0, none⟩) nR0.out (by simp))
    replace nR1 := Lib.hid (hk.cell (p := ⟨w.heap.size + 1, 1, none⟩) nR1.out (by simp))
    replace nR2 := Lib.hid (hk.cell (p := ⟨w.heap.size + 1, 2, none⟩) nR2.out (by simp))
    replace nR3 := Lib.hid (hk.cell (p := ⟨w.heap.size + 1, 3, none⟩) nR3.out (by simp))
    replace nR4 := Lib.hid (hk.cell (p := ⟨w.heap.size + 1, 4, none⟩) nR4.out (by simp))
    replace H1 := Lib.hid (H1.out.kept0 hk)
    replace H2 := Lib.hid (H2.out.kept0 hk)
    replace KT := Lib.hid (KT.out.trans0 hk)
    clear hk
    have tA0 := nA0.out
    have tA1 := nA1.out
    have tA2 := nA2.out
    have tA3 := nA3.out
    have tR0 := nR0.out
    have tR1 := nR1.out
    have tR2 := nR2.out
    have tR3 := nR3.out
    have tR4 := nR4.out
    have uR0 := fR0.out
    have uR1 := fR1.out
    have uR2 := fR2.out
    have uR3 := fR3.out
    have uR4 := fR4.out
    go_wp2_with fail
    clear tA0 tA1 tA2 tA3 tR0 tR1 tR2 tR3 tR4 uR0 uR1 uR2 uR3 uR4
    generalize hW : (((((ww1.setCell ⟨w.heap.size + 1, 0, none⟩ (.int .i64 3)).setCell ⟨w.heap.size + 1, 1, none⟩ (.bool false)).setCell ⟨w.heap.size + 1, 2, none⟩ (.slice none 0 0)).setCell ⟨w.heap.size + 1, 3, none⟩ (.bool false)).setCell ⟨w.heap.size + 1, 4, none⟩ (.slice none 0 0)) = ww2
    have hk : Kept [w.heap.size + 1] ww1 ww2 := by rw [← hW]; exact (((((Kept.refl _ _).setCell _ _ (by simp)).setCell _ _ (by simp)).setCell _ _ (by simp)).setCell _ _ (by simp)).setCell _ _ (by simp)
    have hfz : ∀ x, ww2.frozen? x = ww1.frozen? x := by rw [← hW]; intro x; simp only [World.frozen?_setCell]
    have e0 : ww2.cell? ⟨w.heap.size + 1, 0, none⟩ = some (.int .i64 3) := by rw [← hW]; rw [World.cell?_setCell_other _ _ _ _ (by simp), World.cell?_setCell_other _ _ _ _ (by simp), World.cell?_setCell_other _ _ _ _ (by simp), World.cell?_setCell_other _ _ _ _ (by simp)]; exact World.cell?_setCell_same _ _ _ (by exact nR0.out)
    have e1 : ww2.cell? ⟨w.heap.size + 1, 1, none⟩ = some (.bool false) := by rw [← hW]; rw [World.cell?_setCell_other _ _ _ _ (by simp), World.cell?_setCell_other _ _ _ _ (by simp), World.cell?_setCell_other _ _ _ _ (by simp)]; exact World.cell?_setCell_same _ _ _ (by rw [World.cell?_setCell_other _ _ _ _ (by simp)]; exact nR1.out)
    have e2 : ww2.cell? ⟨w.heap.size + 1, 2, none⟩ = some (.slice none 0 0) := by rw [← hW]; rw [World.cell?_setCell_other _ _ _ _ (by simp), World.cell?_setCell_other _ _ _ _ (by simp)]; exact World.cell?_setCell_same _ _ _ (by rw [World.cell?_setCell_other _ _ _ _ (by simp), World.cell?_setCell_other _ _ _ _ (by simp)]; exact nR2.out)
    have e3 : ww2.cell? ⟨w.heap.size + 1, 3, none⟩ = some (.bool false) := by rw [← hW]; rw [World.cell?_setCell_other _ _ _ _ (by simp)]; exact World.cell?_setCell_same _ _ _ (by rw [World.cell?_setCell_other _ _ _ _ (by simp), World.cell?_setCell_other _ _ _ _ (by simp), World.cell?_setCell_other _ _ _ _ (by simp)]; exact nR3.out)
    have e4 : ww2.cell? ⟨w.heap.size + 1, 4, none⟩ = some (.slice none 0 0) := by rw [← hW]; exact World.cell?_setCell_same _ _ _ (by rw [World.cell?_setCell_other _ _ _ _ (by simp), World.cell?_setCell_other _ _ _ _ (by simp), World.cell?_setCell_other _ _ _ _ (by simp), World.cell?_setCell_other _ _ _ _ (by simp)]; exact nR4.out)
    have z2 := hk.size
    replace fR0 := Lib.hid (show ww2.frozen? ⟨w.heap.size + 1, 0, none⟩ = false by rw [hfz]; exact fR0.out)
    replace fR1 := Lib.hid (show ww2.frozen? ⟨w.heap.size + 1, 1, none⟩ = false by rw [hfz]; exact fR1.out)
    replace fR2 := Lib.hid (show ww2.frozen? ⟨w.heap.size + 1, 2, none⟩ = false by rw [hfz]; exact fR2.out)
    replace fR3 := Lib.hid (show ww2.frozen? ⟨w.heap.size + 1, 3, none⟩ = false by rw [hfz]; exact fR3.out)
    replace fR4 := Lib.hid (show ww2.frozen? ⟨w.heap.size + 1, 4, none⟩ = false by rw [hfz]; exact fR4.out)
    replace nA0 := Lib.hid (hk.cell (p := ⟨w.heap.size, 0, none⟩) nA0.out (by simp <;> omega))
    replace nA1 := Lib.hid (hk.cell (p := ⟨w.heap.size, 1, none⟩) nA1.out (by simp <;> omega))
    replace nA2 := Lib.hid (hk.cell (p := ⟨w.heap.size, 2, none⟩) nA2.out (by simp <;> omega))
    replace nA3 := Lib.hid (hk.cell (p := ⟨w.heap.size, 3, none⟩) nA3.out (by simp <;> omega))
    replace H1 := Lib.hid (H1.out.kept hk (fun hn y hy hm => by have h9 := F1.out hn y hy; simp at hm; omega))
    replace H2 := Lib.hid (H2.out.kept hk (fun hn y hy hm => by have h9 := F2.out hn y hy; simp at hm; omega))
    replace nR0 := Lib.hid e0
    replace nR1 := Lib.hid e1
    replace nR2 := Lib.hid e2
    replace nR3 := Lib.hid e3
    replace nR4 := Lib.hid e4
    replace KT := Lib.hid (KT.out.trans hk (fun x hx hlt => by simp at hx; omega))
    clear hk hfz hW e0 e1 e2 e3 e4
    have e0 := nR0.out
    have e1 := nR1.out
    have e2 := nR2.out
    have e3 := nR3.out
    have e4 := nR4.out
    refine bodyPost_ret (v := .agg #[.int .i64 3, .bool false, .slice none 0 0, .bool false, .slice none 0 0]) (by simp [results, Try.results49, go_sem, e0, e1, e2, e3, e4]) rfl ?_
    exact spanR_no KT.out

open Go.RowKit

/-- A call that answers a slice of new memory that reads as the limbs of u. -/
def SlU (w : World) (u : Int) (e : Ending) (w' : World) : Prop :=
  ∃ a c, e = .returned (.slice a (mag u).length c) ∧ Sl w' a (mag u).length c (mag u) ∧ Fr w.heap.size a (mag u).length ∧ Kept [] w w'
theorem l3Shift_u (P : Int) (a : Option Addr) (n c : Nat) (xs : List Int) (u : Int) (w : World) (hP : isP P = true) (h : Sl w a n c xs) (hx : Nat40 xs) (lx : xs.length ≤ 20) (hu : u = val xs * p2 P.toNat) :
    Calls Try.prog 104 #[.int .i64 P, .slice a n c] w (SlU w u) := by
  refine (l3Shift_any P a n c xs w hP h hx lx).mono fun e w' h9 => ?_
  obtain ⟨v, rfl, ho, hk⟩ := h9
  have h0 : 0 ≤ u := by rw [hu]; exact Int.mul_nonneg (canon_nonneg hx.canon).1 (by have := p2_pos P.toNat; omega)
  rw [← hu, ← mag_no h0] at ho
  obtain ⟨a1, c1, rfl, hs, hf⟩ := ho.sl
  exact ⟨a1, c1, rfl, hs, hf, hk⟩
theorem l2Root_u (a : Option Addr) (n c : Nat) (u t : Int) (w : World) (h : Sl w a n c (mag u)) (hu : 0 ≤ u) (hl : (mag u).length ≤ 40) (ht : t = isq u) :
    Calls Try.prog 114 #[.slice a n c] w (SlU w t) := by
  refine (l2Root_any a n c (mag u) w h (bigOk_of hl).n40).mono fun e w' h9 => ?_
  have h0 : 0 ≤ t := by rw [ht]; exact isq_nonneg hu
  have hv : val (mag u) = u := by rw [val_mag, if_neg (by omega)]
  obtain ⟨a1, c1, rfl, hs, hf, hk⟩ := h9
  rw [hv, ← ht, ← mag_no h0] at hs hf ⊢
  exact ⟨a1, c1, rfl, hs, hf, hk⟩
theorem l2CeilRoot_u (a : Option Addr) (n c : Nat) (u t : Int) (w : World) (h : Sl w a n c (mag u)) (hu : 0 ≤ u) (hl : (mag u).length ≤ 40) (ht : t = csqZ u) :
    Calls Try.prog 115 #[.slice a n c] w (SlU w t) := by
  refine (l2CeilRoot_any a n c (mag u) w h (bigOk_of hl).n40).mono fun e w' h9 => ?_
  have h9' : t = csq u := ht
  have h0 : 0 ≤ t := by rw [h9']; exact (csq_le hu).1
  have hv : val (mag u) = u := by rw [val_mag, if_neg (by omega)]
  obtain ⟨a1, c1, rfl, hs, hf, hk⟩ := h9
  rw [hv, ← h9', ← mag_no h0] at hs hf ⊢
  exact ⟨a1, c1, rfl, hs, hf, hk⟩
theorem l2Big_t (a : Option Addr) (c : Nat) (t : Int) (w : World) (ht : 0 ≤ t) :
    Calls Try.prog 103 #[.bool false, .slice a (mag t).length c] w (Val w (.agg #[.bool (isNeg t), .slice a (mag t).length c])) :=
  l2Big_u false a (mag t).length c t t w ht rfl (by rw [mag_no ht])

set_option maxHeartbeats 4000000 in
set_option maxRecDepth 20000 in
theorem l3Asked_any (P : Int) (p q : Bool) (a b : Option Addr) (n c m d : Nat) (xs ys : List Int) (p' q' : Bool) (a' b' : Option Addr) (n' c' m' d' : Nat) (xs' ys' : List Int) (w : World) (h1 : Sl w a n c xs) (h2 : Sl w b m d ys) (h3 : Sl w a' n' c' xs') (h4 : Sl w b' m' d' ys') :
    Calls Try.prog 81 #[.int .i64 P, .agg #[.bool p, .slice a n c, .bool q, .slice b m d], .agg #[.bool p', .slice a' n' c', .bool q', .slice b' m' d']] w (Ans w (.int .i64 (precS P (spanFault2 p xs q ys p' xs' q' ys')))) := by
  have H1 := Lib.hid h1
  have H2 := Lib.hid h2
  have H3 := Lib.hid h3
  have H4 := Lib.hid h4
  clear h1 h2 h3 h4
  by_cases hP : isP P = true
  · skip
    rw [show precS P (spanFault2 p xs q ys p' xs' q' ys') = spanFault2 p xs q ys p' xs' q' ys' from if_pos hP]
    have HP := Lib.hid hP
    clear hP
    go_enter Try.func81, Try.ntmps81
    go_wp2_with fail
    generalize hW : ((w.alloc (.cells #[.bool p, .slice a n c, .bool q, .slice b m d] 31)).alloc (.cells #[.bool p', .slice a' n' c', .bool q', .slice b' m' d'] 31)) = ww0
    have hkk : Kept [] ((w.alloc (.cells #[.bool p, .slice a n c, .bool q, .slice b m d] 31)).alloc (.cells #[.bool p', .slice a' n' c', .bool q', .slice b' m' d'] 31)) ww0 := by rw [hW]; exact Kept.refl _ _
    have zzA : w.heap.size + 1 + 1 = ww0.heap.size := by rw [← hW]; simp
    have nA0 := Lib.hid (hkk.peel.top (g := w.heap.size) (by simp) (by simp) 0 (v := .bool p) rfl).1
    have nA1 := Lib.hid (hkk.peel.top (g := w.heap.size) (by simp) (by simp) 1 (v := .slice a n c) rfl).1
    have nA2 := Lib.hid (hkk.peel.top (g := w.heap.size) (by simp) (by simp) 2 (v := .bool q) rfl).1
    have nA3 := Lib.hid (hkk.peel.top (g := w.heap.size) (by simp) (by simp) 3 (v := .slice b m d) rfl).1
    have nB0 := Lib.hid (hkk.top (g := w.heap.size + 1) (by simp) (by simp) 0 (v := .bool p') rfl).1
    have nB1 := Lib.hid (hkk.top (g := w.heap.size + 1) (by simp) (by simp) 1 (v := .slice a' n' c') rfl).1
    have nB2 := Lib.hid (hkk.top (g := w.heap.size + 1) (by simp) (by simp) 2 (v := .bool q') rfl).1
    have nB3 := Lib.hid (hkk.top (g := w.heap.size + 1) (by simp) (by simp) 3 (v := .slice b' m' d') rfl).1
    have hk := hkk.peel.peel
    clear hkk hW
    have z0 := hk.size
    have KT := Lib.hid hk
    clear hk
    replace H1 := Lib.hid (H1.out.kept0 KT.out)
    replace H2 := Lib.hid (H2.out.kept0 KT.out)
    replace H3 := Lib.hid (H3.out.kept0 KT.out)
    replace H4 := Lib.hid (H4.out.kept0 KT.out)
    refine (l3Prec_any _ _).mono ?_
    rintro e ww1 ⟨rfl, hk⟩
    rw [HP.out]
    have z1 := hk.size
    replace nA0 := Lib.hid (hk.cell (p := ⟨w.heap.size, 0, none⟩) nA0.out (by simp))
    replace nA1 := Lib.hid (hk.cell (p := ⟨w.heap.size, 1, none⟩) nA1.out (by simp))
    replace nA2 := Lib.hid (hk.cell (p := ⟨w.heap.size, 2, none⟩) nA2.out (by simp))
    replace nA3 := Lib.hid (hk.cell (p := ⟨w.heap.size, 3, none⟩) nA3.out (by simp))
    replace nB0 := Lib.hid (hk.cell (p := ⟨w.heap.size + 1, 0, none⟩) nB0.out (by simp))
    replace nB1 := Lib.hid (hk.cell (p := ⟨w.heap.size + 1, 1, none⟩) nB1.out (by simp))
    replace nB2 := Lib.hid (hk.cell (p := ⟨w.heap.size + 1, 2, none⟩) nB2.out (by simp))
    replace nB3 := Lib.hid (hk.cell (p := ⟨w.heap.size + 1, 3, none⟩) nB3.out (by simp))
    replace H1 := Lib.hid (H1.out.kept0 hk)
    replace H2 := Lib.hid (H2.out.kept0 hk)
    replace H3 := Lib.hid (H3.out.kept0 hk)
    replace H4 := Lib.hid (H4.out.kept0 hk)
    replace KT := Lib.hid (KT.out.trans0 hk)
    clear hk
    have tA0 := nA0.out
    have tA1 := nA1.out
    have tA2 := nA2.out
    have tA3 := nA3.out
    have tB0 := nB0.out
    have tB1 := nB1.out
    have tB2 := nB2.out
    have tB3 := nB3.out
    go_wp2_with fail
    clear tA0 tA1 tA2 tA3 tB0 tB1 tB2 tB3
    refine (l3Two_any _ _ _ _ _ _ _ _ _ _ _ _ _ _ _ _ _ _ _ _ _ H1.out H2.out H3.out H4.out).mono ?_
    rintro e ww2 ⟨rfl, hk⟩
    have z2 := hk.size
    replace nA0 := Lib.hid (hk.cell (p := ⟨w.heap.size, 0, none⟩) nA0.out (by simp))
    replace nA1 := Lib.hid (hk.cell (p := ⟨w.heap.size, 1, none⟩) nA1.out (by simp))
    replace nA2 := Lib.hid (hk.cell (p := ⟨w.heap.size, 2, none⟩) nA2.out (by simp))
    replace nA3 := Lib.hid (hk.cell (p := ⟨w.heap.size, 3, none⟩) nA3.out (by simp))
    replace nB0 := Lib.hid (hk.cell (p := ⟨w.heap.size + 1, 0, none⟩) nB0.out (by simp))
    replace nB1 := Lib.hid (hk.cell (p := ⟨w.heap.size + 1, 1, none⟩) nB1.out (by simp))
    replace nB2 := Lib.hid (hk.cell (p := ⟨w.heap.size + 1, 2, none⟩) nB2.out (by simp))
    replace nB3 := Lib.hid (hk.cell (p := ⟨w.heap.size + 1, 3, none⟩) nB3.out (by simp))
    replace H1 := Lib.hid (H1.out.kept0 hk)
    replace H2 := Lib.hid (H2.out.kept0 hk)
    replace H3 := Lib.hid (H3.out.kept0 hk)
    replace H4 := Lib.hid (H4.out.kept0 hk)
    replace KT := Lib.hid (KT.out.trans0 hk)
    clear hk
    go_wp2_with fail
    go_ret
    exact ⟨rfl, KT.out⟩
  · skip
    rw [show precS P (spanFault2 p xs q ys p' xs' q' ys') = 3 from if_neg hP]
    have HP := Lib.hid (show isP P = false by simpa using hP)
    clear hP
    go_enter Try.func81, Try.ntmps81
    go_wp2_with fail
    generalize hW : ((w.alloc (.cells #[.bool p, .slice a n c, .bool q, .slice b m d] 31)).alloc (.cells #[.bool p', .slice a' n' c', .bool q', .slice b' m' d'] 31)) = ww0
    have hkk : Kept [] ((w.alloc (.cells #[.bool p, .slice a n c, .bool q, .slice b m d] 31)).alloc (.cells #[.bool p', .slice a' n' c', .bool q', .slice b' m' d'] 31)) ww0 := by rw [hW]; exact Kept.refl _ _
    have zzA : w.heap.size + 1 + 1 = ww0.heap.size := by rw [← hW]; simp
    have nA0 := Lib.hid (hkk.peel.top (g := w.heap.size) (by simp) (by simp) 0 (v := .bool p) rfl).1
    have nA1 := Lib.hid (hkk.peel.top (g := w.heap.size) (by simp) (by simp) 1 (v := .slice a n c) rfl).1
    have nA2 := Lib.hid (hkk.peel.top (g := w.heap.size) (by simp) (by simp) 2 (v := .bool q) rfl).1
    have nA3 := Lib.hid (hkk.peel.top (g := w.heap.size) (by simp) (by simp) 3 (v := .slice b m d) rfl).1
    have nB0 := Lib.hid (hkk.top (g := w.heap.size + 1) (by simp) (by simp) 0 (v := .bool p') rfl).1
    have nB1 := Lib.hid (hkk.top (g := w.heap.size + 1) (by simp) (by simp) 1 (v := .slice a' n' c') rfl).1
    have nB2 := Lib.hid (hkk.top (g := w.heap.size + 1) (by simp) (by simp) 2 (v := .bool q') rfl).1
    have nB3 := Lib.hid (hkk.top (g := w.heap.size + 1) (by simp) (by simp) 3 (v := .slice b' m' d') rfl).1
    have hk := hkk.peel.peel
    clear hkk hW
    have z0 := hk.size
    have KT := Lib.hid hk
    clear hk
    replace H1 := Lib.hid (H1.out.kept0 KT.out)
    replace H2 := Lib.hid (H2.out.kept0 KT.out)
    replace H3 := Lib.hid (H3.out.kept0 KT.out)
    replace H4 := Lib.hid (H4.out.kept0 KT.out)
    refine (l3Prec_any _ _).mono ?_
    rintro e ww1 ⟨rfl, hk⟩
    rw [HP.out]
    have z1 := hk.size
    replace nA0 := Lib.hid (hk.cell (p := ⟨w.heap.size, 0, none⟩) nA0.out (by simp))
    replace nA1 := Lib.hid (hk.cell (p := ⟨w.heap.size, 1, none⟩) nA1.out (by simp))
    replace nA2 := Lib.hid (hk.cell (p := ⟨w.heap.size, 2, none⟩) nA2.out (by simp))
    replace nA3 := Lib.hid (hk.cell (p := ⟨w.heap.size, 3, none⟩) nA3.out (by simp))
    replace nB0 := Lib.hid (hk.cell (p := ⟨w.heap.size + 1, 0, none⟩) nB0.out (by simp))
    replace nB1 := Lib.hid (hk.cell (p := ⟨w.heap.size + 1, 1, none⟩) nB1.out (by simp))
    replace nB2 := Lib.hid (hk.cell (p := ⟨w.heap.size + 1, 2, none⟩) nB2.out (by simp))
    replace nB3 := Lib.hid (hk.cell (p := ⟨w.heap.size + 1, 3, none⟩) nB3.out (by simp))
    replace H1 := Lib.hid (H1.out.kept0 hk)
    replace H2 := Lib.hid (H2.out.kept0 hk)
    replace H3 := Lib.hid (H3.out.kept0 hk)
    replace H4 := Lib.hid (H4.out.kept0 hk)
    replace KT := Lib.hid (KT.out.trans0 hk)
    clear hk
    go_wp2_with fail
    go_ret
    exact ⟨rfl, KT.out⟩

set_option maxHeartbeats 8000000 in
set_option maxRecDepth 20000 in
theorem l3Root_any (P : Int) (p q : Bool) (a b : Option Addr) (n c m d : Nat) (xs ys : List Int) (u1 u2 t1 t2 : Int) (w : World) (h1 : Sl w a n c xs) (h2 : Sl w b m d ys) (hP : isP P = true) (hx : Nat40 xs) (hy : Nat40 ys) (lx : xs.length ≤ 20) (ly : ys.length ≤ 20) (hl1 : (mag u1).length ≤ 27) (hl2 : (mag u2).length ≤ 27) (hn1 : 0 ≤ u1) (hn2 : 0 ≤ u2) (hu1 : u1 = lowZ p xs * p2 P.toNat) (hu2 : u2 = val ys * p2 P.toNat) (ht1 : t1 = isq u1) (ht2 : t2 = csqZ u2) :
    Calls Try.prog 91 #[.int .i64 P, .agg #[.bool p, .slice a n c, .bool q, .slice b m d]] w (SpanV w t1 t2) := by
  have H1 := Lib.hid h1
  have H2 := Lib.hid h2
  have F1 := Lib.hid h1.lt
  have F2 := Lib.hid h2.lt
  have X1 := Lib.hid hx
  have X2 := Lib.hid hy
  have XE := Lib.hid (show Nat40 [] from ⟨by decide, fun i hi => by simp at hi, by simp⟩)
  have HP := Lib.hid hP
  have HU2 := Lib.hid hu2
  have HN1 := Lib.hid hn1
  have HN2 := Lib.hid hn2
  have HT1 := Lib.hid ht1
  have HT2 := Lib.hid ht2
  have HG1 := Lib.hid (show 0 ≤ t1 by rw [ht1]; exact isq_nonneg hn1)
  have HG2 := Lib.hid (show 0 ≤ t2 by rw [ht2]; exact (csq_le hn2).1)
  clear h1 h2 hx hy hP hu2 hn1 hn2 ht1 ht2
  cases p
  · skip
    have HU1 := Lib.hid (show u1 = val xs * p2 P.toNat by rw [hu1]; unfold lowZ; rw [if_neg (by simp)])
    clear hu1
    go_enter Try.func91, Try.ntmps91
    go_upto_region 2 with fail
    generalize hW : (((w.alloc (.cells #[.bool false, .slice a n c, .bool q, .slice b m d] 31)).alloc (.cells #[.bool false, .slice none 0 0, .bool false, .slice none 0 0] 31)).alloc (.cells #[.bool false, .slice a n c] 29)) = ww0
    have hkk : Kept [] (((w.alloc (.cells #[.bool false, .slice a n c, .bool q, .slice b m d] 31)).alloc (.cells #[.bool false, .slice none 0 0, .bool false, .slice none 0 0] 31)).alloc (.cells #[.bool false, .slice a n c] 29)) ww0 := by rw [hW]; exact Kept.refl _ _
    have zzA : w.heap.size + 1 + 1 + 1 = ww0.heap.size := by rw [← hW]; simp
    have nA0 := Lib.hid (hkk.peel.peel.top (g := w.heap.size) (by simp) (by simp) 0 (v := .bool false) rfl).1
    have nA1 := Lib.hid (hkk.peel.peel.top (g := w.heap.size) (by simp) (by simp) 1 (v := .slice a n c) rfl).1
    have nA2 := Lib.hid (hkk.peel.peel.top (g := w.heap.size) (by simp) (by simp) 2 (v := .bool q) rfl).1
    have nA3 := Lib.hid (hkk.peel.peel.top (g := w.heap.size) (by simp) (by simp) 3 (v := .slice b m d) rfl).1
    have nR0 := Lib.hid (hkk.peel.top (g := w.heap.size + 1) (by simp) (by simp) 0 (v := .bool false) rfl).1
    have fR0 := Lib.hid (hkk.peel.top (g := w.heap.size + 1) (by simp) (by simp) 0 (v := .bool false) rfl).2.1
    have nR1 := Lib.hid (hkk.peel.top (g := w.heap.size + 1) (by simp) (by simp) 1 (v := .slice none 0 0) rfl).1
    have fR1 := Lib.hid (hkk.peel.top (g := w.heap.size + 1) (by simp) (by simp) 1 (v := .slice none 0 0) rfl).2.1
    have nR2 := Lib.hid (hkk.peel.top (g := w.heap.size + 1) (by simp) (by simp) 2 (v := .bool false) rfl).1
    have fR2 := Lib.hid (hkk.peel.top (g := w.heap.size + 1) (by simp) (by simp) 2 (v := .bool false) rfl).2.1
    have nR3 := Lib.hid (hkk.peel.top (g := w.heap.size + 1) (by simp) (by simp) 3 (v := .slice none 0 0) rfl).1
    have fR3 := Lib.hid (hkk.peel.top (g := w.heap.size + 1) (by simp) (by simp) 3 (v := .slice none 0 0) rfl).2.1
    have nO0 := Lib.hid (hkk.top (g := w.heap.size + 1 + 1) (by simp) (by simp) 0 (v := .bool false) rfl).1
    have fO0 := Lib.hid (hkk.top (g := w.heap.size + 1 + 1) (by simp) (by simp) 0 (v := .bool false) rfl).2.1
    have nO1 := Lib.hid (hkk.top (g := w.heap.size + 1 + 1) (by simp) (by simp) 1 (v := .slice a n c) rfl).1
    have fO1 := Lib.hid (hkk.top (g := w.heap.size + 1 + 1) (by simp) (by simp) 1 (v := .slice a n c) rfl).2.1
    have hk := hkk.peel.peel.peel
    clear hkk hW
    have z0 := hk.size
    have KT := Lib.hid hk
    clear hk
    replace H1 := Lib.hid (H1.out.kept0 KT.out)
    replace H2 := Lib.hid (H2.out.kept0 KT.out)
    have tO0 := nO0.out
    have tO1 := nO1.out
    go_upto_region 4 with fail
    clear tO0 tO1
    have tO0 := nO0.out
    have tO1 := nO1.out
    have tA0 := nA0.out
    have tA1 := nA1.out
    have tA2 := nA2.out
    have tA3 := nA3.out
    go_region_held3 (fun w' => w'.cell? ⟨w.heap.size + 1 + 1, 0, none⟩ = some (.bool false) ∧ w'.cell? ⟨w.heap.size + 1 + 1, 1, none⟩ = some (.slice a n c) ∧ w'.cell? ⟨w.heap.size, 0, none⟩ = some (.bool false) ∧ w'.cell? ⟨w.heap.size, 1, none⟩ = some (.slice a n c) ∧ w'.cell? ⟨w.heap.size, 2, none⟩ = some (.bool q) ∧ w'.cell? ⟨w.heap.size, 3, none⟩ = some (.slice b m d) ∧ Hid (Kept [w.heap.size + 1] ww0 w'))
      ((go_split_ands; (try refine ⟨?_, ?_, ?_, ?_, ?_, ?_, ?_⟩) <;> with_reducible first | exact Kept.set4 (by assumption) | exact cell_set4 (by assumption) (by simp <;> omega) | exact Lib.hid ((Kept.refl _ _).drew) | exact drew_cell (by assumption) | exact Kept.allocH (by assumption) | exact alloc_cell (by assumption) | exact Lib.hid (Kept.trans0 (Hid.out (by assumption)) (by assumption)) | exact Kept.cell (by assumption) (by assumption) (by simp)))
      (first
        | (go_at_call_of 104 (Value.slice a n c); go_split_ands; refine (l3Shift_u P _ _ _ _ u1 _ HP.out (H1.out.kept0 ((Kept.refl [] _).drew)) X1.out lx HU1.out).mono ?_; rintro e v1 ⟨a1, c1, rfl, hs1, hf1, hk1⟩)
        | (go_at_call 114; go_split_ands; refine (l2Root_u _ _ _ u1 t1 _ hs1 HN1.out (by omega) HT1.out).mono ?_; rintro e v2 ⟨a2, c2, rfl, hs2, hf2, hk2⟩)
        | (go_at_call_of 103 (Value.slice a2 (mag t1).length c2); go_split_ands; refine (l2Big_t _ _ t1 _ HG1.out).mono ?_; rintro e v3 ⟨rfl, hk3⟩)
        | (go_at_call_of 104 (Value.slice b m d); go_split_ands; refine (l3Shift_u P _ _ _ _ u2 _ HP.out (H2.out.kept0 (((((Kept.refl [] _).drew).trans0 hk1).trans0 hk2).trans0 hk3)) X2.out ly HU2.out).mono ?_; rintro e v4 ⟨a4, c4, rfl, hs4, hf4, hk4⟩)
        | (go_at_call 115; go_split_ands; refine (l2CeilRoot_u _ _ _ u2 t2 _ hs4 HN2.out (by omega) HT2.out).mono ?_; rintro e v5 ⟨a5, c5, rfl, hs5, hf5, hk5⟩)
        | (go_at_call_of 103 (Value.slice a5 (mag t2).length c5); go_split_ands; refine (l2Big_t _ _ t2 _ HG2.out).mono ?_; rintro e v6 ⟨rfl, hk6⟩; have hs2 := hs2.kept0 (((hk3.trans0 hk4).trans0 hk5).trans0 hk6); have hs5 := hs5.kept0 hk6; have z12 := hk1.size; have z13 := hk2.size; have z14 := hk3.size; have z15 := hk4.size; simp only [World.size_drew] at z12; have hkr := (((((((Kept.refl [] ww0).drew).trans0 hk1).trans0 hk2).trans0 hk3).trans0 hk4).trans0 hk5).trans0 hk6; have rg0 := hkr.cell (p := ⟨w.heap.size + 1, 0, none⟩) nR0.out (by simp); have rg1 := hkr.cell (p := ⟨w.heap.size + 1, 1, none⟩) nR1.out (by simp); have rg2 := hkr.cell (p := ⟨w.heap.size + 1, 2, none⟩) nR2.out (by simp); have rg3 := hkr.cell (p := ⟨w.heap.size + 1, 3, none⟩) nR3.out (by simp); have ru0 := hkr.free' (p := ⟨w.heap.size + 1, 0, none⟩) nR0.out fR0.out (by simp); have ru1 := hkr.free' (p := ⟨w.heap.size + 1, 1, none⟩) nR1.out fR1.out (by simp); have ru2 := hkr.free' (p := ⟨w.heap.size + 1, 2, none⟩) nR2.out fR2.out (by simp); have ru3 := hkr.free' (p := ⟨w.heap.size + 1, 3, none⟩) nR3.out fR3.out (by simp)))
    clear tO0 tO1 tA0 tA1 tA2 tA3
    have hk := hkr
    clear hkr
    have z1 := hk.size
    replace fR0 := Lib.hid (hk.free' (p := ⟨w.heap.size + 1, 0, none⟩) nR0.out fR0.out (by simp))
    replace fR1 := Lib.hid (hk.free' (p := ⟨w.heap.size + 1, 1, none⟩) nR1.out fR1.out (by simp))
    replace fR2 := Lib.hid (hk.free' (p := ⟨w.heap.size + 1, 2, none⟩) nR2.out fR2.out (by simp))
    replace fR3 := Lib.hid (hk.free' (p := ⟨w.heap.size + 1, 3, none⟩) nR3.out fR3.out (by simp))
    replace fO0 := Lib.hid (hk.free' (p := ⟨w.heap.size + 1 + 1, 0, none⟩) nO0.out fO0.out (by simp))
    replace fO1 := Lib.hid (hk.free' (p := ⟨w.heap.size + 1 + 1, 1, none⟩) nO1.out fO1.out (by simp))
    replace nA0 := Lib.hid (hk.cell (p := ⟨w.heap.size, 0, none⟩) nA0.out (by simp))
    replace nA1 := Lib.hid (hk.cell (p := ⟨w.heap.size, 1, none⟩) nA1.out (by simp))
    replace nA2 := Lib.hid (hk.cell (p := ⟨w.heap.size, 2, none⟩) nA2.out (by simp))
    replace nA3 := Lib.hid (hk.cell (p := ⟨w.heap.size, 3, none⟩) nA3.out (by simp))
    replace nR0 := Lib.hid (hk.cell (p := ⟨w.heap.size + 1, 0, none⟩) nR0.out (by simp))
    replace nR1 := Lib.hid (hk.cell (p := ⟨w.heap.size + 1, 1, none⟩) nR1.out (by simp))
    replace nR2 := Lib.hid (hk.cell (p := ⟨w.heap.size + 1, 2, none⟩) nR2.out (by simp))
    replace nR3 := Lib.hid (hk.cell (p := ⟨w.heap.size + 1, 3, none⟩) nR3.out (by simp))
    replace nO0 := Lib.hid (hk.cell (p := ⟨w.heap.size + 1 + 1, 0, none⟩) nO0.out (by simp))
    replace nO1 := Lib.hid (hk.cell (p := ⟨w.heap.size + 1 + 1, 1, none⟩) nO1.out (by simp))
    replace H1 := Lib.hid (H1.out.kept0 hk)
    replace H2 := Lib.hid (H2.out.kept0 hk)
    replace KT := Lib.hid (KT.out.trans0 hk)
    clear hk
    have hs1 := Lib.hid hs2
    have hs2 := Lib.hid hs5
    have G1 := Lib.hid (hf2.mono (B' := w.heap.size + 1 + 1 + 1) (by omega))
    have G2 := Lib.hid (hf5.mono (B' := w.heap.size + 1 + 1 + 1) (by omega))
    clear hf2 hf5 hf1 hf4 hs4 hs5 hk1 hk2 hk3 hk4 hk5 hk6
    obtain ⟨p9, hp9⟩ : ∃ r, r = isNeg t1 := ⟨_, rfl⟩
    obtain ⟨q9, hq9⟩ : ∃ r, r = isNeg t2 := ⟨_, rfl⟩
    rw [← hp9, ← hq9]
    generalize hW : ((((v6.setCell ⟨w.heap.size + 1, 0, none⟩ (.bool p9)).setCell ⟨w.heap.size + 1, 1, none⟩ (.slice a2 (mag t1).length c2)).setCell ⟨w.heap.size + 1, 2, none⟩ (.bool q9)).setCell ⟨w.heap.size + 1, 3, none⟩ (.slice a5 (mag t2).length c5)) = ww2
    have hk : Kept [w.heap.size + 1] v6 ww2 := by rw [← hW]; exact ((((Kept.refl _ _).setCell _ _ (by simp)).setCell _ _ (by simp)).setCell _ _ (by simp)).setCell _ _ (by simp)
    have hfz : ∀ x, ww2.frozen? x = v6.frozen? x := by rw [← hW]; intro x; simp only [World.frozen?_setCell]
    have e0 : ww2.cell? ⟨w.heap.size + 1, 0, none⟩ = some (.bool p9) := by rw [← hW]; rw [World.cell?_setCell_other _ _ _ _ (by simp), World.cell?_setCell_other _ _ _ _ (by simp), World.cell?_setCell_other _ _ _ _ (by simp)]; exact World.cell?_setCell_same _ _ _ (by exact nR0.out)
    have e1 : ww2.cell? ⟨w.heap.size + 1, 1, none⟩ = some (.slice a2 (mag t1).length c2) := by rw [← hW]; rw [World.cell?_setCell_other _ _ _ _ (by simp), World.cell?_setCell_other _ _ _ _ (by simp)]; exact World.cell?_setCell_same _ _ _ (by rw [World.cell?_setCell_other _ _ _ _ (by simp)]; exact nR1.out)
    have e2 : ww2.cell? ⟨w.heap.size + 1, 2, none⟩ = some (.bool q9) := by rw [← hW]; rw [World.cell?_setCell_other _ _ _ _ (by simp)]; exact World.cell?_setCell_same _ _ _ (by rw [World.cell?_setCell_other _ _ _ _ (by simp), World.cell?_setCell_other _ _ _ _ (by simp)]; exact nR2.out)
    have e3 : ww2.cell? ⟨w.heap.size + 1, 3, none⟩ = some (.slice a5 (mag t2).length c5) := by rw [← hW]; exact World.cell?_setCell_same _ _ _ (by rw [World.cell?_setCell_other _ _ _ _ (by simp), World.cell?_setCell_other _ _ _ _ (by simp), World.cell?_setCell_other _ _ _ _ (by simp)]; exact nR3.out)
    have z2 := hk.size
    replace fR0 := Lib.hid (show ww2.frozen? ⟨w.heap.size + 1, 0, none⟩ = false by rw [hfz]; exact fR0.out)
    replace fR1 := Lib.hid (show ww2.frozen? ⟨w.heap.size + 1, 1, none⟩ = false by rw [hfz]; exact fR1.out)
    replace fR2 := Lib.hid (show ww2.frozen? ⟨w.heap.size + 1, 2, none⟩ = false by rw [hfz]; exact fR2.out)
    replace fR3 := Lib.hid (show ww2.frozen? ⟨w.heap.size + 1, 3, none⟩ = false by rw [hfz]; exact fR3.out)
    replace fO0 := Lib.hid (show ww2.frozen? ⟨w.heap.size + 1 + 1, 0, none⟩ = false by rw [hfz]; exact fO0.out)
    replace fO1 := Lib.hid (show ww2.frozen? ⟨w.heap.size + 1 + 1, 1, none⟩ = false by rw [hfz]; exact fO1.out)
    replace nA0 := Lib.hid (hk.cell (p := ⟨w.heap.size, 0, none⟩) nA0.out (by simp <;> omega))
    replace nA1 := Lib.hid (hk.cell (p := ⟨w.heap.size, 1, none⟩) nA1.out (by simp <;> omega))
    replace nA2 := Lib.hid (hk.cell (p := ⟨w.heap.size, 2, none⟩) nA2.out (by simp <;> omega))
    replace nA3 := Lib.hid (hk.cell (p := ⟨w.heap.size, 3, none⟩) nA3.out (by simp <;> omega))
    replace nO0 := Lib.hid (hk.cell (p := ⟨w.heap.size + 1 + 1, 0, none⟩) nO0.out (by simp <;> omega))
    replace nO1 := Lib.hid (hk.cell (p := ⟨w.heap.size + 1 + 1, 1, none⟩) nO1.out (by simp <;> omega))
    replace H1 := Lib.hid (H1.out.kept hk (fun hn y hy hm => by have h9 := F1.out hn y hy; simp at hm; omega))
    replace H2 := Lib.hid (H2.out.kept hk (fun hn y hy hm => by have h9 := F2.out hn y hy; simp at hm; omega))
    replace hs1 := Lib.hid (hs1.out.kept hk (fun hn y hy hm => by have h9 := G1.out hn y hy; simp at hm; omega))
    replace hs2 := Lib.hid (hs2.out.kept hk (fun hn y hy hm => by have h9 := G2.out hn y hy; simp at hm; omega))
    replace nR0 := Lib.hid e0
    replace nR1 := Lib.hid e1
    replace nR2 := Lib.hid e2
    replace nR3 := Lib.hid e3
    replace KT := Lib.hid (KT.out.trans hk (fun x hx hlt => by simp at hx; omega))
    clear hk hfz hW e0 e1 e2 e3
    have HP9 := Lib.hid hp9
    have HQ9 := Lib.hid hq9
    clear hp9 hq9
    go_wp2_with fail
    have e0 := nR0.out
    have e1 := nR1.out
    have e2 := nR2.out
    have e3 := nR3.out
    refine bodyPost_ret (v := .agg #[.bool p9, .slice a2 (mag t1).length c2, .bool q9, .slice a5 (mag t2).length c5]) (by simp [results, Try.results91, go_sem, e0, e1, e2, e3]) rfl ?_
    exact spanV_fin HP9.out HQ9.out hs1.out hs2.out (G1.out.mono (by omega)) (G2.out.mono (by omega)) KT.out
  · skip
    have HU1 := Lib.hid (show u1 = val ([] : List Int) * p2 P.toNat by rw [hu1]; unfold lowZ; rw [if_pos rfl]; rfl)
    clear hu1
    go_enter Try.func91, Try.ntmps91
    go_upto_region 2 with fail
    generalize hW : (((w.alloc (.cells #[.bool true, .slice a n c, .bool q, .slice b m d] 31)).alloc (.cells #[.bool false, .slice none 0 0, .bool false, .slice none 0 0] 31)).alloc (.cells #[.bool true, .slice a n c] 29)) = ww0
    have hkk : Kept [] (((w.alloc (.cells #[.bool true, .slice a n c, .bool q, .slice b m d] 31)).alloc (.cells #[.bool false, .slice none 0 0, .bool false, .slice none 0 0] 31)).alloc (.cells #[.bool true, .slice a n c] 29)) ww0 := by rw [hW]; exact Kept.refl _ _
    have zzA : w.heap.size + 1 + 1 + 1 = ww0.heap.size := by rw [← hW]; simp
    have nA0 := Lib.hid (hkk.peel.peel.top (g := w.heap.size) (by simp) (by simp) 0 (v := .bool true) rfl).1
    have nA1 := Lib.hid (hkk.peel.peel.top (g := w.heap.size) (by simp) (by simp) 1 (v := .slice a n c) rfl).1
    have nA2 := Lib.hid (hkk.peel.peel.top (g := w.heap.size) (by simp) (by simp) 2 (v := .bool q) rfl).1
    have nA3 := Lib.hid (hkk.peel.peel.top (g := w.heap.size) (by simp) (by simp) 3 (v := .slice b m d) rfl).1
    have nR0 := Lib.hid (hkk.peel.top (g := w.heap.size + 1) (by simp) (by simp) 0 (v := .bool false) rfl).1
    have fR0 := Lib.hid (hkk.peel.top (g := w.heap.size + 1) (by simp) (by simp) 0 (v := .bool false) rfl).2.1
    have nR1 := Lib.hid (hkk.peel.top (g := w.heap.size + 1) (by simp) (by simp) 1 (v := .slice none 0 0) rfl).1
    have fR1 := Lib.hid (hkk.peel.top (g := w.heap.size + 1) (by simp) (by simp) 1 (v := .slice none 0 0) rfl).2.1
    have nR2 := Lib.hid (hkk.peel.top (g := w.heap.size + 1) (by simp) (by simp) 2 (v := .bool false) rfl).1
    have fR2 := Lib.hid (hkk.peel.top (g := w.heap.size + 1) (by simp) (by simp) 2 (v := .bool false) rfl).2.1
    have nR3 := Lib.hid (hkk.peel.top (g := w.heap.size + 1) (by simp) (by simp) 3 (v := .slice none 0 0) rfl).1
    have fR3 := Lib.hid (hkk.peel.top (g := w.heap.size + 1) (by simp) (by simp) 3 (v := .slice none 0 0) rfl).2.1
    have nO0 := Lib.hid (hkk.top (g := w.heap.size + 1 + 1) (by simp) (by simp) 0 (v := .bool true) rfl).1
    have fO0 := Lib.hid (hkk.top (g := w.heap.size + 1 + 1) (by simp) (by simp) 0 (v := .bool true) rfl).2.1
    have nO1 := Lib.hid (hkk.top (g := w.heap.size + 1 + 1) (by simp) (by simp) 1 (v := .slice a n c) rfl).1
    have fO1 := Lib.hid (hkk.top (g := w.heap.size + 1 + 1) (by simp) (by simp) 1 (v := .slice a n c) rfl).2.1
    have hk := hkk.peel.peel.peel
    clear hkk hW
    have z0 := hk.size
    have KT := Lib.hid hk
    clear hk
    replace H1 := Lib.hid (H1.out.kept0 KT.out)
    replace H2 := Lib.hid (H2.out.kept0 KT.out)
    have tO0 := nO0.out
    have tO1 := nO1.out
    have uO0 := fO0.out
    have uO1 := fO1.out
    go_upto_region 4 with fail
    clear tO0 tO1 uO0 uO1
    generalize hW : ((ww0.setCell ⟨w.heap.size + 1 + 1, 0, none⟩ (.bool false)).setCell ⟨w.heap.size + 1 + 1, 1, none⟩ (.slice none 0 0)) = ww1
    have hk : Kept [w.heap.size + 1 + 1] ww0 ww1 := by rw [← hW]; exact ((Kept.refl _ _).setCell _ _ (by simp)).setCell _ _ (by simp)
    have hfz : ∀ x, ww1.frozen? x = ww0.frozen? x := by rw [← hW]; intro x; simp only [World.frozen?_setCell]
    have e0 : ww1.cell? ⟨w.heap.size + 1 + 1, 0, none⟩ = some (.bool false) := by rw [← hW]; rw [World.cell?_setCell_other _ _ _ _ (by simp)]; exact World.cell?_setCell_same _ _ _ (by exact nO0.out)
    have e1 : ww1.cell? ⟨w.heap.size + 1 + 1, 1, none⟩ = some (.slice none 0 0) := by rw [← hW]; exact World.cell?_setCell_same _ _ _ (by rw [World.cell?_setCell_other _ _ _ _ (by simp)]; exact nO1.out)
    have z1 := hk.size
    replace fR0 := Lib.hid (show ww1.frozen? ⟨w.heap.size + 1, 0, none⟩ = false by rw [hfz]; exact fR0.out)
    replace fR1 := Lib.hid (show ww1.frozen? ⟨w.heap.size + 1, 1, none⟩ = false by rw [hfz]; exact fR1.out)
    replace fR2 := Lib.hid (show ww1.frozen? ⟨w.heap.size + 1, 2, none⟩ = false by rw [hfz]; exact fR2.out)
    replace fR3 := Lib.hid (show ww1.frozen? ⟨w.heap.size + 1, 3, none⟩ = false by rw [hfz]; exact fR3.out)
    replace fO0 := Lib.hid (show ww1.frozen? ⟨w.heap.size + 1 + 1, 0, none⟩ = false by rw [hfz]; exact fO0.out)
    replace fO1 := Lib.hid (show ww1.frozen? ⟨w.heap.size + 1 + 1, 1, none⟩ = false by rw [hfz]; exact fO1.out)
    replace nA0 := Lib.hid (hk.cell (p := ⟨w.heap.size, 0, none⟩) nA0.out (by simp <;> omega))
    replace nA1 := Lib.hid (hk.cell (p := ⟨w.heap.size, 1, none⟩) nA1.out (by simp <;> omega))
    replace nA2 := Lib.hid (hk.cell (p := ⟨w.heap.size, 2, none⟩) nA2.out (by simp <;> omega))
    replace nA3 := Lib.hid (hk.cell (p := ⟨w.heap.size, 3, none⟩) nA3.out (by simp <;> omega))
    replace nR0 := Lib.hid (hk.cell (p := ⟨w.heap.size + 1, 0, none⟩) nR0.out (by simp <;> omega))
    replace nR1 := Lib.hid (hk.cell (p := ⟨w.heap.size + 1, 1, none⟩) nR1.out (by simp <;> omega))
    replace nR2 := Lib.hid (hk.cell (p := ⟨w.heap.size + 1, 2, none⟩) nR2.out (by simp <;> omega))
    replace nR3 := Lib.hid (hk.cell (p := ⟨w.heap.size + 1, 3, none⟩) nR3.out (by simp <;> omega))
    replace H1 := Lib.hid (H1.out.kept hk (fun hn y hy hm => by have h9 := F1.out hn y hy; simp at hm; omega))
    replace H2 := Lib.hid (H2.out.kept hk (fun hn y hy hm => by have h9 := F2.out hn y hy; simp at hm; omega))
    replace nO0 := Lib.hid e0
    replace nO1 := Lib.hid e1
    replace KT := Lib.hid (KT.out.trans hk (fun x hx hlt => by simp at hx; omega))
    clear hk hfz hW e0 e1
    have tO0 := nO0.out
    have tO1 := nO1.out
    have tA0 := nA0.out
    have tA1 := nA1.out
    have tA2 := nA2.out
    have tA3 := nA3.out
    go_region_held3 (fun w' => w'.cell? ⟨w.heap.size + 1 + 1, 0, none⟩ = some (.bool false) ∧ w'.cell? ⟨w.heap.size + 1 + 1, 1, none⟩ = some (.slice none 0 0) ∧ w'.cell? ⟨w.heap.size, 0, none⟩ = some (.bool true) ∧ w'.cell? ⟨w.heap.size, 1, none⟩ = some (.slice a n c) ∧ w'.cell? ⟨w.heap.size, 2, none⟩ = some (.bool q) ∧ w'.cell? ⟨w.heap.size, 3, none⟩ = some (.slice b m d) ∧ Hid (Kept [w.heap.size + 1] ww1 w'))
      ((go_split_ands; (try refine ⟨?_, ?_, ?_, ?_, ?_, ?_, ?_⟩) <;> with_reducible first | exact Kept.set4 (by assumption) | exact cell_set4 (by assumption) (by simp <;> omega) | exact Lib.hid ((Kept.refl _ _).drew) | exact drew_cell (by assumption) | exact Kept.allocH (by assumption) | exact alloc_cell (by assumption) | exact Lib.hid (Kept.trans0 (Hid.out (by assumption)) (by assumption)) | exact Kept.cell (by assumption) (by assumption) (by simp)))
      (first
        | (go_at_call_of 104 (Value.slice none 0 0); go_split_ands; refine (l3Shift_u P _ _ _ _ u1 _ HP.out (Sl.nil _) XE.out (by simp) HU1.out).mono ?_; rintro e v1 ⟨a1, c1, rfl, hs1, hf1, hk1⟩)
        | (go_at_call 114; go_split_ands; refine (l2Root_u _ _ _ u1 t1 _ hs1 HN1.out (by omega) HT1.out).mono ?_; rintro e v2 ⟨a2, c2, rfl, hs2, hf2, hk2⟩)
        | (go_at_call_of 103 (Value.slice a2 (mag t1).length c2); go_split_ands; refine (l2Big_t _ _ t1 _ HG1.out).mono ?_; rintro e v3 ⟨rfl, hk3⟩)
        | (go_at_call_of 104 (Value.slice b m d); go_split_ands; refine (l3Shift_u P _ _ _ _ u2 _ HP.out (H2.out.kept0 (((((Kept.refl [] _).drew).trans0 hk1).trans0 hk2).trans0 hk3)) X2.out ly HU2.out).mono ?_; rintro e v4 ⟨a4, c4, rfl, hs4, hf4, hk4⟩)
        | (go_at_call 115; go_split_ands; refine (l2CeilRoot_u _ _ _ u2 t2 _ hs4 HN2.out (by omega) HT2.out).mono ?_; rintro e v5 ⟨a5, c5, rfl, hs5, hf5, hk5⟩)
        | (go_at_call_of 103 (Value.slice a5 (mag t2).length c5); go_split_ands; refine (l2Big_t _ _ t2 _ HG2.out).mono ?_; rintro e v6 ⟨rfl, hk6⟩; have hs2 := hs2.kept0 (((hk3.trans0 hk4).trans0 hk5).trans0 hk6); have hs5 := hs5.kept0 hk6; have z12 := hk1.size; have z13 := hk2.size; have z14 := hk3.size; have z15 := hk4.size; simp only [World.size_drew] at z12; have hkr := (((((((Kept.refl [] ww1).drew).trans0 hk1).trans0 hk2).trans0 hk3).trans0 hk4).trans0 hk5).trans0 hk6; have rg0 := hkr.cell (p := ⟨w.heap.size + 1, 0, none⟩) nR0.out (by simp); have rg1 := hkr.cell (p := ⟨w.heap.size + 1, 1, none⟩) nR1.out (by simp); have rg2 := hkr.cell (p := ⟨w.heap.size + 1, 2, none⟩) nR2.out (by simp); have rg3 := hkr.cell (p := ⟨w.heap.size + 1, 3, none⟩) nR3.out (by simp); have ru0 := hkr.free' (p := ⟨w.heap.size + 1, 0, none⟩) nR0.out fR0.out (by simp); have ru1 := hkr.free' (p := ⟨w.heap.size + 1, 1, none⟩) nR1.out fR1.out (by simp); have ru2 := hkr.free' (p := ⟨w.heap.size + 1, 2, none⟩) nR2.out fR2.out (by simp); have ru3 := hkr.free' (p := ⟨w.heap.size + 1, 3, none⟩) nR3.out fR3.out (by simp)))
    clear tO0 tO1 tA0 tA1 tA2 tA3
    have hk := hkr
    clear hkr
    have z2 := hk.size
    replace fR0 := Lib.hid (hk.free' (p := ⟨w.heap.size + 1, 0, none⟩) nR0.out fR0.out (by simp))
    replace fR1 := Lib.hid (hk.free' (p := ⟨w.heap.size + 1, 1, none⟩) nR1.out fR1.out (by simp))
    replace fR2 := Lib.hid (hk.free' (p := ⟨w.heap.size + 1, 2, none⟩) nR2.out fR2.out (by simp))
    replace fR3 := Lib.hid (hk.free' (p := ⟨w.heap.size + 1, 3, none⟩) nR3.out fR3.out (by simp))
    replace fO0 := Lib.hid (hk.free' (p := ⟨w.heap.size + 1 + 1, 0, none⟩) nO0.out fO0.out (by simp))
    replace fO1 := Lib.hid (hk.free' (p := ⟨w.heap.size + 1 + 1, 1, none⟩) nO1.out fO1.out (by simp))
    replace nA0 := Lib.hid (hk.cell (p := ⟨w.heap.size, 0, none⟩) nA0.out (by simp))
    replace nA1 := Lib.hid (hk.cell (p := ⟨w.heap.size, 1, none⟩) nA1.out (by simp))
    replace nA2 := Lib.hid (hk.cell (p := ⟨w.heap.size, 2, none⟩) nA2.out (by simp))
    replace nA3 := Lib.hid (hk.cell (p := ⟨w.heap.size, 3, none⟩) nA3.out (by simp))
    replace nR0 := Lib.hid (hk.cell (p := ⟨w.heap.size + 1, 0, none⟩) nR0.out (by simp))
    replace nR1 := Lib.hid (hk.cell (p := ⟨w.heap.size + 1, 1, none⟩) nR1.out (by simp))
    replace nR2 := Lib.hid (hk.cell (p := ⟨w.heap.size + 1, 2, none⟩) nR2.out (by simp))
    replace nR3 := Lib.hid (hk.cell (p := ⟨w.heap.size + 1, 3, none⟩) nR3.out (by simp))
    replace nO0 := Lib.hid (hk.cell (p := ⟨w.heap.size + 1 + 1, 0, none⟩) nO0.out (by simp))
    replace nO1 := Lib.hid (hk.cell (p := ⟨w.heap.size + 1 + 1, 1, none⟩) nO1.out (by simp))
    replace H1 := Lib.hid (H1.out.kept0 hk)
    replace H2 := Lib.hid (H2.out.kept0 hk)
    replace KT := Lib.hid (KT.out.trans0 hk)
    clear hk
    have hs1 := Lib.hid hs2
    have hs2 := Lib.hid hs5
    have G1 := Lib.hid (hf2.mono (B' := w.heap.size + 1 + 1 + 1) (by omega))
    have G2 := Lib.hid (hf5.mono (B' := w.heap.size + 1 + 1 + 1) (by omega))
    clear hf2 hf5 hf1 hf4 hs4 hs5 hk1 hk2 hk3 hk4 hk5 hk6
    obtain ⟨p9, hp9⟩ : ∃ r, r = isNeg t1 := ⟨_, rfl⟩
    obtain ⟨q9, hq9⟩ : ∃ r, r = isNeg t2 := ⟨_, rfl⟩
    rw [← hp9, ← hq9]
    generalize hW : ((((v6.setCell ⟨w.heap.size + 1, 0, none⟩ (.bool p9)).setCell ⟨w.heap.size + 1, 1, none⟩ (.slice a2 (mag t1).length c2)).setCell ⟨w.heap.size + 1, 2, none⟩ (.bool q9)).setCell ⟨w.heap.size + 1, 3, none⟩ (.slice a5 (mag t2).length c5)) = ww3
    have hk : Kept [w.heap.size + 1] v6 ww3 := by rw [← hW]; exact ((((Kept.refl _ _).setCell _ _ (by simp)).setCell _ _ (by simp)).setCell _ _ (by simp)).setCell _ _ (by simp)
    have hfz : ∀ x, ww3.frozen? x = v6.frozen? x := by rw [← hW]; intro x; simp only [World.frozen?_setCell]
    have e0 : ww3.cell? ⟨w.heap.size + 1, 0, none⟩ = some (.bool p9) := by rw [← hW]; rw [World.cell?_setCell_other _ _ _ _ (by simp), World.cell?_setCell_other _ _ _ _ (by simp), World.cell?_setCell_other _ _ _ _ (by simp)]; exact World.cell?_setCell_same _ _ _ (by exact nR0.out)
    have e1 : ww3.cell? ⟨w.heap.size + 1, 1, none⟩ = some (.slice a2 (mag t1).length c2) := by rw [← hW]; rw [World.cell?_setCell_other _ _ _ _ (by simp), World.cell?_setCell_other _ _ _ _ (by simp)]; exact World.cell?_setCell_same _ _ _ (by rw [World.cell?_setCell_other _ _ _ _ (by simp)]; exact nR1.out)
    have e2 : ww3.cell? ⟨w.heap.size + 1, 2, none⟩ = some (.bool q9) := by rw [← hW]; rw [World.cell?_setCell_other _ _ _ _ (by simp)]; exact World.cell?_setCell_same _ _ _ (by rw [World.cell?_setCell_other _ _ _ _ (by simp), World.cell?_setCell_other _ _ _ _ (by simp)]; exact nR2.out)
    have e3 : ww3.cell? ⟨w.heap.size + 1, 3, none⟩ = some (.slice a5 (mag t2).length c5) := by rw [← hW]; exact World.cell?_setCell_same _ _ _ (by rw [World.cell?_setCell_other _ _ _ _ (by simp), World.cell?_setCell_other _ _ _ _ (by simp), World.cell?_setCell_other _ _ _ _ (by simp)]; exact nR3.out)
    have z3 := hk.size
    replace fR0 := Lib.hid (show ww3.frozen? ⟨w.heap.size + 1, 0, none⟩ = false by rw [hfz]; exact fR0.out)
    replace fR1 := Lib.hid (show ww3.frozen? ⟨w.heap.size + 1, 1, none⟩ = false by rw [hfz]; exact fR1.out)
    replace fR2 := Lib.hid (show ww3.frozen? ⟨w.heap.size + 1, 2, none⟩ = false by rw [hfz]; exact fR2.out)
    replace fR3 := Lib.hid (show ww3.frozen? ⟨w.heap.size + 1, 3, none⟩ = false by rw [hfz]; exact fR3.out)
    replace fO0 := Lib.hid (show ww3.frozen? ⟨w.heap.size + 1 + 1, 0, none⟩ = false by rw [hfz]; exact fO0.out)
    replace fO1 := Lib.hid (show ww3.frozen? ⟨w.heap.size + 1 + 1, 1, none⟩ = false by rw [hfz]; exact fO1.out)
    replace nA0 := Lib.hid (hk.cell (p := ⟨w.heap.size, 0, none⟩) nA0.out (by simp <;> omega))
    replace nA1 := Lib.hid (hk.cell (p := ⟨w.heap.size, 1, none⟩) nA1.out (by simp <;> omega))
    replace nA2 := Lib.hid (hk.cell (p := ⟨w.heap.size, 2, none⟩) nA2.out (by simp <;> omega))
    replace nA3 := Lib.hid (hk.cell (p := ⟨w.heap.size, 3, none⟩) nA3.out (by simp <;> omega))
    replace nO0 := Lib.hid (hk.cell (p := ⟨w.heap.size + 1 + 1, 0, none⟩) nO0.out (by simp <;> omega))
    replace nO1 := Lib.hid (hk.cell (p := ⟨w.heap.size + 1 + 1, 1, none⟩) nO1.out (by simp <;> omega))
    replace H1 := Lib.hid (H1.out.kept hk (fun hn y hy hm => by have h9 := F1.out hn y hy; simp at hm; omega))
    replace H2 := Lib.hid (H2.out.kept hk (fun hn y hy hm => by have h9 := F2.out hn y hy; simp at hm; omega))
    replace hs1 := Lib.hid (hs1.out.kept hk (fun hn y hy hm => by have h9 := G1.out hn y hy; simp at hm; omega))
    replace hs2 := Lib.hid (hs2.out.kept hk (fun hn y hy hm => by have h9 := G2.out hn y hy; simp at hm; omega))
    replace nR0 := Lib.hid e0
    replace nR1 := Lib.hid e1
    replace nR2 := Lib.hid e2
    replace nR3 := Lib.hid e3
    replace KT := Lib.hid (KT.out.trans hk (fun x hx hlt => by simp at hx; omega))
    clear hk hfz hW e0 e1 e2 e3
    have HP9 := Lib.hid hp9
    have HQ9 := Lib.hid hq9
    clear hp9 hq9
    go_wp2_with fail
    have e0 := nR0.out
    have e1 := nR1.out
    have e2 := nR2.out
    have e3 := nR3.out
    refine bodyPost_ret (v := .agg #[.bool p9, .slice a2 (mag t1).length c2, .bool q9, .slice a5 (mag t2).length c5]) (by simp [results, Try.results91, go_sem, e0, e1, e2, e3]) rfl ?_
    exact spanV_fin HP9.out HQ9.out hs1.out hs2.out (G1.out.mono (by omega)) (G2.out.mono (by omega)) KT.out

set_option maxHeartbeats 8000000 in
set_option maxRecDepth 20000 in
theorem sRootSpan_any (P : Int) (p q : Bool) (a b : Option Addr) (n c m d : Nat) (xs ys : List Int) (w : World) (h1 : Sl w a n c xs) (h2 : Sl w b m d ys) :
    Calls Try.prog 48 #[.int .i64 P, .agg #[.bool p, .slice a n c, .bool q, .slice b m d]] w (SpanM w (rootS P p xs q ys)) := by
  have H1 := Lib.hid h1
  have H2 := Lib.hid h2
  have F1 := Lib.hid h1.lt
  have F2 := Lib.hid h2.lt
  clear h1 h2
  by_cases hP : isP P = true
  · skip
    by_cases hz : spanFault p xs q ys = 0
    · cases q
      · skip
        have hk96 : P.toNat ≤ 96 := by rcases isP_cases hP with h | h | h <;> omega
        obtain ⟨hx, hy, lx, ly, _⟩ := spanFault_zero hz
        obtain ⟨u1, hu1⟩ : ∃ u, u = lowZ p xs * p2 P.toNat := ⟨_, rfl⟩
        obtain ⟨u2, hu2⟩ : ∃ u, u = val ys * p2 P.toNat := ⟨_, rfl⟩
        obtain ⟨t1, ht1⟩ : ∃ t, t = isq u1 := ⟨_, rfl⟩
        obtain ⟨t2, ht2⟩ : ∃ t, t = csqZ u2 := ⟨_, rfl⟩
        obtain ⟨r, hr⟩ : ∃ r, r = fitS t1 t2 := ⟨_, rfl⟩
        rw [show rootS P p xs false ys = r from by unfold rootS; rw [if_pos hP, twoS_zero hz, if_neg (by simp), hr, ht1, ht2, hu1, hu2]]
        have h0 := lowZ_nonneg hx
        have hp2 := p2_pos P.toNat
        have hn1 : 0 ≤ u1 := by rw [hu1]; exact Int.mul_nonneg h0 (by omega)
        have hn2 : 0 ≤ u2 := by rw [hu2]; exact Int.mul_nonneg (canon_nonneg hy.n40.canon).1 (by omega)
        have hl1 : (mag u1).length ≤ 27 := by rw [hu1]; exact mul_p2_len hx.n40 lx hk96 (by unfold lowZ; split; exact Or.inr rfl; exact Or.inl rfl)
        have hl2 : (mag u2).length ≤ 27 := by rw [hu2]; exact mul_p2_len hy.n40 ly hk96 (Or.inl rfl)
        have HZ := Lib.hid (show precS P (spanFault2 p xs false ys p xs false ys) = 0 by unfold precS; rw [if_pos hP]; unfold spanFault2; rw [if_pos hz]; exact hz)
        have HP := Lib.hid hP
        have HR := Lib.hid hr
        have HT1 := Lib.hid ht1
        have HT2 := Lib.hid ht2
        have HX := Lib.hid hx
        have HY := Lib.hid hy
        have HU1 := Lib.hid hu1
        have HU2 := Lib.hid hu2
        have HN1 := Lib.hid hn1
        have HN2 := Lib.hid hn2
        clear hz hP hr ht1 ht2 hx hy hu1 hu2 h0 hp2 hn1 hn2 hk96
        go_enter Try.func48, Try.ntmps48
        go_wp2_with fail
        generalize hW : ((w.alloc (.cells #[.bool p, .slice a n c, .bool false, .slice b m d] 31)).alloc (.cells #[.int .i64 0, .bool false, .slice none 0 0, .bool false, .slice none 0 0] 38)) = ww0
        have hkk : Kept [] ((w.alloc (.cells #[.bool p, .slice a n c, .bool false, .slice b m d] 31)).alloc (.cells #[.int .i64 0, .bool false, .slice none 0 0, .bool false, .slice none 0 0] 38)) ww0 := by rw [hW]; exact Kept.refl _ _
        have zzA : w.heap.size + 1 + 1 = ww0.heap.size := by rw [← hW]; simp
        have nA0 := Lib.hid (hkk.peel.top (g := w.heap.size) (by simp) (by simp) 0 (v := .bool p) rfl).1
        have nA1 := Lib.hid (hkk.peel.top (g := w.heap.size) (by simp) (by simp) 1 (v := .slice a n c) rfl).1
        have nA2 := Lib.hid (hkk.peel.top (g := w.heap.size) (by simp) (by simp) 2 (v := .bool false) rfl).1
        have nA3 := Lib.hid (hkk.peel.top (g := w.heap.size) (by simp) (by simp) 3 (v := .slice b m d) rfl).1
        have nR0 := Lib.hid (hkk.top (g := w.heap.size + 1) (by simp) (by simp) 0 (v := .int .i64 0) rfl).1
        have fR0 := Lib.hid (hkk.top (g := w.heap.size + 1) (by simp) (by simp) 0 (v := .int .i64 0) rfl).2.1
        have nR1 := Lib.hid (hkk.top (g := w.heap.size + 1) (by simp) (by simp) 1 (v := .bool false) rfl).1
        have fR1 := Lib.hid (hkk.top (g := w.heap.size + 1) (by simp) (by simp) 1 (v := .bool false) rfl).2.1
        have nR2 := Lib.hid (hkk.top (g := w.heap.size + 1) (by simp) (by simp) 2 (v := .slice none 0 0) rfl).1
        have fR2 := Lib.hid (hkk.top (g := w.heap.size + 1) (by simp) (by simp) 2 (v := .slice none 0 0) rfl).2.1
        have nR3 := Lib.hid (hkk.top (g := w.heap.size + 1) (by simp) (by simp) 3 (v := .bool false) rfl).1
        have fR3 := Lib.hid (hkk.top (g := w.heap.size + 1) (by simp) (by simp) 3 (v := .bool false) rfl).2.1
        have nR4 := Lib.hid (hkk.top (g := w.heap.size + 1) (by simp) (by simp) 4 (v := .slice none 0 0) rfl).1
        have fR4 := Lib.hid (hkk.top (g := w.heap.size + 1) (by simp) (by simp) 4 (v := .slice none 0 0) rfl).2.1
        have hk := hkk.peel.peel
        clear hkk hW
        have z0 := hk.size
        have KT := Lib.hid hk
        clear hk
        replace H1 := Lib.hid (H1.out.kept0 KT.out)
        replace H2 := Lib.hid (H2.out.kept0 KT.out)
        refine (l3Asked_any P _ _ _ _ _ _ _ _ _ _ _ _ _ _ _ _ _ _ _ _ _ H1.out H2.out H1.out H2.out).mono ?_
        rintro e ww1 ⟨rfl, hk⟩
        rw [HZ.out]
        have z1 := hk.size
        replace fR0 := Lib.hid (hk.free' (p := ⟨w.heap.size + 1, 0, none⟩) nR0.out fR0.out (by simp))
        replace fR1 := Lib.hid (hk.free' (p := ⟨w.heap.size + 1, 1, none⟩) nR1.out fR1.out (by simp))
        replace fR2 := Lib.hid (hk.free' (p := ⟨w.heap.size + 1, 2, none⟩) nR2.out fR2.out (by simp))
        replace fR3 := Lib.hid (hk.free' (p := ⟨w.heap.size + 1, 3, none⟩) nR3.out fR3.out (by simp))
        replace fR4 := Lib.hid (hk.free' (p := ⟨w.heap.size + 1, 4, none⟩) nR4.out fR4.out (by simp))
        replace nA0 := Lib.hid (hk.cell (p := ⟨w.heap.size, 0, none⟩) nA0.out (by simp))
        replace nA1 := Lib.hid (hk.cell (p := ⟨w.heap.size, 1, none⟩) nA1.out (by simp))
        replace nA2 := Lib.hid (hk.cell (p := ⟨w.heap.size, 2, none⟩) nA2.out (by simp))
        replace nA3 := Lib.hid (hk.cell (p := ⟨w.heap.size, 3, none⟩) nA3.out (by simp))
        replace nR0 := Lib.hid (hk.cell (p := ⟨w.heap.size + 1, 0, none⟩) nR0.out (by simp))
        replace nR1 := Lib.hid (hk.cell (p := ⟨w.heap.size + 1, 1, none⟩) nR1.out (by simp))
        replace nR2 := Lib.hid (hk.cell (p := ⟨w.heap.size + 1, 2, none⟩) nR2.out (by simp))
        replace nR3 := Lib.hid (hk.cell (p := ⟨w.heap.size + 1, 3, none⟩) nR3.out (by simp))
        replace nR4 := Lib.hid (hk.cell (p := ⟨w.heap.size + 1, 4, none⟩) nR4.out (by simp))
        replace H1 := Lib.hid (H1.out.kept0 hk)
        replace H2 := Lib.hid (H2.out.kept0 hk)
        replace KT := Lib.hid (KT.out.trans0 hk)
        clear hk
        have tA0 := nA0.out
        have tA1 := nA1.out
        have tA2 := nA2.out
        have tA3 := nA3.out
        go_wp2_with fail
        clear tA0 tA1 tA2 tA3
        refine (l3Root_any P _ _ _ _ _ _ _ _ _ _ u1 u2 t1 t2 _ H1.out H2.out HP.out HX.out.n40 HY.out.n40 lx ly hl1 hl2 HN1.out HN2.out HU1.out HU2.out HT1.out HT2.out).mono ?_
        rintro e ww2 ⟨a1, c1, a2, c2, rfl, hs1, hs2, hf1, hf2, hk⟩
        have z2 := hk.size
        replace fR0 := Lib.hid (hk.free' (p := ⟨w.heap.size + 1, 0, none⟩) nR0.out fR0.out (by simp))
        replace fR1 := Lib.hid (hk.free' (p := ⟨w.heap.size + 1, 1, none⟩) nR1.out fR1.out (by simp))
        replace fR2 := Lib.hid (hk.free' (p := ⟨w.heap.size + 1, 2, none⟩) nR2.out fR2.out (by simp))
        replace fR3 := Lib.hid (hk.free' (p := ⟨w.heap.size + 1, 3, none⟩) nR3.out fR3.out (by simp))
        replace fR4 := Lib.hid (hk.free' (p := ⟨w.heap.size + 1, 4, none⟩) nR4.out fR4.out (by simp))
        replace nA0 := Lib.hid (hk.cell (p := ⟨w.heap.size, 0, none⟩) nA0.out (by simp))
        replace nA1 := Lib.hid (hk.cell (p := ⟨w.heap.size, 1, none⟩) nA1.out (by simp))
        replace nA2 := Lib.hid (hk.cell (p := ⟨w.heap.size, 2, none⟩) nA2.out (by simp))
        replace nA3 := Lib.hid (hk.cell (p := ⟨w.heap.size, 3, none⟩) nA3.out (by simp))
        replace nR0 := Lib.hid (hk.cell (p := ⟨w.heap.size + 1, 0, none⟩) nR0.out (by simp))
        replace nR1 := Lib.hid (hk.cell (p := ⟨w.heap.size + 1, 1, none⟩) nR1.out (by simp))
        replace nR2 := Lib.hid (hk.cell (p := ⟨w.heap.size + 1, 2, none⟩) nR2.out (by simp))
        replace nR3 := Lib.hid (hk.cell (p := ⟨w.heap.size + 1, 3, none⟩) nR3.out (by simp))
        replace nR4 := Lib.hid (hk.cell (p := ⟨w.heap.size + 1, 4, none⟩) nR4.out (by simp))
        replace H1 := Lib.hid (H1.out.kept0 hk)
        replace H2 := Lib.hid (H2.out.kept0 hk)
        replace KT := Lib.hid (KT.out.trans0 hk)
        clear hk
        have hs1 := Lib.hid hs1
        have hs2 := Lib.hid hs2
        have G1 := Lib.hid hf1
        have G2 := Lib.hid hf2
        clear hf1 hf2
        go_wp2_with fail
        refine (l3Whole_any _ _ _ _ _ _ _ _ _ hs1.out hs2.out).mono ?_
        rintro e ww3 ⟨a3, c3, b3, d3, rfl, hs3, hs4, he3, he4, hk⟩
        have g3 := fr_of_fitS G1.out he3
        have g4 := fr_of_fitS' G2.out he4
        rw [← HR.out] at hs3 hs4 g3 g4 ⊢
        clear he3 he4
        have z3 := hk.size
        replace fR0 := Lib.hid (hk.free' (p := ⟨w.heap.size + 1, 0, none⟩) nR0.out fR0.out (by simp))
        replace fR1 := Lib.hid (hk.free' (p := ⟨w.heap.size + 1, 1, none⟩) nR1.out fR1.out (by simp))
        replace fR2 := Lib.hid (hk.free' (p := ⟨w.heap.size + 1, 2, none⟩) nR2.out fR2.out (by simp))
        replace fR3 := Lib.hid (hk.free' (p := ⟨w.heap.size + 1, 3, none⟩) nR3.out fR3.out (by simp))
        replace fR4 := Lib.hid (hk.free' (p := ⟨w.heap.size + 1, 4, none⟩) nR4.out fR4.out (by simp))
        replace nA0 := Lib.hid (hk.cell (p := ⟨w.heap.size, 0, none⟩) nA0.out (by simp))
        replace nA1 := Lib.hid (hk.cell (p := ⟨w.heap.size, 1, none⟩) nA1.out (by simp))
        replace nA2 := Lib.hid (hk.cell (p := ⟨w.heap.size, 2, none⟩) nA2.out (by simp))
        replace nA3 := Lib.hid (hk.cell (p := ⟨w.heap.size, 3, none⟩) nA3.out (by simp))
        replace nR0 := Lib.hid (hk.cell (p := ⟨w.heap.size + 1, 0, none⟩) nR0.out (by simp))
        replace nR1 := Lib.hid (hk.cell (p := ⟨w.heap.size + 1, 1, none⟩) nR1.out (by simp))
        replace nR2 := Lib.hid (hk.cell (p := ⟨w.heap.size + 1, 2, none⟩) nR2.out (by simp))
        replace nR3 := Lib.hid (hk.cell (p := ⟨w.heap.size + 1, 3, none⟩) nR3.out (by simp))
        replace nR4 := Lib.hid (hk.cell (p := ⟨w.heap.size + 1, 4, none⟩) nR4.out (by simp))
        replace H1 := Lib.hid (H1.out.kept0 hk)
        replace H2 := Lib.hid (H2.out.kept0 hk)
        replace hs1 := Lib.hid (hs1.out.kept0 hk)
        replace hs2 := Lib.hid (hs2.out.kept0 hk)
        replace KT := Lib.hid (KT.out.trans0 hk)
        clear hk
        have hs3 := Lib.hid hs3
        have hs4 := Lib.hid hs4
        have G3 := Lib.hid (g3.mono (B' := w.heap.size + 1 + 1) (by omega))
        have G4 := Lib.hid (g4.mono (B' := w.heap.size + 1 + 1) (by omega))
        clear g3 g4
        clear hs1 hs2
        have tR0 := nR0.out
        have tR1 := nR1.out
        have tR2 := nR2.out
        have tR3 := nR3.out
        have tR4 := nR4.out
        have uR0 := fR0.out
        have uR1 := fR1.out
        have uR2 := fR2.out
        have uR3 := fR3.out
        have uR4 := fR4.out
        go_wp2_with fail
        clear tR0 tR1 tR2 tR3 tR4 uR0 uR1 uR2 uR3 uR4
        generalize hW : (((((ww3.setCell ⟨w.heap.size + 1, 0, none⟩ (.int .i64 r.code)).setCell ⟨w.heap.size + 1, 1, none⟩ (.bool (isNeg r.lo))).setCell ⟨w.heap.size + 1, 2, none⟩ (.slice a3 (mag r.lo).length c3)).setCell ⟨w.heap.size + 1, 3, none⟩ (.bool (isNeg r.hi))).setCell ⟨w.heap.size + 1, 4, none⟩ (.slice b3 (mag r.hi).length d3)) = ww4
        have hk : Kept [w.heap.size + 1] ww3 ww4 := by rw [← hW]; exact (((((Kept.refl _ _).setCell _ _ (by simp)).setCell _ _ (by simp)).setCell _ _ (by simp)).setCell _ _ (by simp)).setCell _ _ (by simp)
        have hfz : ∀ x, ww4.frozen? x = ww3.frozen? x := by rw [← hW]; intro x; simp only [World.frozen?_setCell]
        have e0 : ww4.cell? ⟨w.heap.size + 1, 0, none⟩ = some (.int .i64 r.code) := by rw [← hW]; rw [World.cell?_setCell_other _ _ _ _ (by simp), World.cell?_setCell_other _ _ _ _ (by simp), World.cell?_setCell_other _ _ _ _ (by simp), World.cell?_setCell_other _ _ _ _ (by simp)]; exact World.cell?_setCell_same _ _ _ (by exact nR0.out)
        have e1 : ww4.cell? ⟨w.heap.size + 1, 1, none⟩ = some (.bool (isNeg r.lo)) := by rw [← hW]; rw [World.cell?_setCell_other _ _ _ _ (by simp), World.cell?_setCell_other _ _ _ _ (by simp), World.cell?_setCell_other _ _ _ _ (by simp)]; exact World.cell?_setCell_same _ _ _ (by rw [World.cell?_setCell_other _ _ _ _ (by simp)]; exact nR1.out)
        have e2 : ww4.cell? ⟨w.heap.size + 1, 2, none⟩ = some (.slice a3 (mag r.lo).length c3) := by rw [← hW]; rw [World.cell?_setCell_other _ _ _ _ (by simp), World.cell?_setCell_other _ _ _ _ (by simp)]; exact World.cell?_setCell_same _ _ _ (by rw [World.cell?_setCell_other _ _ _ _ (by simp), World.cell?_setCell_other _ _ _ _ (by simp)]; exact nR2.out)
        have e3 : ww4.cell? ⟨w.heap.size + 1, 3, none⟩ = some (.bool (isNeg r.hi)) := by rw [← hW]; rw [World.cell?_setCell_other _ _ _ _ (by simp)]; exact World.cell?_setCell_same _ _ _ (by rw [World.cell?_setCell_other _ _ _ _ (by simp), World.cell?_setCell_other _ _ _ _ (by simp), World.cell?_setCell_other _ _ _ _ (by simp)]; exact nR3.out)
        have e4 : ww4.cell? ⟨w.heap.size + 1, 4, none⟩ = some (.slice b3 (mag r.hi).length d3) := by rw [← hW]; exact World.cell?_setCell_same _ _ _ (by rw [World.cell?_setCell_other _ _ _ _ (by simp), World.cell?_setCell_other _ _ _ _ (by simp), World.cell?_setCell_other _ _ _ _ (by simp), World.cell?_setCell_other _ _ _ _ (by simp)]; exact nR4.out)
        have z4 := hk.size
        replace fR0 := Lib.hid (show ww4.frozen? ⟨w.heap.size + 1, 0, none⟩ = false by rw [hfz]; exact fR0.out)
        replace fR1 := Lib.hid (show ww4.frozen? ⟨w.heap.size + 1, 1, none⟩ = false by rw [hfz]; exact fR1.out)
        replace fR2 := Lib.hid (show ww4.frozen? ⟨w.heap.size + 1, 2, none⟩ = false by rw [hfz]; exact fR2.out)
        replace fR3 := Lib.hid (show ww4.frozen? ⟨w.heap.size + 1, 3, none⟩ = false by rw [hfz]; exact fR3.out)
        replace fR4 := Lib.hid (show ww4.frozen? ⟨w.heap.size + 1, 4, none⟩ = false by rw [hfz]; exact fR4.out)
        replace nA0 := Lib.hid (hk.cell (p := ⟨w.heap.size, 0, none⟩) nA0.out (by simp <;> omega))
        replace nA1 := Lib.hid (hk.cell (p := ⟨w.heap.size, 1, none⟩) nA1.out (by simp <;> omega))
        replace nA2 := Lib.hid (hk.cell (p := ⟨w.heap.size, 2, none⟩) nA2.out (by simp <;> omega))
        replace nA3 := Lib.hid (hk.cell (p := ⟨w.heap.size, 3, none⟩) nA3.out (by simp <;> omega))
        replace H1 := Lib.hid (H1.out.kept hk (fun hn y hy hm => by have h9 := F1.out hn y hy; simp at hm; omega))
        replace H2 := Lib.hid (H2.out.kept hk (fun hn y hy hm => by have h9 := F2.out hn y hy; simp at hm; omega))
        replace hs3 := Lib.hid (hs3.out.kept hk (fun hn y hy hm => by have h9 := G3.out hn y hy; simp at hm; omega))
        replace hs4 := Lib.hid (hs4.out.kept hk (fun hn y hy hm => by have h9 := G4.out hn y hy; simp at hm; omega))
        replace nR0 := Lib.hid e0
        replace nR1 := Lib.hid e1
        replace nR2 := Lib.hid e2
        replace nR3 := Lib.hid e3
        replace nR4 := Lib.hid e4
        replace KT := Lib.hid (KT.out.trans hk (fun x hx hlt => by simp at hx; omega))
        clear hk hfz hW e0 e1 e2 e3 e4
        have e0 := nR0.out
        have e1 := nR1.out
        have e2 := nR2.out
        have e3 := nR3.out
        have e4 := nR4.out
        refine bodyPost_ret (v := .agg #[.int .i64 r.code, .bool (isNeg r.lo), .slice a3 (mag r.lo).length c3, .bool (isNeg r.hi), .slice b3 (mag r.hi).length d3]) (by simp [results, Try.results48, go_sem, e0, e1, e2, e3, e4]) rfl ?_
        exact ⟨a3, c3, b3, d3, rfl, hs3.out, hs4.out, G3.out.mono (by omega), G4.out.mono (by omega), KT.out⟩
      · skip
        rw [show rootS P p xs true ys = noSpan 3 from by unfold rootS; rw [if_pos hP, twoS_zero hz, if_pos rfl]]
        have HZ := Lib.hid (show precS P (spanFault2 p xs true ys p xs true ys) = 0 by unfold precS; rw [if_pos hP]; unfold spanFault2; rw [if_pos hz]; exact hz)
        clear hz hP
        go_enter Try.func48, Try.ntmps48
        go_wp2_with fail
        generalize hW : ((w.alloc (.cells #[.bool p, .slice a n c, .bool true, .slice b m d] 31)).alloc (.cells #[.int .i64 0, .bool false, .slice none 0 0, .bool false, .slice none 0 0] 38)) = ww0
        have hkk : Kept [] ((w.alloc (.cells #[.bool p, .slice a n c, .bool true, .slice b m d] 31)).alloc (.cells #[.int .i64 0, .bool false, .slice none 0 0, .bool false, .slice none 0 0] 38)) ww0 := by rw [hW]; exact Kept.refl _ _
        have zzA : w.heap.size + 1 + 1 = ww0.heap.size := by rw [← hW]; simp
        have nA0 := Lib.hid (hkk.peel.top (g := w.heap.size) (by simp) (by simp) 0 (v := .bool p) rfl).1
        have nA1 := Lib.hid (hkk.peel.top (g := w.heap.size) (by simp) (by simp) 1 (v := .slice a n c) rfl).1
        have nA2 := Lib.hid (hkk.peel.top (g := w.heap.size) (by simp) (by simp) 2 (v := .bool true) rfl).1
        have nA3 := Lib.hid (hkk.peel.top (g := w.heap.size) (by simp) (by simp) 3 (v := .slice b m d) rfl).1
        have nR0 := Lib.hid (hkk.top (g := w.heap.size + 1) (by simp) (by simp) 0 (v := .int .i64 0) rfl).1
        have fR0 := Lib.hid (hkk.top (g := w.heap.size + 1) (by simp) (by simp) 0 (v := .int .i64 0) rfl).2.1
        have nR1 := Lib.hid (hkk.top (g := w.heap.size + 1) (by simp) (by simp) 1 (v := .bool false) rfl).1
        have fR1 := Lib.hid (hkk.top (g := w.heap.size + 1) (by simp) (by simp) 1 (v := .bool false) rfl).2.1
        have nR2 := Lib.hid (hkk.top (g := w.heap.size + 1) (by simp) (by simp) 2 (v := .slice none 0 0) rfl).1
        have fR2 := Lib.hid (hkk.top (g := w.heap.size + 1) (by simp) (by simp) 2 (v := .slice none 0 0) rfl).2.1
        have nR3 := Lib.hid (hkk.top (g := w.heap.size + 1) (by simp) (by simp) 3 (v := .bool false) rfl).1
        have fR3 := Lib.hid (hkk.top (g := w.heap.size + 1) (by simp) (by simp) 3 (v := .bool false) rfl).2.1
        have nR4 := Lib.hid (hkk.top (g := w.heap.size + 1) (by simp) (by simp) 4 (v := .slice none 0 0) rfl).1
        have fR4 := Lib.hid (hkk.top (g := w.heap.size + 1) (by simp) (by simp) 4 (v := .slice none 0 0) rfl).2.1
        have hk := hkk.peel.peel
        clear hkk hW
        have z0 := hk.size
        have KT := Lib.hid hk
        clear hk
        replace H1 := Lib.hid (H1.out.kept0 KT.out)
        replace H2 := Lib.hid (H2.out.kept0 KT.out)
        refine (l3Asked_any P _ _ _ _ _ _ _ _ _ _ _ _ _ _ _ _ _ _ _ _ _ H1.out H2.out H1.out H2.out).mono ?_
        rintro e ww1 ⟨rfl, hk⟩
        rw [HZ.out]
        have z1 := hk.size
        replace fR0 := Lib.hid (hk.free' (p := ⟨w.heap.size + 1, 0, none⟩) nR0.out fR0.out (by simp))
        replace fR1 := Lib.hid (hk.free' (p := ⟨w.heap.size + 1, 1, none⟩) nR1.out fR1.out (by simp))
        replace fR2 := Lib.hid (hk.free' (p := ⟨w.heap.size + 1, 2, none⟩) nR2.out fR2.out (by simp))
        replace fR3 := Lib.hid (hk.free' (p := ⟨w.heap.size + 1, 3, none⟩) nR3.out fR3.out (by simp))
        replace fR4 := Lib.hid (hk.free' (p := ⟨w.heap.size + 1, 4, none⟩) nR4.out fR4.out (by simp))
        replace nA0 := Lib.hid (hk.cell (p := ⟨w.heap.size, 0, none⟩) nA0.out (by simp))
        replace nA1 := Lib.hid (hk.cell (p := ⟨w.heap.size, 1, none⟩) nA1.out (by simp))
        replace nA2 := Lib.hid (hk.cell (p := ⟨w.heap.size, 2, none⟩) nA2.out (by simp))
        replace nA3 := Lib.hid (hk.cell (p := ⟨w.heap.size, 3, none⟩) nA3.out (by simp))
        replace nR0 := Lib.hid (hk.cell (p := ⟨w.heap.size + 1, 0, none⟩) nR0.out (by simp))
        replace nR1 := Lib.hid (hk.cell (p := ⟨w.heap.size + 1, 1, none⟩) nR1.out (by simp))
        replace nR2 := Lib.hid (hk.cell (p := ⟨w.heap.size + 1, 2, none⟩) nR2.out (by simp))
        replace nR3 := Lib.hid (hk.cell (p := ⟨w.heap.size + 1, 3, none⟩) nR3.out (by simp))
        replace nR4 := Lib.hid (hk.cell (p := ⟨w.heap.size + 1, 4, none⟩) nR4.out (by simp))
        replace H1 := Lib.hid (H1.out.kept0 hk)
        replace H2 := Lib.hid (H2.out.kept0 hk)
        replace KT := Lib.hid (KT.out.trans0 hk)
        clear hk
        have tA0 := nA0.out
        have tA1 := nA1.out
        have tA2 := nA2.out
        have tA3 := nA3.out
        have tR0 := nR0.out
        have tR1 := nR1.out
        have tR2 := nR2.out
        have tR3 := nR3.out
        have tR4 := nR4.out
        have uR0 := fR0.out
        have uR1 := fR1.out
        have uR2 := fR2.out
        have uR3 := fR3.out
        have uR4 := fR4.out
        go_wp2_with fail
        clear tA0 tA1 tA2 tA3 tR0 tR1 tR2 tR3 tR4 uR0 uR1 uR2 uR3 uR4
        generalize hW : (((((ww1.setCell ⟨w.heap.size + 1, 0, none⟩ (.int .i64 3)).setCell ⟨w.heap.size + 1, 1, none⟩ (.bool false)).setCell ⟨w.heap.size + 1, 2, none⟩ (.slice none 0 0)).setCell ⟨w.heap.size + 1, 3, none⟩ (.bool false)).setCell ⟨w.heap.size + 1, 4, none⟩ (.slice none 0 0)) = ww2
        have hk : Kept [w.heap.size + 1] ww1 ww2 := by rw [← hW]; exact (((((Kept.refl _ _).setCell _ _ (by simp)).setCell _ _ (by simp)).setCell _ _ (by simp)).setCell _ _ (by simp)).setCell _ _ (by simp)
        have hfz : ∀ x, ww2.frozen? x = ww1.frozen? x := by rw [← hW]; intro x; simp only [World.frozen?_setCell]
        have e0 : ww2.cell? ⟨w.heap.size + 1, 0, none⟩ = some (.int .i64 3) := by rw [← hW]; rw [World.cell?_setCell_other _ _ _ _ (by simp), World.cell?_setCell_other _ _ _ _ (by simp), World.cell?_setCell_other _ _ _ _ (by simp), World.cell?_setCell_other _ _ _ _ (by simp)]; exact World.cell?_setCell_same _ _ _ (by exact nR0.out)
        have e1 : ww2.cell? ⟨w.heap.size + 1, 1, none⟩ = some (.bool false) := by rw [← hW]; rw [World.cell?_setCell_other _ _ _ _ (by simp), World.cell?_setCell_other _ _ _ _ (by simp), World.cell?_setCell_other _ _ _ _ (by simp)]; exact World.cell?_setCell_same _ _ _ (by rw [World.cell?_setCell_other _ _ _ _ (by simp)]; exact nR1.out)
        have e2 : ww2.cell? ⟨w.heap.size + 1, 2, none⟩ = some (.slice none 0 0) := by rw [← hW]; rw [World.cell?_setCell_other _ _ _ _ (by simp), World.cell?_setCell_other _ _ _ _ (by simp)]; exact World.cell?_setCell_same _ _ _ (by rw [World.cell?_setCell_other _ _ _ _ (by simp), World.cell?_setCell_other _ _ _ _ (by simp)]; exact nR2.out)
        have e3 : ww2.cell? ⟨w.heap.size + 1, 3, none⟩ = some (.bool false) := by rw [← hW]; rw [World.cell?_setCell_other _ _ _ _ (by simp)]; exact World.cell?_setCell_same _ _ _ (by rw [World.cell?_setCell_other _ _ _ _ (by simp), World.cell?_setCell_other _ _ _ _ (by simp), World.cell?_setCell_other _ _ _ _ (by simp)]; exact nR3.out)
        have e4 : ww2.cell? ⟨w.heap.size + 1, 4, none⟩ = some (.slice none 0 0) := by rw [← hW]; exact World.cell?_setCell_same _ _ _ (by rw [World.cell?_setCell_other _ _ _ _ (by simp), World.cell?_setCell_other _ _ _ _ (by simp), World.cell?_setCell_other _ _ _ _ (by simp), World.cell?_setCell_other _ _ _ _ (by simp)]; exact nR4.out)
        have z2 := hk.size
        replace fR0 := Lib.hid (show ww2.frozen? ⟨w.heap.size + 1, 0, none⟩ = false by rw [hfz]; exact fR0.out)
        replace fR1 := Lib.hid (show ww2.frozen? ⟨w.heap.size + 1, 1, none⟩ = false by rw [hfz]; exact fR1.out)
        replace fR2 := Lib.hid (show ww2.frozen? ⟨w.heap.size + 1, 2, none⟩ = false by rw [hfz]; exact fR2.out)
        replace fR3 := Lib.hid (show ww2.frozen? ⟨w.heap.size + 1, 3, none⟩ = false by rw [hfz]; exact fR3.out)
        replace fR4 := Lib.hid (show ww2.frozen? ⟨w.heap.size + 1, 4, none⟩ = false by rw [hfz]; exact fR4.out)
        replace nA0 := Lib.hid (hk.cell (p := ⟨w.heap.size, 0, none⟩) nA0.out (by simp <;> omega))
        replace nA1 := Lib.hid (hk.cell (p := ⟨w.heap.size, 1, none⟩) nA1.out (by simp <;> omega))
        replace nA2 := Lib.hid (hk.cell (p := ⟨w.heap.size, 2, none⟩) nA2.out (by simp <;> omega))
        replace nA3 := Lib.hid (hk.cell (p := ⟨w.heap.size, 3, none⟩) nA3.out (by simp <;> omega))
        replace H1 := Lib.hid (H1.out.kept hk (fun hn y hy hm => by have h9 := F1.out hn y hy; simp at hm; omega))
        replace H2 := Lib.hid (H2.out.kept hk (fun hn y hy hm => by have h9 := F2.out hn y hy; simp at hm; omega))
        replace nR0 := Lib.hid e0
        replace nR1 := Lib.hid e1
        replace nR2 := Lib.hid e2
        replace nR3 := Lib.hid e3
        replace nR4 := Lib.hid e4
        replace KT := Lib.hid (KT.out.trans hk (fun x hx hlt => by simp at hx; omega))
        clear hk hfz hW e0 e1 e2 e3 e4
        have e0 := nR0.out
        have e1 := nR1.out
        have e2 := nR2.out
        have e3 := nR3.out
        have e4 := nR4.out
        refine bodyPost_ret (v := .agg #[.int .i64 3, .bool false, .slice none 0 0, .bool false, .slice none 0 0]) (by simp [results, Try.results48, go_sem, e0, e1, e2, e3, e4]) rfl ?_
        exact spanM_no KT.out
    · skip
      rw [show rootS P p xs q ys = noSpan (spanFault p xs q ys) from by unfold rootS; rw [if_pos hP, twoS_not hz]]
      obtain ⟨f, hf⟩ : ∃ f, f = spanFault p xs q ys := ⟨_, rfl⟩
      have HZ := Lib.hid (show precS P (spanFault2 p xs q ys p xs q ys) = f by unfold precS; rw [if_pos hP]; unfold spanFault2; rw [if_neg hz, hf])
      rw [← hf]
      have hne : (f == 0) = false := by rw [beq_eq_false_iff_ne, hf]; exact hz
      clear hf hz hP
      go_enter Try.func48, Try.ntmps48
      go_wp2_with fail
      generalize hW : ((w.alloc (.cells #[.bool p, .slice a n c, .bool q, .slice b m d] 31)).alloc (.cells #[.int .i64 0, .bool false, .slice none 0 0, .bool false, .slice none 0 0] 38)) = ww0
      have hkk : Kept [] ((w.alloc (.cells #[.bool p, .slice a n c, .bool q, .slice b m d] 31)).alloc (.cells #[.int .i64 0, .bool false, .slice none 0 0, .bool false, .slice none 0 0] 38)) ww0 := by rw [hW]; exact Kept.refl _ _
      have zzA : w.heap.size + 1 + 1 = ww0.heap.size := by rw [← hW]; simp
      have nA0 := Lib.hid (hkk.peel.top (g := w.heap.size) (by simp) (by simp) 0 (v := .bool p) rfl).1
      have nA1 := Lib.hid (hkk.peel.top (g := w.heap.size) (by simp) (by simp) 1 (v := .slice a n c) rfl).1
      have nA2 := Lib.hid (hkk.peel.top (g := w.heap.size) (by simp) (by simp) 2 (v := .bool q) rfl).1
      have nA3 := Lib.hid (hkk.peel.top (g := w.heap.size) (by simp) (by simp) 3 (v := .slice b m d) rfl).1
      have nR0 := Lib.hid (hkk.top (g := w.heap.size + 1) (by simp) (by simp) 0 (v := .int .i64 0) rfl).1
      have fR0 := Lib.hid (hkk.top (g := w.heap.size + 1) (by simp) (by simp) 0 (v := .int .i64 0) rfl).2.1
      have nR1 := Lib.hid (hkk.top (g := w.heap.size + 1) (by simp) (by simp) 1 (v := .bool false) rfl).1
      have fR1 := Lib.hid (hkk.top (g := w.heap.size + 1) (by simp) (by simp) 1 (v := .bool false) rfl).2.1
      have nR2 := Lib.hid (hkk.top (g := w.heap.size + 1) (by simp) (by simp) 2 (v := .slice none 0 0) rfl).1
      have fR2 := Lib.hid (hkk.top (g := w.heap.size + 1) (by simp) (by simp) 2 (v := .slice none 0 0) rfl).2.1
      have nR3 := Lib.hid (hkk.top (g := w.heap.size + 1) (by simp) (by simp) 3 (v := .bool false) rfl).1
      have fR3 := Lib.hid (hkk.top (g := w.heap.size + 1) (by simp) (by simp) 3 (v := .bool false) rfl).2.1
      have nR4 := Lib.hid (hkk.top (g := w.heap.size + 1) (by simp) (by simp) 4 (v := .slice none 0 0) rfl).1
      have fR4 := Lib.hid (hkk.top (g := w.heap.size + 1) (by simp) (by simp) 4 (v := .slice none 0 0) rfl).2.1
      have hk := hkk.peel.peel
      clear hkk hW
      have z0 := hk.size
      have KT := Lib.hid hk
      clear hk
      replace H1 := Lib.hid (H1.out.kept0 KT.out)
      replace H2 := Lib.hid (H2.out.kept0 KT.out)
      refine (l3Asked_any P _ _ _ _ _ _ _ _ _ _ _ _ _ _ _ _ _ _ _ _ _ H1.out H2.out H1.out H2.out).mono ?_
      rintro e ww1 ⟨rfl, hk⟩
      rw [HZ.out]
      have z1 := hk.size
      replace fR0 := Lib.hid (hk.free' (p := ⟨w.heap.size + 1, 0, none⟩) nR0.out fR0.out (by simp))
      replace fR1 := Lib.hid (hk.free' (p := ⟨w.heap.size + 1, 1, none⟩) nR1.out fR1.out (by simp))
      replace fR2 := Lib.hid (hk.free' (p := ⟨w.heap.size + 1, 2, none⟩) nR2.out fR2.out (by simp))
      replace fR3 := Lib.hid (hk.free' (p := ⟨w.heap.size + 1, 3, none⟩) nR3.out fR3.out (by simp))
      replace fR4 := Lib.hid (hk.free' (p := ⟨w.heap.size + 1, 4, none⟩) nR4.out fR4.out (by simp))
      replace nA0 := Lib.hid (hk.cell (p := ⟨w.heap.size, 0, none⟩) nA0.out (by simp))
      replace nA1 := Lib.hid (hk.cell (p := ⟨w.heap.size, 1, none⟩) nA1.out (by simp))
      replace nA2 := Lib.hid (hk.cell (p := ⟨w.heap.size, 2, none⟩) nA2.out (by simp))
      replace nA3 := Lib.hid (hk.cell (p := ⟨w.heap.size, 3, none⟩) nA3.out (by simp))
      replace nR0 := Lib.hid (hk.cell (p := ⟨w.heap.size + 1, 0, none⟩) nR0.out (by simp))
      replace nR1 := Lib.hid (hk.cell (p := ⟨w.heap.size + 1, 1, none⟩) nR1.out (by simp))
      replace nR2 := Lib.hid (hk.cell (p := ⟨w.heap.size + 1, 2, none⟩) nR2.out (by simp))
      replace nR3 := Lib.hid (hk.cell (p := ⟨w.heap.size + 1, 3, none⟩) nR3.out (by simp))
      replace nR4 := Lib.hid (hk.cell (p := ⟨w.heap.size + 1, 4, none⟩) nR4.out (by simp))
      replace H1 := Lib.hid (H1.out.kept0 hk)
      replace H2 := Lib.hid (H2.out.kept0 hk)
      replace KT := Lib.hid (KT.out.trans0 hk)
      clear hk
      have tA0 := nA0.out
      have tA1 := nA1.out
      have tA2 := nA2.out
      have tA3 := nA3.out
      have tR0 := nR0.out
      have tR1 := nR1.out
      have tR2 := nR2.out
      have tR3 := nR3.out
      have tR4 := nR4.out
      have uR0 := fR0.out
      have uR1 := fR1.out
      have uR2 := fR2.out
      have uR3 := fR3.out
      have uR4 := fR4.out
      go_wp2_with fail
      clear tA0 tA1 tA2 tA3 tR0 tR1 tR2 tR3 tR4 uR0 uR1 uR2 uR3 uR4
      generalize hW : (((((ww1.setCell ⟨w.heap.size + 1, 0, none⟩ (.int .i64 f)).setCell ⟨w.heap.size + 1, 1, none⟩ (.bool false)).setCell ⟨w.heap.size + 1, 2, none⟩ (.slice none 0 0)).setCell ⟨w.heap.size + 1, 3, none⟩ (.bool false)).setCell ⟨w.heap.size + 1, 4, none⟩ (.slice none 0 0)) = ww2
      have hk : Kept [w.heap.size + 1] ww1 ww2 := by rw [← hW]; exact (((((Kept.refl _ _).setCell _ _ (by simp)).setCell _ _ (by simp)).setCell _ _ (by simp)).setCell _ _ (by simp)).setCell _ _ (by simp)
      have hfz : ∀ x, ww2.frozen? x = ww1.frozen? x := by rw [← hW]; intro x; simp only [World.frozen?_setCell]
      have e0 : ww2.cell? ⟨w.heap.size + 1, 0, none⟩ = some (.int .i64 f) := by rw [← hW]; rw [World.cell?_setCell_other _ _ _ _ (by simp), World.cell?_setCell_other _ _ _ _ (by simp), World.cell?_setCell_other _ _ _ _ (by simp), World.cell?_setCell_other _ _ _ _ (by simp)]; exact World.cell?_setCell_same _ _ _ (by exact nR0.out)
      have e1 : ww2.cell? ⟨w.heap.size + 1, 1, none⟩ = some (.bool false) := by rw [← hW]; rw [World.cell?_setCell_other _ _ _ _ (by simp), World.cell?_setCell_other _ _ _ _ (by simp), World.cell?_setCell_other _ _ _ _ (by simp)]; exact World.cell?_setCell_same _ _ _ (by rw [World.cell?_setCell_other _ _ _ _ (by simp)]; exact nR1.out)
      have e2 : ww2.cell? ⟨w.heap.size + 1, 2, none⟩ = some (.slice none 0 0) := by rw [← hW]; rw [World.cell?_setCell_other _ _ _ _ (by simp), World.cell?_setCell_other _ _ _ _ (by simp)]; exact World.cell?_setCell_same _ _ _ (by rw [World.cell?_setCell_other _ _ _ _ (by simp), World.cell?_setCell_other _ _ _ _ (by simp)]; exact nR2.out)
      have e3 : ww2.cell? ⟨w.heap.size + 1, 3, none⟩ = some (.bool false) := by rw [← hW]; rw [World.cell?_setCell_other _ _ _ _ (by simp)]; exact World.cell?_setCell_same _ _ _ (by rw [World.cell?_setCell_other _ _ _ _ (by simp), World.cell?_setCell_other _ _ _ _ (by simp), World.cell?_setCell_other _ _ _ _ (by simp)]; exact nR3.out)
      have e4 : ww2.cell? ⟨w.heap.size + 1, 4, none⟩ = some (.slice none 0 0) := by rw [← hW]; exact World.cell?_setCell_same _ _ _ (by rw [World.cell?_setCell_other _ _ _ _ (by simp), World.cell?_setCell_other _ _ _ _ (by simp), World.cell?_setCell_other _ _ _ _ (by simp), World.cell?_setCell_other _ _ _ _ (by simp)]; exact nR4.out)
      have z2 := hk.size
      replace fR0 := Lib.hid (show ww2.frozen? ⟨w.heap.size + 1, 0, none⟩ = false by rw [hfz]; exact fR0.out)
      replace fR1 := Lib.hid (show ww2.frozen? ⟨w.heap.size + 1, 1, none⟩ = false by rw [hfz]; exact fR1.out)
      replace fR2 := Lib.hid (show ww2.frozen? ⟨w.heap.size + 1, 2, none⟩ = false by rw [hfz]; exact fR2.out)
      replace fR3 := Lib.hid (show ww2.frozen? ⟨w.heap.size + 1, 3, none⟩ = false by rw [hfz]; exact fR3.out)
      replace fR4 := Lib.hid (show ww2.frozen? ⟨w.heap.size + 1, 4, none⟩ = false by rw [hfz]; exact fR4.out)
      replace nA0 := Lib.hid (hk.cell (p := ⟨w.heap.size, 0, none⟩) nA0.out (by simp <;> omega))
      replace nA1 := Lib.hid (hk.cell (p := ⟨w.heap.size, 1, none⟩) nA1.out (by simp <;> omega))
      replace nA2 := Lib.hid (hk.cell (p := ⟨w.heap.size, 2, none⟩) nA2.out (by simp <;> omega))
      replace nA3 := Lib.hid (hk.cell (p := ⟨w.heap.size, 3, none⟩) nA3.out (by simp <;> omega))
      replace H1 := Lib.hid (H1.out.kept hk (fun hn y hy hm => by have h9 := F1.out hn y hy; simp at hm; omega))
      replace H2 := Lib.hid (H2.out.kept hk (fun hn y hy hm => by have h9 := F2.out hn y hy; simp at hm; omega))
      replace nR0 := Lib.hid e0
      replace nR1 := Lib.hid e1
      replace nR2 := Lib.hid e2
      replace nR3 := Lib.hid e3
      replace nR4 := Lib.hid e4
      replace KT := Lib.hid (KT.out.trans hk (fun x hx hlt => by simp at hx; omega))
      clear hk hfz hW e0 e1 e2 e3 e4
      have e0 := nR0.out
      have e1 := nR1.out
      have e2 := nR2.out
      have e3 := nR3.out
      have e4 := nR4.out
      refine bodyPost_ret (v := .agg #[.int .i64 f, .bool false, .slice none 0 0, .bool false, .slice none 0 0]) (by simp [results, Try.results48, go_sem, e0, e1, e2, e3, e4]) rfl ?_
      exact spanM_no KT.out
  · skip
    rw [show rootS P p xs q ys = noSpan 3 from by unfold rootS; rw [if_neg hP]]
    have HZ := Lib.hid (show precS P (spanFault2 p xs q ys p xs q ys) = 3 from if_neg hP)
    clear hP
    go_enter Try.func48, Try.ntmps48
    go_wp2_with fail
    generalize hW : ((w.alloc (.cells #[.bool p, .slice a n c, .bool q, .slice b m d] 31)).alloc (.cells #[.int .i64 0, .bool false, .slice none 0 0, .bool false, .slice none 0 0] 38)) = ww0
    have hkk : Kept [] ((w.alloc (.cells #[.bool p, .slice a n c, .bool q, .slice b m d] 31)).alloc (.cells #[.int .i64 0, .bool false, .slice none 0 0, .bool false, .slice none 0 0] 38)) ww0 := by rw [hW]; exact Kept.refl _ _
    have zzA : w.heap.size + 1 + 1 = ww0.heap.size := by rw [← hW]; simp
    have nA0 := Lib.hid (hkk.peel.top (g := w.heap.size) (by simp) (by simp) 0 (v := .bool p) rfl).1
    have nA1 := Lib.hid (hkk.peel.top (g := w.heap.size) (by simp) (by simp) 1 (v := .slice a n c) rfl).1
    have nA2 := Lib.hid (hkk.peel.top (g := w.heap.size) (by simp) (by simp) 2 (v := .bool q) rfl).1
    have nA3 := Lib.hid (hkk.peel.top (g := w.heap.size) (by simp) (by simp) 3 (v := .slice b m d) rfl).1
    have nR0 := Lib.hid (hkk.top (g := w.heap.size + 1) (by simp) (by simp) 0 (v := .int .i64 0) rfl).1
    have fR0 := Lib.hid (hkk.top (g := w.heap.size + 1) (by simp) (by simp) 0 (v := .int .i64 0) rfl).2.1
    have nR1 := Lib.hid (hkk.top (g := w.heap.size + 1) (by simp) (by simp) 1 (v := .bool false) rfl).1
    have fR1 := Lib.hid (hkk.top (g := w.heap.size + 1) (by simp) (by simp) 1 (v := .bool false) rfl).2.1
    have nR2 := Lib.hid (hkk.top (g := w.heap.size + 1) (by simp) (by simp) 2 (v := .slice none 0 0) rfl).1
    have fR2 := Lib.hid (hkk.top (g := w.heap.size + 1) (by simp) (by simp) 2 (v := .slice none 0 0) rfl).2.1
    have nR3 := Lib.hid (hkk.top (g := w.heap.size + 1) (by simp) (by simp) 3 (v := .bool false) rfl).1
    have fR3 := Lib.hid (hkk.top (g := w.heap.size + 1) (by simp) (by simp) 3 (v := .bool false) rfl).2.1
    have nR4 := Lib.hid (hkk.top (g := w.heap.size + 1) (by simp) (by simp) 4 (v := .slice none 0 0) rfl).1
    have fR4 := Lib.hid (hkk.top (g := w.heap.size + 1) (by simp) (by simp) 4 (v := .slice none 0 0) rfl).2.1
    have hk := hkk.peel.peel
    clear hkk hW
    have z0 := hk.size
    have KT := Lib.hid hk
    clear hk
    replace H1 := Lib.hid (H1.out.kept0 KT.out)
    replace H2 := Lib.hid (H2.out.kept0 KT.out)
    refine (l3Asked_any P _ _ _ _ _ _ _ _ _ _ _ _ _ _ _ _ _ _ _ _ _ H1.out H2.out H1.out H2.out).mono ?_
    rintro e ww1 ⟨rfl, hk⟩
    rw [HZ.out]
    have z1 := hk.size
    replace fR0 := Lib.hid (hk.free' (p := ⟨w.heap.size + 1, 0, none⟩) nR0.out fR0.out (by simp))
    replace fR1 := Lib.hid (hk.free' (p := ⟨w.heap.size + 1, 1, none⟩) nR1.out fR1.out (by simp))
    replace fR2 := Lib.hid (hk.free' (p := ⟨w.heap.size + 1, 2, none⟩) nR2.out fR2.out (by simp))
    replace fR3 := Lib.hid (hk.free' (p := ⟨w.heap.size + 1, 3, none⟩) nR3.out fR3.out (by simp))
    replace fR4 := Lib.hid (hk.free' (p := ⟨w.heap.size + 1, 4, none⟩) nR4.out fR4.out (by simp))
    replace nA0 := Lib.hid (hk.cell (p := ⟨w.heap.size, 0, none⟩) nA0.out (by simp))
    replace nA1 := Lib.hid (hk.cell (p := ⟨w.heap.size, 1, none⟩) nA1.out (by simp))
    replace nA2 := Lib.hid (hk.cell (p := ⟨w.heap.size, 2, none⟩) nA2.out (by simp))
    replace nA3 := Lib.hid (hk.cell (p := ⟨w.heap.size, 3, none⟩) nA3.out (by simp))
    replace nR0 := Lib.hid (hk.cell (p := ⟨w.heap.size + 1, 0, none⟩) nR0.out (by simp))
    replace nR1 := Lib.hid (hk.cell (p := ⟨w.heap.size + 1, 1, none⟩) nR1.out (by simp))
    replace nR2 := Lib.hid (hk.cell (p := ⟨w.heap.size + 1, 2, none⟩) nR2.out (by simp))
    replace nR3 := Lib.hid (hk.cell (p := ⟨w.heap.size + 1, 3, none⟩) nR3.out (by simp))
    replace nR4 := Lib.hid (hk.cell (p := ⟨w.heap.size + 1, 4, none⟩) nR4.out (by simp))
    replace H1 := Lib.hid (H1.out.kept0 hk)
    replace H2 := Lib.hid (H2.out.kept0 hk)
    replace KT := Lib.hid (KT.out.trans0 hk)
    clear hk
    have tA0 := nA0.out
    have tA1 := nA1.out
    have tA2 := nA2.out
    have tA3 := nA3.out
    have tR0 := nR0.out
    have tR1 := nR1.out
    have tR2 := nR2.out
    have tR3 := nR3.out
    have tR4 := nR4.out
    have uR0 := fR0.out
    have uR1 := fR1.out
    have uR2 := fR2.out
    have uR3 := fR3.out
    have uR4 := fR4.out
    go_wp2_with fail
    clear tA0 tA1 tA2 tA3 tR0 tR1 tR2 tR3 tR4 uR0 uR1 uR2 uR3 uR4
    generalize hW : (((((ww1.setCell ⟨w.heap.size + 1, 0, none⟩ (.int .i64 3)).setCell ⟨w.heap.size + 1, 1, none⟩ (.bool false)).setCell ⟨w.heap.size + 1, 2, none⟩ (.slice none 0 0)).setCell ⟨w.heap.size + 1, 3, none⟩ (.bool false)).setCell ⟨w.heap.size + 1, 4, none⟩ (.slice none 0 0)) = ww2
    have hk : Kept [w.heap.size + 1] ww1 ww2 := by rw [← hW]; exact (((((Kept.refl _ _).setCell _ _ (by simp)).setCell _ _ (by simp)).setCell _ _ (by simp)).setCell _ _ (by simp)).setCell _ _ (by simp)
    have hfz : ∀ x, ww2.frozen? x = ww1.frozen? x := by rw [← hW]; intro x; simp only [World.frozen?_setCell]
    have e0 : ww2.cell? ⟨w.heap.size + 1, 0, none⟩ = some (.int .i64 3) := by rw [← hW]; rw [World.cell?_setCell_other _ _ _ _ (by simp), World.cell?_setCell_other _ _ _ _ (by simp), World.cell?_setCell_other _ _ _ _ (by simp), World.cell?_setCell_other _ _ _ _ (by simp)]; exact World.cell?_setCell_same _ _ _ (by exact nR0.out)
    have e1 : ww2.cell? ⟨w.heap.size + 1, 1, none⟩ = some (.bool false) := by rw [← hW]; rw [World.cell?_setCell_other _ _ _ _ (by simp), World.cell?_setCell_other _ _ _ _ (by simp), World.cell?_setCell_other _ _ _ _ (by simp)]; exact World.cell?_setCell_same _ _ _ (by rw [World.cell?_setCell_other _ _ _ _ (by simp)]; exact nR1.out)
    have e2 : ww2.cell? ⟨w.heap.size + 1, 2, none⟩ = some (.slice none 0 0) := by rw [← hW]; rw [World.cell?_setCell_other _ _ _ _ (by simp), World.cell?_setCell_other _ _ _ _ (by simp)]; exact World.cell?_setCell_same _ _ _ (by rw [World.cell?_setCell_other _ _ _ _ (by simp), World.cell?_setCell_other _ _ _ _ (by simp)]; exact nR2.out)
    have e3 : ww2.cell? ⟨w.heap.size + 1, 3, none⟩ = some (.bool false) := by rw [← hW]; rw [World.cell?_setCell_other _ _ _ _ (by simp)]; exact World.cell?_setCell_same _ _ _ (by rw [World.cell?_setCell_other _ _ _ _ (by simp), World.cell?_setCell_other _ _ _ _ (by simp), World.cell?_setCell_other _ _ _ _ (by simp)]; exact nR3.out)
    have e4 : ww2.cell? ⟨w.heap.size + 1, 4, none⟩ = some (.slice none 0 0) := by rw [← hW]; exact World.cell?_setCell_same _ _ _ (by rw [World.cell?_setCell_other _ _ _ _ (by simp), World.cell?_setCell_other _ _ _ _ (by simp), World.cell?_setCell_other _ _ _ _ (by simp), World.cell?_setCell_other _ _ _ _ (by simp)]; exact nR4.out)
    have z2 := hk.size
    replace fR0 := Lib.hid (show ww2.frozen? ⟨w.heap.size + 1, 0, none⟩ = false by rw [hfz]; exact fR0.out)
    replace fR1 := Lib.hid (show ww2.frozen? ⟨w.heap.size + 1, 1, none⟩ = false by rw [hfz]; exact fR1.out)
    replace fR2 := Lib.hid (show ww2.frozen? ⟨w.heap.size + 1, 2, none⟩ = false by rw [hfz]; exact fR2.out)
    replace fR3 := Lib.hid (show ww2.frozen? ⟨w.heap.size + 1, 3, none⟩ = false by rw [hfz]; exact fR3.out)
    replace fR4 := Lib.hid (show ww2.frozen? ⟨w.heap.size + 1, 4, none⟩ = false by rw [hfz]; exact fR4.out)
    replace nA0 := Lib.hid (hk.cell (p := ⟨w.heap.size, 0, none⟩) nA0.out (by simp <;> omega))
    replace nA1 := Lib.hid (hk.cell (p := ⟨w.heap.size, 1, none⟩) nA1.out (by simp <;> omega))
    replace nA2 := Lib.hid (hk.cell (p := ⟨w.heap.size, 2, none⟩) nA2.out (by simp <;> omega))
    replace nA3 := Lib.hid (hk.cell (p := ⟨w.heap.size, 3, none⟩) nA3.out (by simp <;> omega))
    replace H1 := Lib.hid (H1.out.kept hk (fun hn y hy hm => by have h9 := F1.out hn y hy; simp at hm; omega))
    replace H2 := Lib.hid (H2.out.kept hk (fun hn y hy hm => by have h9 := F2.out hn y hy; simp at hm; omega))
    replace nR0 := Lib.hid e0
    replace nR1 := Lib.hid e1
    replace nR2 := Lib.hid e2
    replace nR3 := Lib.hid e3
    replace nR4 := Lib.hid e4
    replace KT := Lib.hid (KT.out.trans hk (fun x hx hlt => by simp at hx; omega))
    clear hk hfz hW e0 e1 e2 e3 e4
    have e0 := nR0.out
    have e1 := nR1.out
    have e2 := nR2.out
    have e3 := nR3.out
    have e4 := nR4.out
    refine bodyPost_ret (v := .agg #[.int .i64 3, .bool false, .slice none 0 0, .bool false, .slice none 0 0]) (by simp [results, Try.results48, go_sem, e0, e1, e2, e3, e4]) rfl ?_
    exact spanM_no KT.out

end Go.Proofs.Ytjndjjdffifgcaa
