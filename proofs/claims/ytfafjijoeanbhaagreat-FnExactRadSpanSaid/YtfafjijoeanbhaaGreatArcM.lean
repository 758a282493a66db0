/-
  Joined texts.
-/
import Derived.Deep.RegionHeld3
import Derived.Deep.DrawnRows
import Derived.Deep.DeepCutAuto
import Derived.Test.YtfafjijoeanbhaaGreatSpanG
import Derived.Test.YtfafjijoeanbhaaGreatSpanJ
import Derived.Laws.AppendOwn
import Derived.Test.YtfafjijoeanbhaaGreatPlainC
import Derived.Test.YtfafjijoeanbhaaGreatSpanZ
import Derived.Test.YtfafjijoeanbhaaGreatSqA
import Derived.Test.YtfafjijoeanbhaaGreatSpanM
import Derived.Test.YtfafjijoeanbhaaGreatJ5
import Derived.Test.YtfafjijoeanbhaaGreatJ4
import Derived.Test.YtfafjijoeanbhaaGreatJ1
import Derived.Test.YtfafjijoeanbhaaGreatSpanY
import Derived.Test.YtfafjijoeanbhaaGreatMulA
import Derived.Test.YtfafjijoeanbhaaGreatArcA
import Derived.Test.YtfafjijoeanbhaaGreatJ2
import Derived.Handy
namespace Go.Proofs.YtfafjijoeanbhaaGreat
open Go.RowKit

set_option maxHeartbeats 8000000 in
set_option maxRecDepth 20000 in
theorem l3Sub_any (p q : Bool) (a b : Option Addr) (n c m d : Nat) (xs ys : List Int) (p' q' : Bool) (a' b' : Option Addr) (n' c' m' d' : Nat) (xs' ys' : List Int) (t1 t2 : Int) (w : World) (h1 : Sl w a n c xs) (h2 : Sl w b m d ys) (h3 : Sl w a' n' c' xs') (h4 : Sl w b' m' d' ys') (n1 : Nat40 xs) (n2 : Nat40 ys) (n3 : Nat40 xs') (n4 : Nat40 ys') (hz1 : t1 = sv p xs - sv q' ys') (hz2 : t2 = sv q ys - sv p' xs') :
  Calls Tryz.prog 92 #[.agg #[.bool p, .slice a n c, .bool q, .slice b m d], .agg #[.bool p', .slice a' n' c', .bool q', .slice b' m' d']] w (SpanV w t1 t2) := by
 have H1 := Lib.hid h1
 have H2 := Lib.hid h2
 have H3 := Lib.hid h3
 have H4 := Lib.hid h4
 clear h1 h2 h3 h4
 have N1 := Lib.hid n1
 have N2 := Lib.hid n2
 have N3 := Lib.hid n3
 have N4 := Lib.hid n4
 have HZ1 := Lib.hid (show t1 = sv p xs + sv (isNeg (- sv q' ys')) ys' by rw [sv_isNeg n4.canon, hz1]; omega)
 have HZ2 := Lib.hid (show t2 = sv q ys + sv (isNeg (- sv p' xs')) xs' by rw [sv_isNeg n3.canon, hz2]; omega)
 clear hz1 hz2 n1 n2 n3 n4
 have F1 := Lib.hid H1.out.lt
 have F2 := Lib.hid H2.out.lt
 have F3 := Lib.hid H3.out.lt
 have F4 := Lib.hid H4.out.lt
 go_enter Tryz.func92, Tryz.ntmps92
 go_upto_region 1 with fail
 generalize hW : (((w.alloc (.cells #[.bool p, .slice a n c, .bool q, .slice b m d] 26)).alloc (.cells #[.bool p', .slice a' n' c', .bool q', .slice b' m' d'] 26)).alloc (.cells #[.bool false, .slice none 0 0, .bool false, .slice none 0 0] 26)) = ww0
 have hkk : Kept [] (((w.alloc (.cells #[.bool p, .slice a n c, .bool q, .slice b m d] 26)).alloc (.cells #[.bool p', .slice a' n' c', .bool q', .slice b' m' d'] 26)).alloc (.cells #[.bool false, .slice none 0 0, .bool false, .slice none 0 0] 26)) ww0 := by rw [hW]; exact Kept.refl _ _
 have zzA : w.heap.size + 1 + 1 + 1 = ww0.heap.size := by rw [← hW]; simp
 obtain ⟨⟨nA0, nA1, nA2, nA3⟩, _⟩ := tp4 hkk.peel.peel (g := w.heap.size) (by simp) (by simp)
 obtain ⟨⟨nB0, nB1, nB2, nB3⟩, _⟩ := tp4 hkk.peel (g := w.heap.size + 1) (by simp) (by simp)
 obtain ⟨⟨nR0, nR1, nR2, nR3⟩, fR0, fR1, fR2, fR3⟩ := tp4 hkk (g := w.heap.size + 1 + 1) (by simp) (by simp)
 have hk := hkk.peel.peel.peel
 clear hkk hW
 have z0 := hk.size
 have KT := Lib.hid hk
 clear hk
 replace H1 := Lib.hid (H1.out.kept0 KT.out)
 replace H2 := Lib.hid (H2.out.kept0 KT.out)
 replace H3 := Lib.hid (H3.out.kept0 KT.out)
 replace H4 := Lib.hid (H4.out.kept0 KT.out)
 have tA0 := nA0.out
 have tA1 := nA1.out
 have tA2 := nA2.out
 have tA3 := nA3.out
 have tB0 := nB0.out
 have tB1 := nB1.out
 have tB2 := nB2.out
 have tB3 := nB3.out
 go_region_held3 (fun w' => w'.cell? ⟨w.heap.size, 0, none⟩ = some (.bool p) ∧ w'.cell? ⟨w.heap.size, 1, none⟩ = some (.slice a n c) ∧ w'.cell? ⟨w.heap.size, 2, none⟩ = some (.bool q) ∧ w'.cell? ⟨w.heap.size, 3, none⟩ = some (.slice b m d) ∧ w'.cell? ⟨w.heap.size + 1, 0, none⟩ = some (.bool p') ∧ w'.cell? ⟨w.heap.size + 1, 1, none⟩ = some (.slice a' n' c') ∧ w'.cell? ⟨w.heap.size + 1, 2, none⟩ = some (.bool q') ∧ w'.cell? ⟨w.heap.size + 1, 3, none⟩ = some (.slice b' m' d') ∧ Hid (Kept [w.heap.size + 1 + 1] ww0 w'))
  ((go_split_ands; (try refine ⟨?_, ?_, ?_, ?_, ?_, ?_, ?_, ?_, ?_⟩) <;> with_reducible first | exact Kept.set4 (by assumption) | exact cell_set4 (by assumption) (by simp <;> omega) | exact Lib.hid ((Kept.refl _ _).drew) | exact drew_cell (by assumption) | exact Kept.allocH (by assumption) | exact alloc_cell (by assumption) | exact Lib.hid (Kept.trans0 (Hid.out (by assumption)) (by assumption)) | exact Kept.cell (by assumption) (by assumption) (by simp)))
  (first
   | (go_at_call_of 161 (Value.agg #[Value.bool p', Value.slice a' n' c', Value.bool q', Value.slice b' m' d']); go_split_ands; refine (l3Neg_any _ _ _ _ _ _ _ _ _ _ _ N3.out.canon N4.out.canon (H3.out.kept0 ((Kept.refl [] _).drew)) (H4.out.kept0 ((Kept.refl [] _).drew))).mono ?_; rintro e v1 ⟨rfl, hk1⟩)
   | (go_at_call_of 100 (Value.agg #[Value.bool p, Value.slice a n c, Value.bool q, Value.slice b m d]); go_split_ands; refine (l3Add_any _ _ _ _ _ _ _ _ _ _ _ _ _ _ _ _ _ _ _ _ _ _ _ (H1.out.kept0 (((Kept.refl [] _).drew).trans0 hk1)) (H2.out.kept0 (((Kept.refl [] _).drew).trans0 hk1)) (H4.out.kept0 (((Kept.refl [] _).drew).trans0 hk1)) (H3.out.kept0 (((Kept.refl [] _).drew).trans0 hk1)) N1.out N2.out N4.out N3.out HZ1.out HZ2.out).mono ?_; rintro e v2 ⟨a1, c1, a2, c2, rfl, hs1, hs2, hf1, hf2, hk2⟩; have z12 := hk1.size; simp only [World.size_drew] at z12; have hkr := (((Kept.refl [] ww0).drew).trans0 hk1).trans0 hk2; have rg0 := hkr.cell (p := ⟨w.heap.size + 1 + 1, 0, none⟩) nR0.out (by simp); have rg1 := hkr.cell (p := ⟨w.heap.size + 1 + 1, 1, none⟩) nR1.out (by simp); have rg2 := hkr.cell (p := ⟨w.heap.size + 1 + 1, 2, none⟩) nR2.out (by simp); have rg3 := hkr.cell (p := ⟨w.heap.size + 1 + 1, 3, none⟩) nR3.out (by simp); have ru0 := hkr.free' (p := ⟨w.heap.size + 1 + 1, 0, none⟩) nR0.out fR0.out (by simp); have ru1 := hkr.free' (p := ⟨w.heap.size + 1 + 1, 1, none⟩) nR1.out fR1.out (by simp); have ru2 := hkr.free' (p := ⟨w.heap.size + 1 + 1, 2, none⟩) nR2.out fR2.out (by simp); have ru3 := hkr.free' (p := ⟨w.heap.size + 1 + 1, 3, none⟩) nR3.out fR3.out (by simp)))
 clear tA0 tA1 tA2 tA3 tB0 tB1 tB2 tB3
 have hk := hkr
 clear hkr
 have z1 := hk.size
 replace fR0 := kf hk nR0 fR0
 replace fR1 := kf hk nR1 fR1
 replace fR2 := kf hk nR2 fR2
 replace fR3 := kf hk nR3 fR3
 replace nA0 := kc hk nA0
 replace nA1 := kc hk nA1
 replace nA2 := kc hk nA2
 replace nA3 := kc hk nA3
 replace nB0 := kc hk nB0
 replace nB1 := kc hk nB1
 replace nB2 := kc hk nB2
 replace nB3 := kc hk nB3
 replace nR0 := kc hk nR0
 replace nR1 := kc hk nR1
 replace nR2 := kc hk nR2
 replace nR3 := kc hk nR3
 replace H1 := Lib.hid (H1.out.kept0 hk)
 replace H2 := Lib.hid (H2.out.kept0 hk)
 replace H3 := Lib.hid (H3.out.kept0 hk)
 replace H4 := Lib.hid (H4.out.kept0 hk)
 replace KT := Lib.hid (KT.out.trans0 hk)
 clear hk
 have hs1 := Lib.hid hs1
 have hs2 := Lib.hid hs2
 have G1 := Lib.hid (hf1.mono (B' := w.heap.size + 1 + 1 + 1) (by omega))
 have G2 := Lib.hid (hf2.mono (B' := w.heap.size + 1 + 1 + 1) (by omega))
 clear hf1 hf2
 obtain ⟨p9, hp9⟩ : ∃ r, r = isNeg t1 := ⟨_, rfl⟩
 obtain ⟨q9, hq9⟩ : ∃ r, r = isNeg t2 := ⟨_, rfl⟩
 rw [← hp9, ← hq9]
 generalize hW : ((((v2.setCell ⟨w.heap.size + 1 + 1, 0, none⟩ (.bool p9)).setCell ⟨w.heap.size + 1 + 1, 1, none⟩ (.slice a1 (mag t1).length c1)).setCell ⟨w.heap.size + 1 + 1, 2, none⟩ (.bool q9)).setCell ⟨w.heap.size + 1 + 1, 3, none⟩ (.slice a2 (mag t2).length c2)) = ww2
 have hk : Kept [w.heap.size + 1 + 1] v2 ww2 := by rw [← hW]; exact ((((Kept.refl _ _).setCell _ _ (by simp)).setCell _ _ (by simp)).setCell _ _ (by simp)).setCell _ _ (by simp)
 have hfz : ∀ x, ww2.frozen? x = v2.frozen? x := by rw [← hW]; intro x; simp only [World.frozen?_setCell]
 obtain ⟨e0, e1, e2, e3⟩ := st4 hW.symm nR0.out nR1.out nR2.out nR3.out
 have z2 := hk.size
 replace fR0 := kz hfz fR0
 replace fR1 := kz hfz fR1
 replace fR2 := kz hfz fR2
 replace fR3 := kz hfz fR3
 replace nA0 := kd hk nA0 (by simp <;> omega)
 replace nA1 := kd hk nA1 (by simp <;> omega)
 replace nA2 := kd hk nA2 (by simp <;> omega)
 replace nA3 := kd hk nA3 (by simp <;> omega)
 replace nB0 := kd hk nB0 (by simp <;> omega)
 replace nB1 := kd hk nB1 (by simp <;> omega)
 replace nB2 := kd hk nB2 (by simp <;> omega)
 replace nB3 := kd hk nB3 (by simp <;> omega)
 replace H1 := Lib.hid (H1.out.kept hk (fun hn y hy hm => by have h9 := F1.out hn y hy; simp at hm; omega))
 replace H2 := Lib.hid (H2.out.kept hk (fun hn y hy hm => by have h9 := F2.out hn y hy; simp at hm; omega))
 replace H3 := Lib.hid (H3.out.kept hk (fun hn y hy hm => by have h9 := F3.out hn y hy; simp at hm; omega))
 replace H4 := Lib.hid (H4.out.kept hk (fun hn y hy hm => by have h9 := F4.out hn y hy; simp at hm; omega))
 replace hs1 := Lib.hid (hs1.out.kept hk (fun hn y hy hm => by have h9 := G1.out hn y hy; simp at hm; omega))
 replace hs2 := Lib.hid (hs2.out.kept hk (fun hn y hy hm => by have h9 := G2.out hn y hy; simp at hm; omega))
 replace nR0 := Lib.hid e0
 replace nR1 := Lib.hid e1
 replace nR2 := Lib.hid e2
 replace nR3 := Lib.hid e3
 replace KT := Lib.hid (KT.out.trans hk (fun x hx hlt => by simp at hx; omega))
 clear hk hfz hW e0 e1 e2 e3
 have HP := Lib.hid hp9
 have HQ := Lib.hid hq9
 clear hp9 hq9
 go_wp2_with fail
 have e0 := nR0.out
 have e1 := nR1.out
 have e2 := nR2.out
 have e3 := nR3.out
 refine bodyPost_ret (v := .agg #[.bool p9, .slice a1 (mag t1).length c1, .bool q9, .slice a2 (mag t2).length c2]) (by simp [results, Tryz.results92, go_sem, e0, e1, e2, e3]) rfl ?_
 exact spanV_fin HP.out HQ.out hs1.out hs2.out (G1.out.mono (by omega)) (G2.out.mono (by omega)) KT.out

end Go.Proofs.YtfafjijoeanbhaaGreat
namespace Go.Proofs.YtfafjijoeanbhaaGreat
open Go.RowKit

/-- Block g is a row of bigs with room for cap of them; the first n are these cells. -/
def OwB (w : World) (g n cap : Nat) (xs : List Value) : Prop :=
 xs.length = n * 2 ∧ n ≤ cap ∧ cap ≤ maxLen ∧ ∃ cur : Array Value, w.heap[g]? = some (.cells cur 24 (0, 0)) ∧ cur.size = cap * 2 ∧ cur.toList.take (n * 2) = xs
theorem OwB.lt {w : World} {g n cap : Nat} {xs : List Value} (h : OwB w g n cap xs) : g < w.heap.size := by
 obtain ⟨_, _, _, _, h, _⟩ := h; exact (Array.getElem?_eq_some_iff.1 h).1
theorem OwB.kept {L : List Nat} {w w' : World} {g n cap : Nat} {xs : List Value} (h : OwB w g n cap xs) (k : Kept L w w') (hg : g ∉ L) : OwB w' g n cap xs := by
 have hl := h.lt
 obtain ⟨h0, h1, h2, cur, h3, h4⟩ := h; exact ⟨h0, h1, h2, cur, by rw [k.block g hl hg]; exact h3, h4⟩
theorem OwB.kept0 {w w' : World} {g n cap : Nat} {xs : List Value} (h : OwB w g n cap xs) (k : Kept [] w w') : OwB w' g n cap xs := h.kept k (by simp)
theorem OwB.empty (w : World) : OwB (w.alloc (.cells #[] 24)) w.heap.size 0 0 [] := ⟨rfl, Nat.le_refl _, Nat.zero_le _, #[], heap_alloc_new w _, rfl, rfl⟩
theorem OwB.cell {w : World} {g n cap : Nat} {xs : List Value} (h : OwB w g n cap xs) {j : Nat} {u : Value} (hj : xs[j]? = some u) : w.cell? ⟨g, j, none⟩ = some u := by
 obtain ⟨h0, h1, h2, cur, h3, h4, h5⟩ := h
 rw [cell_of_row w g j cur _ _ h3, ← Array.getElem?_toList]
 rw [← h5, List.getElem?_take] at hj
 split at hj
 ·exact hj
 ·cases hj
end Go.Proofs.YtfafjijoeanbhaaGreat
namespace Go.Proofs.YtfafjijoeanbhaaGreat
open Go.RowKit

theorem l3Mul_zz (k : Nat) (x1 x2 : Int) (a b : Option Addr) (c d : Nat) (y1 y2 : Int) (a' b' : Option Addr) (c' d' : Nat) (z1 z2 : Int) (w : World) (h1 : Sl w a (mag x1).length c (mag x1)) (h2 : Sl w b (mag x2).length d (mag x2)) (h3 : Sl w a' (mag y1).length c' (mag y1)) (h4 : Sl w b' (mag y2).length d' (mag y2)) (hP : isP (k : Int) = true) (fx : Fit2 ⟨x1, x2⟩) (fy : Fit2 ⟨y1, y2⟩) (hz : (⟨z1, z2⟩ : Z2) = mul2 k ⟨x1, x2⟩ ⟨y1, y2⟩) :
  Calls Tryz.prog 88 #[.int .i64 (k : Int), .agg #[.bool (isNeg x1), .slice a (mag x1).length c, .bool (isNeg x2), .slice b (mag x2).length d], .agg #[.bool (isNeg y1), .slice a' (mag y1).length c', .bool (isNeg y2), .slice b' (mag y2).length d']] w (SpanV w z1 z2) := by
 refine l3Mul_any (k : Int) _ _ _ _ _ _ _ _ _ _ _ _ _ _ _ _ _ _ _ _ z1 z2 w h1 h2 h3 h4 hP (fit_ok fx) (fit_ok fy) ?_ ?_
 ·simp only [sv_mag, outZ_f, toNat_of]; exact congrArg Z2.lo hz
 ·simp only [sv_mag, outZ_c, toNat_of]; exact congrArg Z2.hi hz
theorem l3Square_zz (k : Nat) (x1 x2 : Int) (a b : Option Addr) (c d : Nat) (z1 z2 : Int) (w : World) (h1 : Sl w a (mag x1).length c (mag x1)) (h2 : Sl w b (mag x2).length d (mag x2)) (hP : isP (k : Int) = true) (fx : Fit2 ⟨x1, x2⟩) (hz : (⟨z1, z2⟩ : Z2) = sq2 k ⟨x1, x2⟩) :
  Calls Tryz.prog 138 #[.int .i64 (k : Int), .agg #[.bool (isNeg x1), .slice a (mag x1).length c, .bool (isNeg x2), .slice b (mag x2).length d]] w (SpanV w z1 z2) := by
 refine l3Square_any (k : Int) _ _ _ _ _ _ _ _ _ _ z1 z2 w h1 h2 hP (fit_ok fx) ?_ ?_
 ·rw [sq_low (x := ⟨x1, x2⟩), outZ_f, toNat_of]; exact congrArg Z2.lo hz
 ·unfold sqHigh; simp only [sv_mag, outZ_c, toNat_of]; exact congrArg Z2.hi hz
theorem l3Add_zz (x1 x2 : Int) (a b : Option Addr) (c d : Nat) (y1 y2 : Int) (a' b' : Option Addr) (c' d' : Nat) (z1 z2 : Int) (w : World) (h1 : Sl w a (mag x1).length c (mag x1)) (h2 : Sl w b (mag x2).length d (mag x2)) (h3 : Sl w a' (mag y1).length c' (mag y1)) (h4 : Sl w b' (mag y2).length d' (mag y2)) (fx : Fit2 ⟨x1, x2⟩) (fy : Fit2 ⟨y1, y2⟩) (hz : (⟨z1, z2⟩ : Z2) = add2 ⟨x1, x2⟩ ⟨y1, y2⟩) :
  Calls Tryz.prog 100 #[.agg #[.bool (isNeg x1), .slice a (mag x1).length c, .bool (isNeg x2), .slice b (mag x2).length d], .agg #[.bool (isNeg y1), .slice a' (mag y1).length c', .bool (isNeg y2), .slice b' (mag y2).length d']] w (SpanV w z1 z2) :=
 l3Add_any _ _ _ _ _ _ _ _ _ _ _ _ _ _ _ _ _ _ _ _ z1 z2 w h1 h2 h3 h4 (fit_ok fx).lo.n40 (fit_ok fx).hi.n40 (fit_ok fy).lo.n40 (fit_ok fy).hi.n40 (by rw [sv_mag, sv_mag]; exact congrArg Z2.lo hz) (by rw [sv_mag, sv_mag]; exact congrArg Z2.hi hz)
theorem l3Sub_zz (x1 x2 : Int) (a b : Option Addr) (c d : Nat) (y1 y2 : Int) (a' b' : Option Addr) (c' d' : Nat) (z1 z2 : Int) (w : World) (h1 : Sl w a (mag x1).length c (mag x1)) (h2 : Sl w b (mag x2).length d (mag x2)) (h3 : Sl w a' (mag y1).length c' (mag y1)) (h4 : Sl w b' (mag y2).length d' (mag y2)) (fx : Fit2 ⟨x1, x2⟩) (fy : Fit2 ⟨y1, y2⟩) (hz : (⟨z1, z2⟩ : Z2) = sub2 ⟨x1, x2⟩ ⟨y1, y2⟩) :
  Calls Tryz.prog 92 #[.agg #[.bool (isNeg x1), .slice a (mag x1).length c, .bool (isNeg x2), .slice b (mag x2).length d], .agg #[.bool (isNeg y1), .slice a' (mag y1).length c', .bool (isNeg y2), .slice b' (mag y2).length d']] w (SpanV w z1 z2) :=
 l3Sub_any _ _ _ _ _ _ _ _ _ _ _ _ _ _ _ _ _ _ _ _ z1 z2 w h1 h2 h3 h4 (fit_ok fx).lo.n40 (fit_ok fx).hi.n40 (fit_ok fy).lo.n40 (fit_ok fy).hi.n40 (by rw [sv_mag, sv_mag]; exact congrArg Z2.lo hz) (by rw [sv_mag, sv_mag]; exact congrArg Z2.hi hz)
theorem l2Mul_n (x n z : Int) (a b : Option Addr) (c d : Nat) (w : World) (h : Sl w a (mag x).length c (mag x)) (h' : Sl w b (mag n).length d (mag n)) (lx : (mag x).length ≤ 20) (ln : (mag n).length ≤ 20) (hz : z = x * n) :
  Calls Tryz.prog 108 #[.agg #[.bool (isNeg x), .slice a (mag x).length c], .agg #[.bool (isNeg n), .slice b (mag n).length d]] w (BigV w.heap.size w z) :=
 l2Mul_z _ _ _ _ _ _ _ _ _ _ z w (bigOk_of (by omega)).n40 (bigOk_of (by omega)).n40 h h' (by rw [sv_mag, sv_mag]; exact hz)
theorem l2Floor_n (x n z : Int) (a b : Option Addr) (c d : Nat) (w : World) (h : Sl w a (mag x).length c (mag x)) (h' : Sl w b (mag n).length d (mag n)) (lx : (mag x).length ≤ 20) (ln : (mag n).length ≤ 20) (hn : 0 < n) (hz : z = x / n) :
  Calls Tryz.prog 157 #[.agg #[.bool (isNeg x), .slice a (mag x).length c], .agg #[.bool (isNeg n), .slice b (mag n).length d]] w (BigV w.heap.size w z) := by
 obtain ⟨e1, e2, e3⟩ := divs_n hn
 refine l2Floor_z _ _ _ _ _ _ _ _ _ _ z w h h' (bigOk_of (by omega)).n40 (bigOk_of (by omega)).n40 e3 ?_
 rw [e1, e2, divZ_f hn]; exact hz
theorem l2Ceil_n (x n z : Int) (a b : Option Addr) (c d : Nat) (w : World) (h : Sl w a (mag x).length c (mag x)) (h' : Sl w b (mag n).length d (mag n)) (lx : (mag x).length ≤ 20) (ln : (mag n).length ≤ 20) (hn : 0 < n) (hz : z = cdiv x n) :
  Calls Tryz.prog 158 #[.agg #[.bool (isNeg x), .slice a (mag x).length c], .agg #[.bool (isNeg n), .slice b (mag n).length d]] w (BigV w.heap.size w z) := by
 obtain ⟨e1, e2, e3⟩ := divs_n hn
 refine l2Ceil_z _ _ _ _ _ _ _ _ _ _ z w h h' (bigOk_of (by omega)).n40 (bigOk_of (by omega)).n40 e3 ?_
 rw [e1, e2, divZ_c hn]; exact hz

end Go.Proofs.YtfafjijoeanbhaaGreat
namespace Go.Proofs.YtfafjijoeanbhaaGreat
open Go.RowKit

attribute [local go_sem ↓] field_big field_span field_end0 field_end1
theorem mag_opp (z : Int) : mag (-z) = mag z := by
 unfold mag
 by_cases h : z < 0
 ·rw [if_pos h, if_neg (by omega)]
 ·by_cases h0 : z = 0
  ·subst h0; rfl
  ·rw [if_neg h, if_pos (by omega), Int.neg_neg]
theorem l2Neg_opp (a : Option Addr) (c : Nat) (z y : Int) (w : World) (hy : y = -z) :
  Calls Tryz.prog 175 #[.agg #[.bool (isNeg z), .slice a (mag z).length c]] w (Val w (.agg #[.bool (isNeg y), .slice a (mag y).length c])) := by
 have h := l2Neg_any a (mag z).length c z (isNeg z) w (sv_mag z) rfl
 rw [show (mag z).length = (mag y).length by rw [hy, mag_opp], ← hy] at h
 rw [show (mag z).length = (mag y).length by rw [hy, mag_opp]]
 exact h

end Go.Proofs.YtfafjijoeanbhaaGreat
