/-
  Contract of the model's l3Div. Conditions: the precision is one; the ends have no fault and 20 limbs at most; the divisor's ends are not 0.
-/
import Derived.Deep.RegionHeld3
import Derived.Deep.DrawnRows
import Derived.Deep.DeepCutAuto
import Derived.Test.YtofpommikmdlfaaSpanR
import Derived.Test.YtofpommikmdlfaaLeastC
import Derived.Test.YtofpommikmdlfaaAppB
import Derived.Test.YtofpommikmdlfaaMulA
namespace Go.Proofs.Ytofpommikmdlfaa
open Go.RowKit

theorem divZ_len27 {up a b : Bool} {X Y : Int} (hX : 0 ≤ X) (hX' : X < pw 27) (hY : 0 < Y) : (mag (divZ up a b X Y)).length ≤ 40 := by
  have h1 : 0 ≤ X / Y := Int.ediv_nonneg hX (by omega)
  have h2 : X / Y ≤ X := Int.ediv_le_self _ hX
  have h3 : pw 28 = 65536 * pw 27 := rfl
  have h4 := pw_pos 27
  have key : ∀ v : Int, 0 ≤ v → v ≤ X + 1 → (digits v).length ≤ 40 := fun v _ hv2 => Nat.le_trans (digits_len 28 v (by omega)) (by omega)
  unfold divZ
  rw [mag_sg (by split <;> omega)]
  split
  · exact key _ (by omega) (by omega)
  · exact key _ (by omega) (by omega)
theorem mag_lt27 {u : Int} (h : (mag u).length ≤ 27) : 0 ≤ val (mag u) ∧ val (mag u) < pw 27 := by
  have h1 := (show AllLimbs (mag u) from (bigOk_of (z := u) (by omega)).n40.limb).val
  have := pw_mono (mag u).length 27 h
  omega
theorem cell_lt {w : World} {g j : Nat} {v : Value} (h : w.cell? ⟨g, j, none⟩ = some v) : g < w.heap.size := World.block_lt_of_cell? w _ h
theorem rowB4_of {w : World} {g n cap : Nat} {z1 z2 z3 z4 : Int} {a1 a2 a3 a4 : Option Addr} {c1 c2 c3 c4 : Nat}
    (h : OwB w g n cap [.bool (isNeg z1), .slice a1 (mag z1).length c1, .bool (isNeg z2), .slice a2 (mag z2).length c2, .bool (isNeg z3), .slice a3 (mag z3).length c3, .bool (isNeg z4), .slice a4 (mag z4).length c4]) :
    RowB w g [bz z1 a1 c1, bz z2 a2 c2, bz z3 a3 c3, bz z4 a4 c4] := by
  intro j hj
  match j, hj with
  | 0, _ => exact ⟨h.cell rfl, h.cell rfl⟩
  | 1, _ => exact ⟨h.cell rfl, h.cell rfl⟩
  | 2, _ => exact ⟨h.cell rfl, h.cell rfl⟩
  | 3, _ => exact ⟨h.cell rfl, h.cell rfl⟩

set_option maxHeartbeats 16000000 in
set_option maxRecDepth 20000 in
theorem l3Div_any (P : Int) (p q : Bool) (a b : Option Addr) (n c m d : Nat) (xs ys : List Int) (p' q' : Bool) (a' b' : Option Addr) (n' c' m' d' : Nat) (xs' ys' : List Int) (u1 u2 f1_ f2_ f3_ f4_ h1_ h2_ h3_ h4_ t1 t2 : Int) (w : World) (h1 : Sl w a n c xs) (h2 : Sl w b m d ys) (h3 : Sl w a' n' c' xs') (h4 : Sl w b' m' d' ys') (hP : isP P = true) (hx : BigOk p xs) (hy : BigOk q ys) (hx' : BigOk p' xs') (hy' : BigOk q' ys') (lx : xs.length ≤ 20) (ly : ys.length ≤ 20) (z3 : xs'.length ≠ 0) (z4 : ys'.length ≠ 0) (hu1 : u1 = inU P p xs) (hu2 : u2 = inU P q ys) (hf1 : f1_ = divZ false (isNeg u1) p' (val (mag u1)) (val xs')) (hf2 : f2_ = divZ false (isNeg u1) q' (val (mag u1)) (val ys')) (hf3 : f3_ = divZ false (isNeg u2) p' (val (mag u2)) (val xs')) (hf4 : f4_ = divZ false (isNeg u2) q' (val (mag u2)) (val ys')) (hh1 : h1_ = divZ true (isNeg u1) p' (val (mag u1)) (val xs')) (hh2 : h2_ = divZ true (isNeg u1) q' (val (mag u1)) (val ys')) (hh3 : h3_ = divZ true (isNeg u2) p' (val (mag u2)) (val xs')) (hh4 : h4_ = divZ true (isNeg u2) q' (val (mag u2)) (val ys')) (ht1 : t1 = min4 f1_ f2_ f3_ f4_) (ht2 : t2 = max4 h1_ h2_ h3_ h4_) :
    Calls Try.prog 20 #[.int .i64 P, .agg #[.bool p, .slice a n c, .bool q, .slice b m d], .agg #[.bool p', .slice a' n' c', .bool q', .slice b' m' d']] w (SpanV w t1 t2) := by
  have H1 := Lib.hid h1
  have H2 := Lib.hid h2
  have H3 := Lib.hid h3
  have H4 := Lib.hid h4
  clear h1 h2 h3 h4
  have F1 := Lib.hid H1.out.lt
  have F2 := Lib.hid H2.out.lt
  have F3 := Lib.hid H3.out.lt
  have F4 := Lib.hid H4.out.lt
  have hm9 : mag u1 = digits (val xs * p2 P.toNat) := by rw [hu1]; unfold inU sv; rw [show sg p (val xs) * p2 P.toNat = sg p (val xs * p2 P.toNat) by cases p <;> simp [sg, Int.neg_mul]]; exact mag_sg (Int.mul_nonneg (canon_nonneg hx.n40.canon).1 (by have := p2_pos P.toNat; omega))
  have hu9 : u1 = sg p (val xs * p2 P.toNat) := by rw [hu1]; unfold inU sv; cases p <;> simp [sg, Int.neg_mul]
  have hv9 : 0 ≤ val xs * p2 P.toNat := Int.mul_nonneg (canon_nonneg hx.n40.canon).1 (by have := p2_pos P.toNat; omega)
  obtain ⟨v1_, hv⟩ : ∃ v, v = val xs * p2 P.toNat := ⟨_, rfl⟩
  rw [← hv] at hm9 hu9 hv9
  have hul1 : (mag u1).length ≤ 27 := by rw [hu1]; exact inU_len hP hx lx
  have HMu1 := Lib.hid hm9
  have HUUu1 := Lib.hid hu9
  have HVNu1 := Lib.hid hv9
  have HVu1 := Lib.hid hv
  have HXu1 := Lib.hid hx.n40
  have HOu1 := Lib.hid (bigOk_of (z := u1) (by omega)).n40
  clear hm9 hu9 hv9 hv
  have hm9 : mag u2 = digits (val ys * p2 P.toNat) := by rw [hu2]; unfold inU sv; rw [show sg q (val ys) * p2 P.toNat = sg q (val ys * p2 P.toNat) by cases q <;> simp [sg, Int.neg_mul]]; exact mag_sg (Int.mul_nonneg (canon_nonneg hy.n40.canon).1 (by have := p2_pos P.toNat; omega))
  have hu9 : u2 = sg q (val ys * p2 P.toNat) := by rw [hu2]; unfold inU sv; cases q <;> simp [sg, Int.neg_mul]
  have hv9 : 0 ≤ val ys * p2 P.toNat := Int.mul_nonneg (canon_nonneg hy.n40.canon).1 (by have := p2_pos P.toNat; omega)
  obtain ⟨v2_, hv⟩ : ∃ v, v = val ys * p2 P.toNat := ⟨_, rfl⟩
  rw [← hv] at hm9 hu9 hv9
  have hul2 : (mag u2).length ≤ 27 := by rw [hu2]; exact inU_len hP hy ly
  have HMu2 := Lib.hid hm9
  have HUUu2 := Lib.hid hu9
  have HVNu2 := Lib.hid hv9
  have HVu2 := Lib.hid hv
  have HXu2 := Lib.hid hy.n40
  have HOu2 := Lib.hid (bigOk_of (z := u2) (by omega)).n40
  clear hm9 hu9 hv9 hv
  have of1 : (mag f1_).length ≤ 40 := by rw [hf1]; exact divZ_len27 (mag_lt27 hul1).1 (mag_lt27 hul1).2 ((canon_nonneg hx'.n40.canon).2 (by intro e9; exact z3 (by rw [e9]; rfl)))
  have of2 : (mag f2_).length ≤ 40 := by rw [hf2]; exact divZ_len27 (mag_lt27 hul1).1 (mag_lt27 hul1).2 ((canon_nonneg hy'.n40.canon).2 (by intro e9; exact z4 (by rw [e9]; rfl)))
  have of3 : (mag f3_).length ≤ 40 := by rw [hf3]; exact divZ_len27 (mag_lt27 hul2).1 (mag_lt27 hul2).2 ((canon_nonneg hx'.n40.canon).2 (by intro e9; exact z3 (by rw [e9]; rfl)))
  have of4 : (mag f4_).length ≤ 40 := by rw [hf4]; exact divZ_len27 (mag_lt27 hul2).1 (mag_lt27 hul2).2 ((canon_nonneg hy'.n40.canon).2 (by intro e9; exact z4 (by rw [e9]; rfl)))
  have oh1 : (mag h1_).length ≤ 40 := by rw [hh1]; exact divZ_len27 (mag_lt27 hul1).1 (mag_lt27 hul1).2 ((canon_nonneg hx'.n40.canon).2 (by intro e9; exact z3 (by rw [e9]; rfl)))
  have oh2 : (mag h2_).length ≤ 40 := by rw [hh2]; exact divZ_len27 (mag_lt27 hul1).1 (mag_lt27 hul1).2 ((canon_nonneg hy'.n40.canon).2 (by intro e9; exact z4 (by rw [e9]; rfl)))
  have oh3 : (mag h3_).length ≤ 40 := by rw [hh3]; exact divZ_len27 (mag_lt27 hul2).1 (mag_lt27 hul2).2 ((canon_nonneg hx'.n40.canon).2 (by intro e9; exact z3 (by rw [e9]; rfl)))
  have oh4 : (mag h4_).length ≤ 40 := by rw [hh4]; exact divZ_len27 (mag_lt27 hul2).1 (mag_lt27 hul2).2 ((canon_nonneg hy'.n40.canon).2 (by intro e9; exact z4 (by rw [e9]; rfl)))
  have HP := Lib.hid hP
  have Y3 := Lib.hid hx'.n40
  have Y4 := Lib.hid hy'.n40
  have Z3 := Lib.hid z3
  have Z4 := Lib.hid z4
  have Hf1 := Lib.hid hf1
  have Hf2 := Lib.hid hf2
  have Hf3 := Lib.hid hf3
  have Hf4 := Lib.hid hf4
  have Hh1 := Lib.hid hh1
  have Hh2 := Lib.hid hh2
  have Hh3 := Lib.hid hh3
  have Hh4 := Lib.hid hh4
  have HT1 := Lib.hid ht1
  have HT2 := Lib.hid ht2
  clear hP hx hy hx' hy' hu1 hu2 z3 z4 hf1 hf2 hf3 hf4 hh1 hh2 hh3 hh4 ht1 ht2
  go_enter Try.func20, Try.ntmps20
  go_upto_region 1 with fail
  generalize hW : (((w.alloc (.cells #[.bool p, .slice a n c, .bool q, .slice b m d] 30)).alloc (.cells #[.bool p', .slice a' n' c', .bool q', .slice b' m' d'] 30)).alloc (.cells #[.bool false, .slice none 0 0, .bool false, .slice none 0 0] 30)) = ww0
  have hkk : Kept [] (((w.alloc (.cells #[.bool p, .slice a n c, .bool q, .slice b m d] 30)).alloc (.cells #[.bool p', .slice a' n' c', .bool q', .slice b' m' d'] 30)).alloc (.cells #[.bool false, .slice none 0 0, .bool false, .slice none 0 0] 30)) ww0 := by rw [hW]; exact Kept.refl _ _
  have zzA : w.heap.size + 1 + 1 + 1 = ww0.heap.size := by rw [← hW]; simp
  obtain ⟨⟨nA0, nA1, nA2, nA3⟩, _⟩ := tp4 hkk.peel.peel (g := w.heap.size) (by simp) (by simp)
  obtain ⟨⟨nB0, nB1, nB2, nB3⟩, _⟩ := tp4 hkk.peel (g := w.heap.size + 1) (by simp) (by simp)
  obtain ⟨⟨nR0, nR1, nR2, nR3⟩, fR0, fR1, fR2, fR3⟩ := tp4 hkk (g := w.heap.size + 1 + 1) (by simp) (by simp)
  have hk := hkk.peel.peel.peel
  clear hkk hW
  have z0 := hk.size
  have KT := Lib.hid hk
  clear hk
  replace H1 := Lib.hid (H1.out.kept0 KT.out)
  replace H2 := Lib.hid (H2.out.kept0 KT.out)
  replace H3 := Lib.hid (H3.out.kept0 KT.out)
  replace H4 := Lib.hid (H4.out.kept0 KT.out)
  go_upto_region 2 with fail
  generalize hW : (ww0.alloc (.cells #[] 28)) = ww1
  have LOW := Lib.hid (show OwB ww1 ww0.heap.size 0 0 [] by rw [← hW]; exact OwB.empty _)
  have hk : Kept [] ww0 ww1 := by rw [← hW]; exact (Kept.refl [] _).alloc _
  have zzLOW : ww0.heap.size + 1 = ww1.heap.size := by rw [← hW]; simp
  clear hW
  have z1 := hk.size
  replace fR0 := kf hk nR0 fR0
  replace fR1 := kf hk nR1 fR1
  replace fR2 := kf hk nR2 fR2
  replace fR3 := kf hk nR3 fR3
  replace nA0 := kc hk nA0
  replace nA1 := kc hk nA1
  replace nA2 := kc hk nA2
  replace nA3 := kc hk nA3
  replace nB0 := kc hk nB0
  replace nB1 := kc hk nB1
  replace nB2 := kc hk nB2
  replace nB3 := kc hk nB3
  replace nR0 := kc hk nR0
  replace nR1 := kc hk nR1
  replace nR2 := kc hk nR2
  replace nR3 := kc hk nR3
  replace H1 := Lib.hid (H1.out.kept0 hk)
  replace H2 := Lib.hid (H2.out.kept0 hk)
  replace H3 := Lib.hid (H3.out.kept0 hk)
  replace H4 := Lib.hid (H4.out.kept0 hk)
  replace KT := Lib.hid (KT.out.trans0 hk)
  clear hk
  go_upto_region 3 with fail
  generalize hW : (ww1.alloc (.cells #[] 28)) = ww2
  have HIGH := Lib.hid (show OwB ww2 ww1.heap.size 0 0 [] by rw [← hW]; exact OwB.empty _)
  have hk : Kept [] ww1 ww2 := by rw [← hW]; exact (Kept.refl [] _).alloc _
  have zzHIGH : ww1.heap.size + 1 = ww2.heap.size := by rw [← hW]; simp
  clear hW
  have z2 := hk.size
  replace fR0 := kf hk nR0 fR0
  replace fR1 := kf hk nR1 fR1
  replace fR2 := kf hk nR2 fR2
  replace fR3 := kf hk nR3 fR3
  replace nA0 := kc hk nA0
  replace nA1 := kc hk nA1
  replace nA2 := kc hk nA2
  replace nA3 := kc hk nA3
  replace nB0 := kc hk nB0
  replace nB1 := kc hk nB1
  replace nB2 := kc hk nB2
  replace nB3 := kc hk nB3
  replace nR0 := kc hk nR0
  replace nR1 := kc hk nR1
  replace nR2 := kc hk nR2
  replace nR3 := kc hk nR3
  replace H1 := Lib.hid (H1.out.kept0 hk)
  replace H2 := Lib.hid (H2.out.kept0 hk)
  replace H3 := Lib.hid (H3.out.kept0 hk)
  replace H4 := Lib.hid (H4.out.kept0 hk)
  replace LOW := Lib.hid (LOW.out.kept0 hk)
  replace KT := Lib.hid (KT.out.trans0 hk)
  clear hk
  have GLH := Lib.hid (show ww0.heap.size ≠ ww1.heap.size from by omega)
  have zg0 : ww0.heap.size ≤ ww0.heap.size := by omega
  have zg00 : ww0.heap.size ≤ ww1.heap.size := by omega
  have tA0 := nA0.out
  have tA1 := nA1.out
  have tA2 := nA2.out
  have tA3 := nA3.out
  go_wp2_with fail
  clear tA0 tA1 tA2 tA3
  have lL := LOW.out.lt
  have lH := HIGH.out.lt
  generalize hW : (ww2.alloc (.cells #[.bool p, .slice a n c, .bool q, .slice b m d] 28)) = ww3
  have hk : Kept [] ww2 ww3 := by rw [← hW]; exact (Kept.refl [] _).alloc _
  have zzE : ww2.heap.size + 1 = ww3.heap.size := by rw [← hW]; simp
  have nE0 := Lib.hid (show ww3.cell? ⟨ww2.heap.size, 0, none⟩ = some (.bool p) by rw [← hW, World.cell?_alloc_new]; rfl)
  have fE0 := Lib.hid (show ww3.frozen? ⟨ww2.heap.size, 0, none⟩ = false by rw [← hW]; exact frozen_of_row _ _ _ _ _ (heap_alloc_new _ _))
  have nE1 := Lib.hid (show ww3.cell? ⟨ww2.heap.size, 1, none⟩ = some (.slice a n c) by rw [← hW, World.cell?_alloc_new]; rfl)
  have fE1 := Lib.hid (show ww3.frozen? ⟨ww2.heap.size, 1, none⟩ = false by rw [← hW]; exact frozen_of_row _ _ _ _ _ (heap_alloc_new _ _))
  have nE2 := Lib.hid (show ww3.cell? ⟨ww2.heap.size, 2, none⟩ = some (.bool q) by rw [← hW, World.cell?_alloc_new]; rfl)
  have fE2 := Lib.hid (show ww3.frozen? ⟨ww2.heap.size, 2, none⟩ = false by rw [← hW]; exact frozen_of_row _ _ _ _ _ (heap_alloc_new _ _))
  have nE3 := Lib.hid (show ww3.cell? ⟨ww2.heap.size, 3, none⟩ = some (.slice b m d) by rw [← hW, World.cell?_alloc_new]; rfl)
  have fE3 := Lib.hid (show ww3.frozen? ⟨ww2.heap.size, 3, none⟩ = false by rw [← hW]; exact frozen_of_row _ _ _ _ _ (heap_alloc_new _ _))
  clear hW
  have z3 := hk.size
  replace fR0 := kf hk nR0 fR0
  replace fR1 := kf hk nR1 fR1
  replace fR2 := kf hk nR2 fR2
  replace fR3 := kf hk nR3 fR3
  replace nA0 := kc hk nA0
  replace nA1 := kc hk nA1
  replace nA2 := kc hk nA2
  replace nA3 := kc hk nA3
  replace nB0 := kc hk nB0
  replace nB1 := kc hk nB1
  replace nB2 := kc hk nB2
  replace nB3 := kc hk nB3
  replace nR0 := kc hk nR0
  replace nR1 := kc hk nR1
  replace nR2 := kc hk nR2
  replace nR3 := kc hk nR3
  replace H1 := Lib.hid (H1.out.kept0 hk)
  replace H2 := Lib.hid (H2.out.kept0 hk)
  replace H3 := Lib.hid (H3.out.kept0 hk)
  replace H4 := Lib.hid (H4.out.kept0 hk)
  replace LOW := Lib.hid (LOW.out.kept0 hk)
  replace HIGH := Lib.hid (HIGH.out.kept0 hk)
  replace KT := Lib.hid (KT.out.trans0 hk)
  clear hk
  have NBE := Lib.hid (show ww2.heap.size ≠ ww0.heap.size ∧ ww2.heap.size ≠ ww1.heap.size from by omega)
  clear lL lH
  clear fE0
  clear fE1
  clear fE2
  clear fE3
  clear nA0 nA1 nA2 nA3
  refine wp_loop_rounds 3 ?_
  rw [rounds_succ]
  have tE0 := nE0.out
  have tE1 := nE1.out
  have tE2 := nE2.out
  have tE3 := nE3.out
  go_upto_region 6 with fail
  clear tE0 tE1 tE2 tE3
  have lL := LOW.out.lt
  have lH := HIGH.out.lt
  generalize hW : (ww3.alloc (.cells #[.bool p, .slice a n c] 28)) = ww4
  have hk : Kept [] ww3 ww4 := by rw [← hW]; exact (Kept.refl [] _).alloc _
  have zzX0 : ww3.heap.size + 1 = ww4.heap.size := by rw [← hW]; simp
  have nX00 := Lib.hid (show ww4.cell? ⟨ww3.heap.size, 0, none⟩ = some (.bool p) by rw [← hW, World.cell?_alloc_new]; rfl)
  have fX00 := Lib.hid (show ww4.frozen? ⟨ww3.heap.size, 0, none⟩ = false by rw [← hW]; exact frozen_of_row _ _ _ _ _ (heap_alloc_new _ _))
  have nX01 := Lib.hid (show ww4.cell? ⟨ww3.heap.size, 1, none⟩ = some (.slice a n c) by rw [← hW, World.cell?_alloc_new]; rfl)
  have fX01 := Lib.hid (show ww4.frozen? ⟨ww3.heap.size, 1, none⟩ = false by rw [← hW]; exact frozen_of_row _ _ _ _ _ (heap_alloc_new _ _))
  clear hW
  have z4 := hk.size
  replace fR0 := kf hk nR0 fR0
  replace fR1 := kf hk nR1 fR1
  replace fR2 := kf hk nR2 fR2
  replace fR3 := kf hk nR3 fR3
  replace nB0 := kc hk nB0
  replace nB1 := kc hk nB1
  replace nB2 := kc hk nB2
  replace nB3 := kc hk nB3
  replace nR0 := kc hk nR0
  replace nR1 := kc hk nR1
  replace nR2 := kc hk nR2
  replace nR3 := kc hk nR3
  replace H1 := Lib.hid (H1.out.kept0 hk)
  replace H2 := Lib.hid (H2.out.kept0 hk)
  replace H3 := Lib.hid (H3.out.kept0 hk)
  replace H4 := Lib.hid (H4.out.kept0 hk)
  replace LOW := Lib.hid (LOW.out.kept0 hk)
  replace HIGH := Lib.hid (HIGH.out.kept0 hk)
  replace nE0 := kc hk nE0
  replace nE1 := kc hk nE1
  replace nE2 := kc hk nE2
  replace nE3 := kc hk nE3
  replace KT := Lib.hid (KT.out.trans0 hk)
  clear hk
  have NBX0 := Lib.hid (show ww3.heap.size ≠ ww0.heap.size ∧ ww3.heap.size ≠ ww1.heap.size from by omega)
  clear lL lH
  clear fX00
  clear fX01
  have tX00 := nX00.out
  have tX01 := nX01.out
  have kr := Lib.hid (Kept.refl [] ww4)
  go_cut [11, 22] (fun s i wx => i = .int .i64 0 ∧ Hid (BoxN ww4 u1 s wx))
  case first =>
    go_region_held3 (fun w' => w'.cell? ⟨ww3.heap.size, 0, none⟩ = some (.bool p) ∧ w'.cell? ⟨ww3.heap.size, 1, none⟩ = some (.slice a n c) ∧ Hid (Kept [] ww4 w'))
      ((go_split_ands; (try refine ⟨?_, ?_, ?_⟩) <;> with_reducible first | assumption | exact Kept.set2n (by assumption) (by omega) | exact cell_set2 (by assumption) (by (try dsimp only); omega) | exact drew_alloc_cell (by assumption) | exact drew_cell (by assumption) | exact alloc_cell (by assumption) | exact Lib.hid (Kept.trans0 (Hid.out (by assumption)) (by assumption)) | exact Kept.cell (by assumption) (by assumption) (by simp) | exact Kept.allocH (by assumption) | exact Kept.drewAllocH' (by assumption) | exact Kept.drewH' (by assumption)))
      (first
        | (go_at_call 44; go_split_ands; refine (l3Shift_any _ _ _ _ _ _ HP.out (H1.out.kept0 (Hid.out (by assumption))) HXu1.out lx).mono ?_; rintro e v1 ⟨v9, rfl, ho, hk1⟩; rw [← HVu1.out, ← HMu1.out] at ho; obtain ⟨a9, c9, rfl, hs9, hf9⟩ := ho.sl; have zk1 := hk1.size; (try simp only [World.size_drew] at zk1 hf9); (try simp only [World.size_alloc] at zk1); (first | (obtain ⟨z0_, y0_, _⟩ := hk1.undrew.top (g := ww4.heap.size) rfl (by simp) 0 (v := .bool false) rfl; obtain ⟨z1_, y1_, _⟩ := hk1.undrew.top (g := ww4.heap.size) rfl (by simp) 1 (v := .slice none 0 0) rfl) | skip))
        | (go_at_call 43; go_split_ands; refine (l2Big_u _ _ _ _ v1_ u1 _ HVNu1.out HUUu1.out (by rw [HMu1.out])).mono ?_; rintro e v2 ⟨rfl, hk2⟩; have zk2 := hk2.size; (try simp only [World.size_alloc] at zk2); have sck := Lib.hid (Kept.trans0 (Hid.out (by assumption : Hid (Kept [] ww4 _))) hk2); have sc0 : v2.cell? ⟨ww3.heap.size, 0, none⟩ = some (.bool p) := hk2.cell (by assumption) (by simp); have sc1 : v2.cell? ⟨ww3.heap.size, 1, none⟩ = some (.slice a n c) := hk2.cell (by assumption) (by simp); have hs8 := (show Sl _ a9 (mag u1).length c9 (mag u1) by first | exact hs9 | exact hs9.kept0 ((Kept.refl [] _).alloc _)).kept0 hk2; (first | (obtain ⟨z0_, y0_, _⟩ := hk2.top (g := v1.heap.size) rfl (by simp) 0 (v := .bool false) rfl; obtain ⟨z1_, y1_, _⟩ := hk2.top (g := v1.heap.size) rfl (by simp) 1 (v := .slice none 0 0) rfl) | (replace y0_ := hk2.free' z0_ y0_ (by simp); replace y1_ := hk2.free' z1_ y1_ (by simp); replace z0_ := hk2.cell z0_ (by simp); replace z1_ := hk2.cell z1_ (by simp)) | skip)))
    all_goals
      go_wp2_with fail
      go_meet
      refine ⟨rfl, ?_⟩
      first | ((with_reducible refine Lib.hid (boxN_last ?_ hs8 hf9 sck)); omega) | ((with_reducible refine Lib.hid (boxN_set ?_ ?_ (hf9.mono ?_) hs8 z0_ z1_ sck)); omega; (intro hn x hx; have h1 := hf9 hn x hx; have h2 := hs9.lt hn x hx; (try simp only [World.size_alloc] at h1); omega); (try simp only [World.size_alloc]); omega)
  case rest =>
  obtain ⟨hi9, hc9⟩ := hcut
  have hc := hc9.out
  clear hc9 kr tX00 tX01
  subst hi9
  obtain ⟨gN0, aN0, cN0, rfl, e0, e1, hg1, hgl1, hs, hf, hk⟩ := hc
  obtain ⟨ww5, rfl⟩ : ∃ w' : World, w' = wc := ⟨_, rfl⟩
  have lL := LOW.out.lt
  have lH := HIGH.out.lt
  have SN0 := Lib.hid hs
  have hfN := hf
  clear hs hf
  have z5 := hk.size
  replace fR0 := kf hk nR0 fR0
  replace fR1 := kf hk nR1 fR1
  replace fR2 := kf hk nR2 fR2
  replace fR3 := kf hk nR3 fR3
  replace nB0 := kc hk nB0
  replace nB1 := kc hk nB1
  replace nB2 := kc hk nB2
  replace nB3 := kc hk nB3
  replace nR0 := kc hk nR0
  replace nR1 := kc hk nR1
  replace nR2 := kc hk nR2
  replace nR3 := kc hk nR3
  replace H1 := Lib.hid (H1.out.kept0 hk)
  replace H2 := Lib.hid (H2.out.kept0 hk)
  replace H3 := Lib.hid (H3.out.kept0 hk)
  replace H4 := Lib.hid (H4.out.kept0 hk)
  replace LOW := Lib.hid (LOW.out.kept0 hk)
  replace HIGH := Lib.hid (HIGH.out.kept0 hk)
  replace nE0 := kc hk nE0
  replace nE1 := kc hk nE1
  replace nE2 := kc hk nE2
  replace nE3 := kc hk nE3
  replace nX00 := kc hk nX00
  replace nX01 := kc hk nX01
  replace KT := Lib.hid (KT.out.trans0 hk)
  clear hk
  have nN00 := Lib.hid e0
  have nN01 := Lib.hid e1
  clear e0 e1
  have NBN0 := Lib.hid (show gN0 ≠ ww0.heap.size ∧ gN0 ≠ ww1.heap.size from by omega)
  have NSSN0 := Lib.hid (show 0 < (mag u1).length → ∀ x, aN0 = some x → x.block ≠ ww0.heap.size ∧ x.block ≠ ww1.heap.size from fun hn x hx => by have h9 := hfN hn x hx; omega)
  clear hfN lL lH
  clear nX00 nX01
  clear NBX0
  have tB0 := nB0.out
  have tB1 := nB1.out
  have tB2 := nB2.out
  have tB3 := nB3.out
  go_wp2_with fail
  clear tB0 tB1 tB2 tB3
  have lL := LOW.out.lt
  have lH := HIGH.out.lt
  generalize hW : (ww5.alloc (.cells #[.bool p', .slice a' n' c', .bool q', .slice b' m' d'] 28)) = ww6
  have hk : Kept [] ww5 ww6 := by rw [← hW]; exact (Kept.refl [] _).alloc _
  have zzK0 : ww5.heap.size + 1 = ww6.heap.size := by rw [← hW]; simp
  have nK00 := Lib.hid (show ww6.cell? ⟨ww5.heap.size, 0, none⟩ = some (.bool p') by rw [← hW, World.cell?_alloc_new]; rfl)
  have fK00 := Lib.hid (show ww6.frozen? ⟨ww5.heap.size, 0, none⟩ = false by rw [← hW]; exact frozen_of_row _ _ _ _ _ (heap_alloc_new _ _))
  have nK01 := Lib.hid (show ww6.cell? ⟨ww5.heap.size, 1, none⟩ = some (.slice a' n' c') by rw [← hW, World.cell?_alloc_new]; rfl)
  have fK01 := Lib.hid (show ww6.frozen? ⟨ww5.heap.size, 1, none⟩ = false by rw [← hW]; exact frozen_of_row _ _ _ _ _ (heap_alloc_new _ _))
  have nK02 := Lib.hid (show ww6.cell? ⟨ww5.heap.size, 2, none⟩ = some (.bool q') by rw [← hW, World.cell?_alloc_new]; rfl)
  have fK02 := Lib.hid (show ww6.frozen? ⟨ww5.heap.size, 2, none⟩ = false by rw [← hW]; exact frozen_of_row _ _ _ _ _ (heap_alloc_new _ _))
  have nK03 := Lib.hid (show ww6.cell? ⟨ww5.heap.size, 3, none⟩ = some (.slice b' m' d') by rw [← hW, World.cell?_alloc_new]; rfl)
  have fK03 := Lib.hid (show ww6.frozen? ⟨ww5.heap.size, 3, none⟩ = false by rw [← hW]; exact frozen_of_row _ _ _ _ _ (heap_alloc_new _ _))
  clear hW
  have z6 := hk.size
  replace fR0 := kf hk nR0 fR0
  replace fR1 := kf hk nR1 fR1
  replace fR2 := kf hk nR2 fR2
  replace fR3 := kf hk nR3 fR3
  replace nB0 := kc hk nB0
  replace nB1 := kc hk nB1
  replace nB2 := kc hk nB2
  replace nB3 := kc hk nB3
  replace nR0 := kc hk nR0
  replace nR1 := kc hk nR1
  replace nR2 := kc hk nR2
  replace nR3 := kc hk nR3
  replace H1 := Lib.hid (H1.out.kept0 hk)
  replace H2 := Lib.hid (H2.out.kept0 hk)
  replace H3 := Lib.hid (H3.out.kept0 hk)
  replace H4 := Lib.hid (H4.out.kept0 hk)
  replace LOW := Lib.hid (LOW.out.kept0 hk)
  replace HIGH := Lib.hid (HIGH.out.kept0 hk)
  replace nE0 := kc hk nE0
  replace nE1 := kc hk nE1
  replace nE2 := kc hk nE2
  replace nE3 := kc hk nE3
  replace nN00 := kc hk nN00
  replace nN01 := kc hk nN01
  replace SN0 := Lib.hid (SN0.out.kept0 hk)
  replace KT := Lib.hid (KT.out.trans0 hk)
  clear hk
  have NBK0 := Lib.hid (show ww5.heap.size ≠ ww0.heap.size ∧ ww5.heap.size ≠ ww1.heap.size from by omega)
  clear lL lH
  clear fK00
  clear fK01
  clear fK02
  clear fK03
  refine wp_loop_rounds 3 ?_
  rw [rounds_succ]
  have tK00 := nK00.out
  have tK01 := nK01.out
  have tK02 := nK02.out
  have tK03 := nK03.out
  go_upto_region 10 with fail
  clear tK00 tK01 tK02 tK03
  have lL := LOW.out.lt
  have lH := HIGH.out.lt
  generalize hW : (ww6.alloc (.cells #[.bool p', .slice a' n' c'] 28)) = ww7
  have hk : Kept [] ww6 ww7 := by rw [← hW]; exact (Kept.refl [] _).alloc _
  have zzY1 : ww6.heap.size + 1 = ww7.heap.size := by rw [← hW]; simp
  have nY10 := Lib.hid (show ww7.cell? ⟨ww6.heap.size, 0, none⟩ = some (.bool p') by rw [← hW, World.cell?_alloc_new]; rfl)
  have fY10 := Lib.hid (show ww7.frozen? ⟨ww6.heap.size, 0, none⟩ = false by rw [← hW]; exact frozen_of_row _ _ _ _ _ (heap_alloc_new _ _))
  have nY11 := Lib.hid (show ww7.cell? ⟨ww6.heap.size, 1, none⟩ = some (.slice a' n' c') by rw [← hW, World.cell?_alloc_new]; rfl)
  have fY11 := Lib.hid (show ww7.frozen? ⟨ww6.heap.size, 1, none⟩ = false by rw [← hW]; exact frozen_of_row _ _ _ _ _ (heap_alloc_new _ _))
  clear hW
  have z7 := hk.size
  replace fR0 := kf hk nR0 fR0
  replace fR1 := kf hk nR1 fR1
  replace fR2 := kf hk nR2 fR2
  replace fR3 := kf hk nR3 fR3
  replace nB0 := kc hk nB0
  replace nB1 := kc hk nB1
  replace nB2 := kc hk nB2
  replace nB3 := kc hk nB3
  replace nR0 := kc hk nR0
  replace nR1 := kc hk nR1
  replace nR2 := kc hk nR2
  replace nR3 := kc hk nR3
  replace H1 := Lib.hid (H1.out.kept0 hk)
  replace H2 := Lib.hid (H2.out.kept0 hk)
  replace H3 := Lib.hid (H3.out.kept0 hk)
  replace H4 := Lib.hid (H4.out.kept0 hk)
  replace LOW := Lib.hid (LOW.out.kept0 hk)
  replace HIGH := Lib.hid (HIGH.out.kept0 hk)
  replace nE0 := kc hk nE0
  replace nE1 := kc hk nE1
  replace nE2 := kc hk nE2
  replace nE3 := kc hk nE3
  replace nN00 := kc hk nN00
  replace nN01 := kc hk nN01
  replace SN0 := Lib.hid (SN0.out.kept0 hk)
  replace nK00 := kc hk nK00
  replace nK01 := kc hk nK01
  replace nK02 := kc hk nK02
  replace nK03 := kc hk nK03
  replace KT := Lib.hid (KT.out.trans0 hk)
  clear hk
  have NBY1 := Lib.hid (show ww6.heap.size ≠ ww0.heap.size ∧ ww6.heap.size ≠ ww1.heap.size from by omega)
  clear lL lH
  clear fY10
  clear fY11
  have tN00 := nN00.out
  have tN01 := nN01.out
  have tY10 := nY10.out
  have tY11 := nY11.out
  go_wp2_with fail
  clear tN00 tN01 tY10 tY11
  have lL := LOW.out.lt
  have lH := HIGH.out.lt
  refine (l2Floor_z _ _ _ _ _ _ _ _ _ _ _ _ SN0.out H3.out HOu1.out Y3.out Z3.out Hf1.out).mono ?_
  rintro e ww8 ⟨bf1, cf1, rfl, hs9, hf9, hk⟩
  have Sf1 := Lib.hid hs9
  clear hs9
  have z8 := hk.size
  replace fR0 := kf hk nR0 fR0
  replace fR1 := kf hk nR1 fR1
  replace fR2 := kf hk nR2 fR2
  replace fR3 := kf hk nR3 fR3
  replace nB0 := kc hk nB0
  replace nB1 := kc hk nB1
  replace nB2 := kc hk nB2
  replace nB3 := kc hk nB3
  replace nR0 := kc hk nR0
  replace nR1 := kc hk nR1
  replace nR2 := kc hk nR2
  replace nR3 := kc hk nR3
  replace H1 := Lib.hid (H1.out.kept0 hk)
  replace H2 := Lib.hid (H2.out.kept0 hk)
  replace H3 := Lib.hid (H3.out.kept0 hk)
  replace H4 := Lib.hid (H4.out.kept0 hk)
  replace LOW := Lib.hid (LOW.out.kept0 hk)
  replace HIGH := Lib.hid (HIGH.out.kept0 hk)
  replace nE0 := kc hk nE0
  replace nE1 := kc hk nE1
  replace nE2 := kc hk nE2
  replace nE3 := kc hk nE3
  replace nN00 := kc hk nN00
  replace nN01 := kc hk nN01
  replace SN0 := Lib.hid (SN0.out.kept0 hk)
  replace nK00 := kc hk nK00
  replace nK01 := kc hk nK01
  replace nK02 := kc hk nK02
  replace nK03 := kc hk nK03
  replace nY10 := kc hk nY10
  replace nY11 := kc hk nY11
  replace KT := Lib.hid (KT.out.trans0 hk)
  clear hk
  have NSSf1 := Lib.hid (show 0 < (mag f1_).length → ∀ x, bf1 = some x → x.block ≠ ww0.heap.size ∧ x.block ≠ ww1.heap.size from fun hn x hx => by have h9 := hf9 hn x hx; omega)
  clear hf9 lL lH
  go_wp2_with (at_builtin; refine appB1 rfl _ _ rfl rfl (LOW.out.kept0 ((Kept.refl [] ww8).alloc _)) ww8.heap.size (isNeg f1_) bf1 (mag f1_).length cf1 rfl (by rw [World.cell?_alloc_new]; rfl) (by rw [World.cell?_alloc_new]; rfl) (by omega) ?_)
  intro gg1 cp1 ww9 ho hk9 hg
  (try simp only [List.nil_append] at ho)
  (try simp only [List.cons_append, List.nil_append] at ho)
  (try simp only [World.size_alloc] at hg)
  have hk : Kept [ww0.heap.size] ww8 ww9 := (Kept.alloc (Kept.refl [ww0.heap.size] ww8) _).trans hk9 (fun x hx _ => hx)
  have z9 := hk.size
  clear hk9
  have HO := Lib.hid ho
  clear ho
  have MBE := Lib.hid (show ww2.heap.size ≠ gg1 ∧ ww2.heap.size ≠ ww1.heap.size from ⟨by rcases hg with e | hg; (rw [e]; exact NBE.out.1); (have h9 := cell_lt nE0.out; omega), by exact NBE.out.2⟩)
  have MBN0 := Lib.hid (show gN0 ≠ gg1 ∧ gN0 ≠ ww1.heap.size from ⟨by rcases hg with e | hg; (rw [e]; exact NBN0.out.1); (have h9 := cell_lt nN00.out; omega), by exact NBN0.out.2⟩)
  have MBK0 := Lib.hid (show ww5.heap.size ≠ gg1 ∧ ww5.heap.size ≠ ww1.heap.size from ⟨by rcases hg with e | hg; (rw [e]; exact NBK0.out.1); (have h9 := cell_lt nK00.out; omega), by exact NBK0.out.2⟩)
  have MBY1 := Lib.hid (show ww6.heap.size ≠ gg1 ∧ ww6.heap.size ≠ ww1.heap.size from ⟨by rcases hg with e | hg; (rw [e]; exact NBY1.out.1); (have h9 := cell_lt nY10.out; omega), by exact NBY1.out.2⟩)
  have MSSN0 := Lib.hid (show 0 < (mag u1).length → ∀ x, aN0 = some x → x.block ≠ gg1 ∧ x.block ≠ ww1.heap.size from fun hn x hx => ⟨by rcases hg with e | hg; (rw [e]; exact (NSSN0.out hn x hx).1); (have h9 := SN0.out.lt hn x hx; omega), by exact (NSSN0.out hn x hx).2⟩)
  have MSSf1 := Lib.hid (show 0 < (mag f1_).length → ∀ x, bf1 = some x → x.block ≠ gg1 ∧ x.block ≠ ww1.heap.size from fun hn x hx => ⟨by rcases hg with e | hg; (rw [e]; exact (NSSf1.out hn x hx).1); (have h9 := Sf1.out.lt hn x hx; omega), by exact (NSSf1.out hn x hx).2⟩)
  have MG := Lib.hid (show gg1 ≠ ww1.heap.size from by rcases hg with e | hg; (rw [e]; exact GLH.out); (have h9 := HIGH.out.lt; omega))
  replace fR0 := kg hk nR0 fR0 (by simp; omega)
  replace fR1 := kg hk nR1 fR1 (by simp; omega)
  replace fR2 := kg hk nR2 fR2 (by simp; omega)
  replace fR3 := kg hk nR3 fR3 (by simp; omega)
  replace nB0 := kd hk nB0 (by simp; omega)
  replace nB1 := kd hk nB1 (by simp; omega)
  replace nB2 := kd hk nB2 (by simp; omega)
  replace nB3 := kd hk nB3 (by simp; omega)
  replace nR0 := kd hk nR0 (by simp; omega)
  replace nR1 := kd hk nR1 (by simp; omega)
  replace nR2 := kd hk nR2 (by simp; omega)
  replace nR3 := kd hk nR3 (by simp; omega)
  replace H1 := Lib.hid (H1.out.kept hk (fun hn y hy hm => by have h9 := F1.out hn y hy; simp at hm; omega))
  replace H2 := Lib.hid (H2.out.kept hk (fun hn y hy hm => by have h9 := F2.out hn y hy; simp at hm; omega))
  replace H3 := Lib.hid (H3.out.kept hk (fun hn y hy hm => by have h9 := F3.out hn y hy; simp at hm; omega))
  replace H4 := Lib.hid (H4.out.kept hk (fun hn y hy hm => by have h9 := F4.out hn y hy; simp at hm; omega))
  replace HIGH := Lib.hid (HIGH.out.kept hk (fun hm => GLH.out (by simp at hm; exact hm.symm)))
  replace nE0 := Lib.hid (hk.cell (p := ⟨ww2.heap.size, 0, none⟩) nE0.out (fun hm => NBE.out.1 (by simpa using hm)))
  replace nE1 := Lib.hid (hk.cell (p := ⟨ww2.heap.size, 1, none⟩) nE1.out (fun hm => NBE.out.1 (by simpa using hm)))
  replace nE2 := Lib.hid (hk.cell (p := ⟨ww2.heap.size, 2, none⟩) nE2.out (fun hm => NBE.out.1 (by simpa using hm)))
  replace nE3 := Lib.hid (hk.cell (p := ⟨ww2.heap.size, 3, none⟩) nE3.out (fun hm => NBE.out.1 (by simpa using hm)))
  replace nN00 := Lib.hid (hk.cell (p := ⟨gN0, 0, none⟩) nN00.out (fun hm => NBN0.out.1 (by simpa using hm)))
  replace nN01 := Lib.hid (hk.cell (p := ⟨gN0, 1, none⟩) nN01.out (fun hm => NBN0.out.1 (by simpa using hm)))
  replace SN0 := Lib.hid (SN0.out.kept hk (fun hn y hy hm => (NSSN0.out hn y hy).1 (by simpa using hm)))
  replace nK00 := Lib.hid (hk.cell (p := ⟨ww5.heap.size, 0, none⟩) nK00.out (fun hm => NBK0.out.1 (by simpa using hm)))
  replace nK01 := Lib.hid (hk.cell (p := ⟨ww5.heap.size, 1, none⟩) nK01.out (fun hm => NBK0.out.1 (by simpa using hm)))
  replace nK02 := Lib.hid (hk.cell (p := ⟨ww5.heap.size, 2, none⟩) nK02.out (fun hm => NBK0.out.1 (by simpa using hm)))
  replace nK03 := Lib.hid (hk.cell (p := ⟨ww5.heap.size, 3, none⟩) nK03.out (fun hm => NBK0.out.1 (by simpa using hm)))
  replace nY10 := Lib.hid (hk.cell (p := ⟨ww6.heap.size, 0, none⟩) nY10.out (fun hm => NBY1.out.1 (by simpa using hm)))
  replace nY11 := Lib.hid (hk.cell (p := ⟨ww6.heap.size, 1, none⟩) nY11.out (fun hm => NBY1.out.1 (by simpa using hm)))
  replace Sf1 := Lib.hid (Sf1.out.kept hk (fun hn y hy hm => (NSSf1.out hn y hy).1 (by simpa using hm)))
  replace KT := Lib.hid (KT.out.trans hk (fun x hx hlt => by simp at hx; omega))
  have zg1 : ww0.heap.size ≤ gg1 := by rcases hg with e | hg; (rw [e]; omega); omega
  clear hk hg LOW GLH NBE NBN0 NBK0 NBY1 NSSN0 NSSf1
  have LOW := HO
  have GLH := MG
  have NBE := MBE
  have NBN0 := MBN0
  have NBK0 := MBK0
  have NBY1 := MBY1
  have NSSN0 := MSSN0
  have NSSf1 := MSSf1
  clear HO MG MBE MBN0 MBK0 MBY1 MSSN0 MSSf1
  have tN00 := nN00.out
  have tN01 := nN01.out
  have tY10 := nY10.out
  have tY11 := nY11.out
  go_wp2_with fail
  clear tN00 tN01 tY10 tY11
  have lL := LOW.out.lt
  have lH := HIGH.out.lt
  refine (l2Ceil_z _ _ _ _ _ _ _ _ _ _ _ _ SN0.out H3.out HOu1.out Y3.out Z3.out Hh1.out).mono ?_
  rintro e ww10 ⟨bh1, ch1, rfl, hs9, hf9, hk⟩
  have Sh1 := Lib.hid hs9
  clear hs9
  have z10 := hk.size
  replace fR0 := kf hk nR0 fR0
  replace fR1 := kf hk nR1 fR1
  replace fR2 := kf hk nR2 fR2
  replace fR3 := kf hk nR3 fR3
  replace nB0 := kc hk nB0
  replace nB1 := kc hk nB1
  replace nB2 := kc hk nB2
  replace nB3 := kc hk nB3
  replace nR0 := kc hk nR0
  replace nR1 := kc hk nR1
  replace nR2 := kc hk nR2
  replace nR3 := kc hk nR3
  replace H1 := Lib.hid (H1.out.kept0 hk)
  replace H2 := Lib.hid (H2.out.kept0 hk)
  replace H3 := Lib.hid (H3.out.kept0 hk)
  replace H4 := Lib.hid (H4.out.kept0 hk)
  replace LOW := Lib.hid (LOW.out.kept0 hk)
  replace HIGH := Lib.hid (HIGH.out.kept0 hk)
  replace nE0 := kc hk nE0
  replace nE1 := kc hk nE1
  replace nE2 := kc hk nE2
  replace nE3 := kc hk nE3
  replace nN00 := kc hk nN00
  replace nN01 := kc hk nN01
  replace SN0 := Lib.hid (SN0.out.kept0 hk)
  replace nK00 := kc hk nK00
  replace nK01 := kc hk nK01
  replace nK02 := kc hk nK02
  replace nK03 := kc hk nK03
  replace nY10 := kc hk nY10
  replace nY11 := kc hk nY11
  replace Sf1 := Lib.hid (Sf1.out.kept0 hk)
  replace KT := Lib.hid (KT.out.trans0 hk)
  clear hk
  have NSSh1 := Lib.hid (show 0 < (mag h1_).length → ∀ x, bh1 = some x → x.block ≠ gg1 ∧ x.block ≠ ww1.heap.size from fun hn x hx => by have h9 := hf9 hn x hx; omega)
  clear hf9 lL lH
  go_wp2_with (at_builtin; refine appB1 rfl _ _ rfl rfl (HIGH.out.kept0 ((Kept.refl [] ww10).alloc _)) ww10.heap.size (isNeg h1_) bh1 (mag h1_).length ch1 rfl (by rw [World.cell?_alloc_new]; rfl) (by rw [World.cell?_alloc_new]; rfl) (by omega) ?_)
  intro gg2 cp2 ww11 ho hk9 hg
  (try simp only [List.nil_append] at ho)
  (try simp only [List.cons_append, List.nil_append] at ho)
  (try simp only [World.size_alloc] at hg)
  have hk : Kept [ww1.heap.size] ww10 ww11 := (Kept.alloc (Kept.refl [ww1.heap.size] ww10) _).trans hk9 (fun x hx _ => hx)
  have z11 := hk.size
  clear hk9
  have HO := Lib.hid ho
  clear ho
  have MBE := Lib.hid (show ww2.heap.size ≠ gg1 ∧ ww2.heap.size ≠ gg2 from ⟨by exact NBE.out.1, by rcases hg with e | hg; (rw [e]; exact NBE.out.2); (have h9 := cell_lt nE0.out; omega)⟩)
  have MBN0 := Lib.hid (show gN0 ≠ gg1 ∧ gN0 ≠ gg2 from ⟨by exact NBN0.out.1, by rcases hg with e | hg; (rw [e]; exact NBN0.out.2); (have h9 := cell_lt nN00.out; omega)⟩)
  have MBK0 := Lib.hid (show ww5.heap.size ≠ gg1 ∧ ww5.heap.size ≠ gg2 from ⟨by exact NBK0.out.1, by rcases hg with e | hg; (rw [e]; exact NBK0.out.2); (have h9 := cell_lt nK00.out; omega)⟩)
  have MBY1 := Lib.hid (show ww6.heap.size ≠ gg1 ∧ ww6.heap.size ≠ gg2 from ⟨by exact NBY1.out.1, by rcases hg with e | hg; (rw [e]; exact NBY1.out.2); (have h9 := cell_lt nY10.out; omega)⟩)
  have MSSN0 := Lib.hid (show 0 < (mag u1).length → ∀ x, aN0 = some x → x.block ≠ gg1 ∧ x.block ≠ gg2 from fun hn x hx => ⟨by exact (NSSN0.out hn x hx).1, by rcases hg with e | hg; (rw [e]; exact (NSSN0.out hn x hx).2); (have h9 := SN0.out.lt hn x hx; omega)⟩)
  have MSSf1 := Lib.hid (show 0 < (mag f1_).length → ∀ x, bf1 = some x → x.block ≠ gg1 ∧ x.block ≠ gg2 from fun hn x hx => ⟨by exact (NSSf1.out hn x hx).1, by rcases hg with e | hg; (rw [e]; exact (NSSf1.out hn x hx).2); (have h9 := Sf1.out.lt hn x hx; omega)⟩)
  have MSSh1 := Lib.hid (show 0 < (mag h1_).length → ∀ x, bh1 = some x → x.block ≠ gg1 ∧ x.block ≠ gg2 from fun hn x hx => ⟨by exact (NSSh1.out hn x hx).1, by rcases hg with e | hg; (rw [e]; exact (NSSh1.out hn x hx).2); (have h9 := Sh1.out.lt hn x hx; omega)⟩)
  have MG := Lib.hid (show gg1 ≠ gg2 from by rcases hg with e | hg; (rw [e]; exact GLH.out); (have h9 := LOW.out.lt; omega))
  replace fR0 := kg hk nR0 fR0 (by simp; omega)
  replace fR1 := kg hk nR1 fR1 (by simp; omega)
  replace fR2 := kg hk nR2 fR2 (by simp; omega)
  replace fR3 := kg hk nR3 fR3 (by simp; omega)
  replace nB0 := kd hk nB0 (by simp; omega)
  replace nB1 := kd hk nB1 (by simp; omega)
  replace nB2 := kd hk nB2 (by simp; omega)
  replace nB3 := kd hk nB3 (by simp; omega)
  replace nR0 := kd hk nR0 (by simp; omega)
  replace nR1 := kd hk nR1 (by simp; omega)
  replace nR2 := kd hk nR2 (by simp; omega)
  replace nR3 := kd hk nR3 (by simp; omega)
  replace H1 := Lib.hid (H1.out.kept hk (fun hn y hy hm => by have h9 := F1.out hn y hy; simp at hm; omega))
  replace H2 := Lib.hid (H2.out.kept hk (fun hn y hy hm => by have h9 := F2.out hn y hy; simp at hm; omega))
  replace H3 := Lib.hid (H3.out.kept hk (fun hn y hy hm => by have h9 := F3.out hn y hy; simp at hm; omega))
  replace H4 := Lib.hid (H4.out.kept hk (fun hn y hy hm => by have h9 := F4.out hn y hy; simp at hm; omega))
  replace LOW := Lib.hid (LOW.out.kept hk (fun hm => GLH.out (by simp at hm; exact hm)))
  replace nE0 := Lib.hid (hk.cell (p := ⟨ww2.heap.size, 0, none⟩) nE0.out (fun hm => NBE.out.2 (by simpa using hm)))
  replace nE1 := Lib.hid (hk.cell (p := ⟨ww2.heap.size, 1, none⟩) nE1.out (fun hm => NBE.out.2 (by simpa using hm)))
  replace nE2 := Lib.hid (hk.cell (p := ⟨ww2.heap.size, 2, none⟩) nE2.out (fun hm => NBE.out.2 (by simpa using hm)))
  replace nE3 := Lib.hid (hk.cell (p := ⟨ww2.heap.size, 3, none⟩) nE3.out (fun hm => NBE.out.2 (by simpa using hm)))
  replace nN00 := Lib.hid (hk.cell (p := ⟨gN0, 0, none⟩) nN00.out (fun hm => NBN0.out.2 (by simpa using hm)))
  replace nN01 := Lib.hid (hk.cell (p := ⟨gN0, 1, none⟩) nN01.out (fun hm => NBN0.out.2 (by simpa using hm)))
  replace SN0 := Lib.hid (SN0.out.kept hk (fun hn y hy hm => (NSSN0.out hn y hy).2 (by simpa using hm)))
  replace nK00 := Lib.hid (hk.cell (p := ⟨ww5.heap.size, 0, none⟩) nK00.out (fun hm => NBK0.out.2 (by simpa using hm)))
  replace nK01 := Lib.hid (hk.cell (p := ⟨ww5.heap.size, 1, none⟩) nK01.out (fun hm => NBK0.out.2 (by simpa using hm)))
  replace nK02 := Lib.hid (hk.cell (p := ⟨ww5.heap.size, 2, none⟩) nK02.out (fun hm => NBK0.out.2 (by simpa using hm)))
  replace nK03 := Lib.hid (hk.cell (p := ⟨ww5.heap.size, 3, none⟩) nK03.out (fun hm => NBK0.out.2 (by simpa using hm)))
  replace nY10 := Lib.hid (hk.cell (p := ⟨ww6.heap.size, 0, none⟩) nY10.out (fun hm => NBY1.out.2 (by simpa using hm)))
  replace nY11 := Lib.hid (hk.cell (p := ⟨ww6.heap.size, 1, none⟩) nY11.out (fun hm => NBY1.out.2 (by simpa using hm)))
  replace Sf1 := Lib.hid (Sf1.out.kept hk (fun hn y hy hm => (NSSf1.out hn y hy).2 (by simpa using hm)))
  replace Sh1 := Lib.hid (Sh1.out.kept hk (fun hn y hy hm => (NSSh1.out hn y hy).2 (by simpa using hm)))
  replace KT := Lib.hid (KT.out.trans hk (fun x hx hlt => by simp at hx; omega))
  have zg2 : ww0.heap.size ≤ gg2 := by rcases hg with e | hg; (rw [e]; omega); omega
  clear hk hg HIGH GLH NBE NBN0 NBK0 NBY1 NSSN0 NSSf1 NSSh1
  have HIGH := HO
  have GLH := MG
  have NBE := MBE
  have NBN0 := MBN0
  have NBK0 := MBK0
  have NBY1 := MBY1
  have NSSN0 := MSSN0
  have NSSf1 := MSSf1
  have NSSh1 := MSSh1
  clear HO MG MBE MBN0 MBK0 MBY1 MSSN0 MSSf1 MSSh1
  go_wp2_with fail
  rw [rounds_succ]
  clear nY10 nY11
  clear NBY1
  have tK00 := nK00.out
  have tK01 := nK01.out
  have tK02 := nK02.out
  have tK03 := nK03.out
  go_upto_region 10 with fail
  clear tK00 tK01 tK02 tK03
  have lL := LOW.out.lt
  have lH := HIGH.out.lt
  generalize hW : (ww11.alloc (.cells #[.bool q', .slice b' m' d'] 28)) = ww12
  have hk : Kept [] ww11 ww12 := by rw [← hW]; exact (Kept.refl [] _).alloc _
  have zzY2 : ww11.heap.size + 1 = ww12.heap.size := by rw [← hW]; simp
  have nY20 := Lib.hid (show ww12.cell? ⟨ww11.heap.size, 0, none⟩ = some (.bool q') by rw [← hW, World.cell?_alloc_new]; rfl)
  have fY20 := Lib.hid (show ww12.frozen? ⟨ww11.heap.size, 0, none⟩ = false by rw [← hW]; exact frozen_of_row _ _ _ _ _ (heap_alloc_new _ _))
  have nY21 := Lib.hid (show ww12.cell? ⟨ww11.heap.size, 1, none⟩ = some (.slice b' m' d') by rw [← hW, World.cell?_alloc_new]; rfl)
  have fY21 := Lib.hid (show ww12.frozen? ⟨ww11.heap.size, 1, none⟩ = false by rw [← hW]; exact frozen_of_row _ _ _ _ _ (heap_alloc_new _ _))
  clear hW
  have z12 := hk.size
  replace fR0 := kf hk nR0 fR0
  replace fR1 := kf hk nR1 fR1
  replace fR2 := kf hk nR2 fR2
  replace fR3 := kf hk nR3 fR3
  replace nB0 := kc hk nB0
  replace nB1 := kc hk nB1
  replace nB2 := kc hk nB2
  replace nB3 := kc hk nB3
  replace nR0 := kc hk nR0
  replace nR1 := kc hk nR1
  replace nR2 := kc hk nR2
  replace nR3 := kc hk nR3
  replace H1 := Lib.hid (H1.out.kept0 hk)
  replace H2 := Lib.hid (H2.out.kept0 hk)
  replace H3 := Lib.hid (H3.out.kept0 hk)
  replace H4 := Lib.hid (H4.out.kept0 hk)
  replace LOW := Lib.hid (LOW.out.kept0 hk)
  replace HIGH := Lib.hid (HIGH.out.kept0 hk)
  replace nE0 := kc hk nE0
  replace nE1 := kc hk nE1
  replace nE2 := kc hk nE2
  replace nE3 := kc hk nE3
  replace nN00 := kc hk nN00
  replace nN01 := kc hk nN01
  replace SN0 := Lib.hid (SN0.out.kept0 hk)
  replace nK00 := kc hk nK00
  replace nK01 := kc hk nK01
  replace nK02 := kc hk nK02
  replace nK03 := kc hk nK03
  replace Sf1 := Lib.hid (Sf1.out.kept0 hk)
  replace Sh1 := Lib.hid (Sh1.out.kept0 hk)
  replace KT := Lib.hid (KT.out.trans0 hk)
  clear hk
  have NBY2 := Lib.hid (show ww11.heap.size ≠ gg1 ∧ ww11.heap.size ≠ gg2 from by omega)
  clear lL lH
  clear fY20
  clear fY21
  have tN00 := nN00.out
  have tN01 := nN01.out
  have tY20 := nY20.out
  have tY21 := nY21.out
  go_wp2_with fail
  clear tN00 tN01 tY20 tY21
  have lL := LOW.out.lt
  have lH := HIGH.out.lt
  refine (l2Floor_z _ _ _ _ _ _ _ _ _ _ _ _ SN0.out H4.out HOu1.out Y4.out Z4.out Hf2.out).mono ?_
  rintro e ww13 ⟨bf2, cf2, rfl, hs9, hf9, hk⟩
  have Sf2 := Lib.hid hs9
  clear hs9
  have z13 := hk.size
  replace fR0 := kf hk nR0 fR0
  replace fR1 := kf hk nR1 fR1
  replace fR2 := kf hk nR2 fR2
  replace fR3 := kf hk nR3 fR3
  replace nB0 := kc hk nB0
  replace nB1 := kc hk nB1
  replace nB2 := kc hk nB2
  replace nB3 := kc hk nB3
  replace nR0 := kc hk nR0
  replace nR1 := kc hk nR1
  replace nR2 := kc hk nR2
  replace nR3 := kc hk nR3
  replace H1 := Lib.hid (H1.out.kept0 hk)
  replace H2 := Lib.hid (H2.out.kept0 hk)
  replace H3 := Lib.hid (H3.out.kept0 hk)
  replace H4 := Lib.hid (H4.out.kept0 hk)
  replace LOW := Lib.hid (LOW.out.kept0 hk)
  replace HIGH := Lib.hid (HIGH.out.kept0 hk)
  replace nE0 := kc hk nE0
  replace nE1 := kc hk nE1
  replace nE2 := kc hk nE2
  replace nE3 := kc hk nE3
  replace nN00 := kc hk nN00
  replace nN01 := kc hk nN01
  replace SN0 := Lib.hid (SN0.out.kept0 hk)
  replace nK00 := kc hk nK00
  replace nK01 := kc hk nK01
  replace nK02 := kc hk nK02
  replace nK03 := kc hk nK03
  replace Sf1 := Lib.hid (Sf1.out.kept0 hk)
  replace Sh1 := Lib.hid (Sh1.out.kept0 hk)
  replace nY20 := kc hk nY20
  replace nY21 := kc hk nY21
  replace KT := Lib.hid (KT.out.trans0 hk)
  clear hk
  have NSSf2 := Lib.hid (show 0 < (mag f2_).length → ∀ x, bf2 = some x → x.block ≠ gg1 ∧ x.block ≠ gg2 from fun hn x hx => by have h9 := hf9 hn x hx; omega)
  clear hf9 lL lH
  go_wp2_with (at_builtin; refine appB1 rfl _ _ rfl rfl (LOW.out.kept0 ((Kept.refl [] ww13).alloc _)) ww13.heap.size (isNeg f2_) bf2 (mag f2_).length cf2 rfl (by rw [World.cell?_alloc_new]; rfl) (by rw [World.cell?_alloc_new]; rfl) (by omega) ?_)
  intro gg3 cp3 ww14 ho hk9 hg
  (try simp only [List.nil_append] at ho)
  (try simp only [List.cons_append, List.nil_append] at ho)
  (try simp only [World.size_alloc] at hg)
  have hk : Kept [gg1] ww13 ww14 := (Kept.alloc (Kept.refl [gg1] ww13) _).trans hk9 (fun x hx _ => hx)
  have z14 := hk.size
  clear hk9
  have HO := Lib.hid ho
  clear ho
  have MBE := Lib.hid (show ww2.heap.size ≠ gg3 ∧ ww2.heap.size ≠ gg2 from ⟨by rcases hg with e | hg; (rw [e]; exact NBE.out.1); (have h9 := cell_lt nE0.out; omega), by exact NBE.out.2⟩)
  have MBN0 := Lib.hid (show gN0 ≠ gg3 ∧ gN0 ≠ gg2 from ⟨by rcases hg with e | hg; (rw [e]; exact NBN0.out.1); (have h9 := cell_lt nN00.out; omega), by exact NBN0.out.2⟩)
  have MBK0 := Lib.hid (show ww5.heap.size ≠ gg3 ∧ ww5.heap.size ≠ gg2 from ⟨by rcases hg with e | hg; (rw [e]; exact NBK0.out.1); (have h9 := cell_lt nK00.out; omega), by exact NBK0.out.2⟩)
  have MBY2 := Lib.hid (show ww11.heap.size ≠ gg3 ∧ ww11.heap.size ≠ gg2 from ⟨by rcases hg with e | hg; (rw [e]; exact NBY2.out.1); (have h9 := cell_lt nY20.out; omega), by exact NBY2.out.2⟩)
  have MSSN0 := Lib.hid (show 0 < (mag u1).length → ∀ x, aN0 = some x → x.block ≠ gg3 ∧ x.block ≠ gg2 from fun hn x hx => ⟨by rcases hg with e | hg; (rw [e]; exact (NSSN0.out hn x hx).1); (have h9 := SN0.out.lt hn x hx; omega), by exact (NSSN0.out hn x hx).2⟩)
  have MSSf1 := Lib.hid (show 0 < (mag f1_).length → ∀ x, bf1 = some x → x.block ≠ gg3 ∧ x.block ≠ gg2 from fun hn x hx => ⟨by rcases hg with e | hg; (rw [e]; exact (NSSf1.out hn x hx).1); (have h9 := Sf1.out.lt hn x hx; omega), by exact (NSSf1.out hn x hx).2⟩)
  have MSSh1 := Lib.hid (show 0 < (mag h1_).length → ∀ x, bh1 = some x → x.block ≠ gg3 ∧ x.block ≠ gg2 from fun hn x hx => ⟨by rcases hg with e | hg; (rw [e]; exact (NSSh1.out hn x hx).1); (have h9 := Sh1.out.lt hn x hx; omega), by exact (NSSh1.out hn x hx).2⟩)
  have MSSf2 := Lib.hid (show 0 < (mag f2_).length → ∀ x, bf2 = some x → x.block ≠ gg3 ∧ x.block ≠ gg2 from fun hn x hx => ⟨by rcases hg with e | hg; (rw [e]; exact (NSSf2.out hn x hx).1); (have h9 := Sf2.out.lt hn x hx; omega), by exact (NSSf2.out hn x hx).2⟩)
  have MG := Lib.hid (show gg3 ≠ gg2 from by rcases hg with e | hg; (rw [e]; exact GLH.out); (have h9 := HIGH.out.lt; omega))
  replace fR0 := kg hk nR0 fR0 (by simp; omega)
  replace fR1 := kg hk nR1 fR1 (by simp; omega)
  replace fR2 := kg hk nR2 fR2 (by simp; omega)
  replace fR3 := kg hk nR3 fR3 (by simp; omega)
  replace nB0 := kd hk nB0 (by simp; omega)
  replace nB1 := kd hk nB1 (by simp; omega)
  replace nB2 := kd hk nB2 (by simp; omega)
  replace nB3 := kd hk nB3 (by simp; omega)
  replace nR0 := kd hk nR0 (by simp; omega)
  replace nR1 := kd hk nR1 (by simp; omega)
  replace nR2 := kd hk nR2 (by simp; omega)
  replace nR3 := kd hk nR3 (by simp; omega)
  replace H1 := Lib.hid (H1.out.kept hk (fun hn y hy hm => by have h9 := F1.out hn y hy; simp at hm; omega))
  replace H2 := Lib.hid (H2.out.kept hk (fun hn y hy hm => by have h9 := F2.out hn y hy; simp at hm; omega))
  replace H3 := Lib.hid (H3.out.kept hk (fun hn y hy hm => by have h9 := F3.out hn y hy; simp at hm; omega))
  replace H4 := Lib.hid (H4.out.kept hk (fun hn y hy hm => by have h9 := F4.out hn y hy; simp at hm; omega))
  replace HIGH := Lib.hid (HIGH.out.kept hk (fun hm => GLH.out (by simp at hm; exact hm.symm)))
  replace nE0 := Lib.hid (hk.cell (p := ⟨ww2.heap.size, 0, none⟩) nE0.out (fun hm => NBE.out.1 (by simpa using hm)))
  replace nE1 := Lib.hid (hk.cell (p := ⟨ww2.heap.size, 1, none⟩) nE1.out (fun hm => NBE.out.1 (by simpa using hm)))
  replace nE2 := Lib.hid (hk.cell (p := ⟨ww2.heap.size, 2, none⟩) nE2.out (fun hm => NBE.out.1 (by simpa using hm)))
  replace nE3 := Lib.hid (hk.cell (p := ⟨ww2.heap.size, 3, none⟩) nE3.out (fun hm => NBE.out.1 (by simpa using hm)))
  replace nN00 := Lib.hid (hk.cell (p := ⟨gN0, 0, none⟩) nN00.out (fun hm => NBN0.out.1 (by simpa using hm)))
  replace nN01 := Lib.hid (hk.cell (p := ⟨gN0, 1, none⟩) nN01.out (fun hm => NBN0.out.1 (by simpa using hm)))
  replace SN0 := Lib.hid (SN0.out.kept hk (fun hn y hy hm => (NSSN0.out hn y hy).1 (by simpa using hm)))
  replace nK00 := Lib.hid (hk.cell (p := ⟨ww5.heap.size, 0, none⟩) nK00.out (fun hm => NBK0.out.1 (by simpa using hm)))
  replace nK01 := Lib.hid (hk.cell (p := ⟨ww5.heap.size, 1, none⟩) nK01.out (fun hm => NBK0.out.1 (by simpa using hm)))
  replace nK02 := Lib.hid (hk.cell (p := ⟨ww5.heap.size, 2, none⟩) nK02.out (fun hm => NBK0.out.1 (by simpa using hm)))
  replace nK03 := Lib.hid (hk.cell (p := ⟨ww5.heap.size, 3, none⟩) nK03.out (fun hm => NBK0.out.1 (by simpa using hm)))
  replace Sf1 := Lib.hid (Sf1.out.kept hk (fun hn y hy hm => (NSSf1.out hn y hy).1 (by simpa using hm)))
  replace Sh1 := Lib.hid (Sh1.out.kept hk (fun hn y hy hm => (NSSh1.out hn y hy).1 (by simpa using hm)))
  replace nY20 := Lib.hid (hk.cell (p := ⟨ww11.heap.size, 0, none⟩) nY20.out (fun hm => NBY2.out.1 (by simpa using hm)))
  replace nY21 := Lib.hid (hk.cell (p := ⟨ww11.heap.size, 1, none⟩) nY21.out (fun hm => NBY2.out.1 (by simpa using hm)))
  replace Sf2 := Lib.hid (Sf2.out.kept hk (fun hn y hy hm => (NSSf2.out hn y hy).1 (by simpa using hm)))
  replace KT := Lib.hid (KT.out.trans hk (fun x hx hlt => by simp at hx; omega))
  have zg3 : ww0.heap.size ≤ gg3 := by rcases hg with e | hg; (rw [e]; omega); omega
  clear hk hg LOW GLH NBE NBN0 NBK0 NBY2 NSSN0 NSSf1 NSSh1 NSSf2
  have LOW := HO
  have GLH := MG
  have NBE := MBE
  have NBN0 := MBN0
  have NBK0 := MBK0
  have NBY2 := MBY2
  have NSSN0 := MSSN0
  have NSSf1 := MSSf1
  have NSSh1 := MSSh1
  have NSSf2 := MSSf2
  clear HO MG MBE MBN0 MBK0 MBY2 MSSN0 MSSf1 MSSh1 MSSf2
  have tN00 := nN00.out
  have tN01 := nN01.out
  have tY20 := nY20.out
  have tY21 := nY21.out
  go_wp2_with fail
  clear tN00 tN01 tY20 tY21
  have lL := LOW.out.lt
  have lH := HIGH.out.lt
  refine (l2Ceil_z _ _ _ _ _ _ _ _ _ _ _ _ SN0.out H4.out HOu1.out Y4.out Z4.out Hh2.out).mono ?_
  rintro e ww15 ⟨bh2, ch2, rfl, hs9, hf9, hk⟩
  have Sh2 := Lib.hid hs9
  clear hs9
  have z15 := hk.size
  replace fR0 := kf hk nR0 fR0
  replace fR1 := kf hk nR1 fR1
  replace fR2 := kf hk nR2 fR2
  replace fR3 := kf hk nR3 fR3
  replace nB0 := kc hk nB0
  replace nB1 := kc hk nB1
  replace nB2 := kc hk nB2
  replace nB3 := kc hk nB3
  replace nR0 := kc hk nR0
  replace nR1 := kc hk nR1
  replace nR2 := kc hk nR2
  replace nR3 := kc hk nR3
  replace H1 := Lib.hid (H1.out.kept0 hk)
  replace H2 := Lib.hid (H2.out.kept0 hk)
  replace H3 := Lib.hid (H3.out.kept0 hk)
  replace H4 := Lib.hid (H4.out.kept0 hk)
  replace LOW := Lib.hid (LOW.out.kept0 hk)
  replace HIGH := Lib.hid (HIGH.out.kept0 hk)
  replace nE0 := kc hk nE0
  replace nE1 := kc hk nE1
  replace nE2 := kc hk nE2
  replace nE3 := kc hk nE3
  replace nN00 := kc hk nN00
  replace nN01 := kc hk nN01
  replace SN0 := Lib.hid (SN0.out.kept0 hk)
  replace nK00 := kc hk nK00
  replace nK01 := kc hk nK01
  replace nK02 := kc hk nK02
  replace nK03 := kc hk nK03
  replace Sf1 := Lib.hid (Sf1.out.kept0 hk)
  replace Sh1 := Lib.hid (Sh1.out.kept0 hk)
  replace nY20 := kc hk nY20
  replace nY21 := kc hk nY21
  replace Sf2 := Lib.hid (Sf2.out.kept0 hk)
  replace KT := Lib.hid (KT.out.trans0 hk)
  clear hk
  have NSSh2 := Lib.hid (show 0 < (mag h2_).length → ∀ x, bh2 = some x → x.block ≠ gg3 ∧ x.block ≠ gg2 from fun hn x hx => by have h9 := hf9 hn x hx; omega)
  clear hf9 lL lH
  go_wp2_with (at_builtin; refine appB1 rfl _ _ rfl rfl (HIGH.out.kept0 ((Kept.refl [] ww15).alloc _)) ww15.heap.size (isNeg h2_) bh2 (mag h2_).length ch2 rfl (by rw [World.cell?_alloc_new]; rfl) (by rw [World.cell?_alloc_new]; rfl) (by omega) ?_)
  intro gg4 cp4 ww16 ho hk9 hg
  (try simp only [List.nil_append] at ho)
  (try simp only [List.cons_append, List.nil_append] at ho)
  (try simp only [World.size_alloc] at hg)
  have hk : Kept [gg2] ww15 ww16 := (Kept.alloc (Kept.refl [gg2] ww15) _).trans hk9 (fun x hx _ => hx)
  have z16 := hk.size
  clear hk9
  have HO := Lib.hid ho
  clear ho
  have MBE := Lib.hid (show ww2.heap.size ≠ gg3 ∧ ww2.heap.size ≠ gg4 from ⟨by exact NBE.out.1, by rcases hg with e | hg; (rw [e]; exact NBE.out.2); (have h9 := cell_lt nE0.out; omega)⟩)
  have MBN0 := Lib.hid (show gN0 ≠ gg3 ∧ gN0 ≠ gg4 from ⟨by exact NBN0.out.1, by rcases hg with e | hg; (rw [e]; exact NBN0.out.2); (have h9 := cell_lt nN00.out; omega)⟩)
  have MBK0 := Lib.hid (show ww5.heap.size ≠ gg3 ∧ ww5.heap.size ≠ gg4 from ⟨by exact NBK0.out.1, by rcases hg with e | hg; (rw [e]; exact NBK0.out.2); (have h9 := cell_lt nK00.out; omega)⟩)
  have MBY2 := Lib.hid (show ww11.heap.size ≠ gg3 ∧ ww11.heap.size ≠ gg4 from ⟨by exact NBY2.out.1, by rcases hg with e | hg; (rw [e]; exact NBY2.out.2); (have h9 := cell_lt nY20.out; omega)⟩)
  have MSSN0 := Lib.hid (show 0 < (mag u1).length → ∀ x, aN0 = some x → x.block ≠ gg3 ∧ x.block ≠ gg4 from fun hn x hx => ⟨by exact (NSSN0.out hn x hx).1, by rcases hg with e | hg; (rw [e]; exact (NSSN0.out hn x hx).2); (have h9 := SN0.out.lt hn x hx; omega)⟩)
  have MSSf1 := Lib.hid (show 0 < (mag f1_).length → ∀ x, bf1 = some x → x.block ≠ gg3 ∧ x.block ≠ gg4 from fun hn x hx => ⟨by exact (NSSf1.out hn x hx).1, by rcases hg with e | hg; (rw [e]; exact (NSSf1.out hn x hx).2); (have h9 := Sf1.out.lt hn x hx; omega)⟩)
  have MSSh1 := Lib.hid (show 0 < (mag h1_).length → ∀ x, bh1 = some x → x.block ≠ gg3 ∧ x.block ≠ gg4 from fun hn x hx => ⟨by exact (NSSh1.out hn x hx).1, by rcases hg with e | hg; (rw [e]; exact (NSSh1.out hn x hx).2); (have h9 := Sh1.out.lt hn x hx; omega)⟩)
  have MSSf2 := Lib.hid (show 0 < (mag f2_).length → ∀ x, bf2 = some x → x.block ≠ gg3 ∧ x.block ≠ gg4 from fun hn x hx => ⟨by exact (NSSf2.out hn x hx).1, by rcases hg with e | hg; (rw [e]; exact (NSSf2.out hn x hx).2); (have h9 := Sf2.out.lt hn x hx; omega)⟩)
  have MSSh2 := Lib.hid (show 0 < (mag h2_).length → ∀ x, bh2 = some x → x.block ≠ gg3 ∧ x.block ≠ gg4 from fun hn x hx => ⟨by exact (NSSh2.out hn x hx).1, by rcases hg with e | hg; (rw [e]; exact (NSSh2.out hn x hx).2); (have h9 := Sh2.out.lt hn x hx; omega)⟩)
  have MG := Lib.hid (show gg3 ≠ gg4 from by rcases hg with e | hg; (rw [e]; exact GLH.out); (have h9 := LOW.out.lt; omega))
  replace fR0 := kg hk nR0 fR0 (by simp; omega)
  replace fR1 := kg hk nR1 fR1 (by simp; omega)
  replace fR2 := kg hk nR2 fR2 (by simp; omega)
  replace fR3 := kg hk nR3 fR3 (by simp; omega)
  replace nB0 := kd hk nB0 (by simp; omega)
  replace nB1 := kd hk nB1 (by simp; omega)
  replace nB2 := kd hk nB2 (by simp; omega)
  replace nB3 := kd hk nB3 (by simp; omega)
  replace nR0 := kd hk nR0 (by simp; omega)
  replace nR1 := kd hk nR1 (by simp; omega)
  replace nR2 := kd hk nR2 (by simp; omega)
  replace nR3 := kd hk nR3 (by simp; omega)
  replace H1 := Lib.hid (H1.out.kept hk (fun hn y hy hm => by have h9 := F1.out hn y hy; simp at hm; omega))
  replace H2 := Lib.hid (H2.out.kept hk (fun hn y hy hm => by have h9 := F2.out hn y hy; simp at hm; omega))
  replace H3 := Lib.hid (H3.out.kept hk (fun hn y hy hm => by have h9 := F3.out hn y hy; simp at hm; omega))
  replace H4 := Lib.hid (H4.out.kept hk (fun hn y hy hm => by have h9 := F4.out hn y hy; simp at hm; omega))
  replace LOW := Lib.hid (LOW.out.kept hk (fun hm => GLH.out (by simp at hm; exact hm)))
  replace nE0 := Lib.hid (hk.cell (p := ⟨ww2.heap.size, 0, none⟩) nE0.out (fun hm => NBE.out.2 (by simpa using hm)))
  replace nE1 := Lib.hid (hk.cell (p := ⟨ww2.heap.size, 1, none⟩) nE1.out (fun hm => NBE.out.2 (by simpa using hm)))
  replace nE2 := Lib.hid (hk.cell (p := ⟨ww2.heap.size, 2, none⟩) nE2.out (fun hm => NBE.out.2 (by simpa using hm)))
  replace nE3 := Lib.hid (hk.cell (p := ⟨ww2.heap.size, 3, none⟩) nE3.out (fun hm => NBE.out.2 (by simpa using hm)))
  replace nN00 := Lib.hid (hk.cell (p := ⟨gN0, 0, none⟩) nN00.out (fun hm => NBN0.out.2 (by simpa using hm)))
  replace nN01 := Lib.hid (hk.cell (p := ⟨gN0, 1, none⟩) nN01.out (fun hm => NBN0.out.2 (by simpa using hm)))
  replace SN0 := Lib.hid (SN0.out.kept hk (fun hn y hy hm => (NSSN0.out hn y hy).2 (by simpa using hm)))
  replace nK00 := Lib.hid (hk.cell (p := ⟨ww5.heap.size, 0, none⟩) nK00.out (fun hm => NBK0.out.2 (by simpa using hm)))
  replace nK01 := Lib.hid (hk.cell (p := ⟨ww5.heap.size, 1, none⟩) nK01.out (fun hm => NBK0.out.2 (by simpa using hm)))
  replace nK02 := Lib.hid (hk.cell (p := ⟨ww5.heap.size, 2, none⟩) nK02.out (fun hm => NBK0.out.2 (by simpa using hm)))
  replace nK03 := Lib.hid (hk.cell (p := ⟨ww5.heap.size, 3, none⟩) nK03.out (fun hm => NBK0.out.2 (by simpa using hm)))
  replace Sf1 := Lib.hid (Sf1.out.kept hk (fun hn y hy hm => (NSSf1.out hn y hy).2 (by simpa using hm)))
  replace Sh1 := Lib.hid (Sh1.out.kept hk (fun hn y hy hm => (NSSh1.out hn y hy).2 (by simpa using hm)))
  replace nY20 := Lib.hid (hk.cell (p := ⟨ww11.heap.size, 0, none⟩) nY20.out (fun hm => NBY2.out.2 (by simpa using hm)))
  replace nY21 := Lib.hid (hk.cell (p := ⟨ww11.heap.size, 1, none⟩) nY21.out (fun hm => NBY2.out.2 (by simpa using hm)))
  replace Sf2 := Lib.hid (Sf2.out.kept hk (fun hn y hy hm => (NSSf2.out hn y hy).2 (by simpa using hm)))
  replace Sh2 := Lib.hid (Sh2.out.kept hk (fun hn y hy hm => (NSSh2.out hn y hy).2 (by simpa using hm)))
  replace KT := Lib.hid (KT.out.trans hk (fun x hx hlt => by simp at hx; omega))
  have zg4 : ww0.heap.size ≤ gg4 := by rcases hg with e | hg; (rw [e]; omega); omega
  clear hk hg HIGH GLH NBE NBN0 NBK0 NBY2 NSSN0 NSSf1 NSSh1 NSSf2 NSSh2
  have HIGH := HO
  have GLH := MG
  have NBE := MBE
  have NBN0 := MBN0
  have NBK0 := MBK0
  have NBY2 := MBY2
  have NSSN0 := MSSN0
  have NSSf1 := MSSf1
  have NSSh1 := MSSh1
  have NSSf2 := MSSf2
  have NSSh2 := MSSh2
  clear HO MG MBE MBN0 MBK0 MBY2 MSSN0 MSSf1 MSSh1 MSSf2 MSSh2
  go_wp2_with fail
  rw [rounds_succ]
  clear nY20 nY21
  clear NBY2
  go_wp2_with fail
  rw [rounds_succ]
  clear nN00 nN01
  clear NBN0
  clear SN0
  clear NSSN0
  clear nK00 nK01 nK02 nK03
  clear NBK0
  have tE0 := nE0.out
  have tE1 := nE1.out
  have tE2 := nE2.out
  have tE3 := nE3.out
  go_upto_region 6 with fail
  clear tE0 tE1 tE2 tE3
  have lL := LOW.out.lt
  have lH := HIGH.out.lt
  generalize hW : (ww16.alloc (.cells #[.bool q, .slice b m d] 28)) = ww17
  have hk : Kept [] ww16 ww17 := by rw [← hW]; exact (Kept.refl [] _).alloc _
  have zzX1 : ww16.heap.size + 1 = ww17.heap.size := by rw [← hW]; simp
  have nX10 := Lib.hid (show ww17.cell? ⟨ww16.heap.size, 0, none⟩ = some (.bool q) by rw [← hW, World.cell?_alloc_new]; rfl)
  have fX10 := Lib.hid (show ww17.frozen? ⟨ww16.heap.size, 0, none⟩ = false by rw [← hW]; exact frozen_of_row _ _ _ _ _ (heap_alloc_new _ _))
  have nX11 := Lib.hid (show ww17.cell? ⟨ww16.heap.size, 1, none⟩ = some (.slice b m d) by rw [← hW, World.cell?_alloc_new]; rfl)
  have fX11 := Lib.hid (show ww17.frozen? ⟨ww16.heap.size, 1, none⟩ = false by rw [← hW]; exact frozen_of_row _ _ _ _ _ (heap_alloc_new _ _))
  clear hW
  have z17 := hk.size
  replace fR0 := kf hk nR0 fR0
  replace fR1 := kf hk nR1 fR1
  replace fR2 := kf hk nR2 fR2
  replace fR3 := kf hk nR3 fR3
  replace nB0 := kc hk nB0
  replace nB1 := kc hk nB1
  replace nB2 := kc hk nB2
  replace nB3 := kc hk nB3
  replace nR0 := kc hk nR0
  replace nR1 := kc hk nR1
  replace nR2 := kc hk nR2
  replace nR3 := kc hk nR3
  replace H1 := Lib.hid (H1.out.kept0 hk)
  replace H2 := Lib.hid (H2.out.kept0 hk)
  replace H3 := Lib.hid (H3.out.kept0 hk)
  replace H4 := Lib.hid (H4.out.kept0 hk)
  replace LOW := Lib.hid (LOW.out.kept0 hk)
  replace HIGH := Lib.hid (HIGH.out.kept0 hk)
  replace nE0 := kc hk nE0
  replace nE1 := kc hk nE1
  replace nE2 := kc hk nE2
  replace nE3 := kc hk nE3
  replace Sf1 := Lib.hid (Sf1.out.kept0 hk)
  replace Sh1 := Lib.hid (Sh1.out.kept0 hk)
  replace Sf2 := Lib.hid (Sf2.out.kept0 hk)
  replace Sh2 := Lib.hid (Sh2.out.kept0 hk)
  replace KT := Lib.hid (KT.out.trans0 hk)
  clear hk
  have NBX1 := Lib.hid (show ww16.heap.size ≠ gg3 ∧ ww16.heap.size ≠ gg4 from by omega)
  clear lL lH
  clear fX10
  clear fX11
  have tX10 := nX10.out
  have tX11 := nX11.out
  have kr := Lib.hid (Kept.refl [] ww17)
  go_cut [11, 22] (fun s i wx => i = .int .i64 1 ∧ Hid (BoxN ww17 u2 s wx))
  case first =>
    go_region_held3 (fun w' => w'.cell? ⟨ww16.heap.size, 0, none⟩ = some (.bool q) ∧ w'.cell? ⟨ww16.heap.size, 1, none⟩ = some (.slice b m d) ∧ Hid (Kept [] ww17 w'))
      ((go_split_ands; (try refine ⟨?_, ?_, ?_⟩) <;> with_reducible first | assumption | exact Kept.set2n (by assumption) (by omega) | exact cell_set2 (by assumption) (by (try dsimp only); omega) | exact drew_alloc_cell (by assumption) | exact drew_cell (by assumption) | exact alloc_cell (by assumption) | exact Lib.hid (Kept.trans0 (Hid.out (by assumption)) (by assumption)) | exact Kept.cell (by assumption) (by assumption) (by simp) | exact Kept.allocH (by assumption) | exact Kept.drewAllocH' (by assumption) | exact Kept.drewH' (by assumption)))
      (first
        | (go_at_call 44; go_split_ands; refine (l3Shift_any _ _ _ _ _ _ HP.out (H2.out.kept0 (Hid.out (by assumption))) HXu2.out ly).mono ?_; rintro e v1 ⟨v9, rfl, ho, hk1⟩; rw [← HVu2.out, ← HMu2.out] at ho; obtain ⟨a9, c9, rfl, hs9, hf9⟩ := ho.sl; have zk1 := hk1.size; (try simp only [World.size_drew] at zk1 hf9); (try simp only [World.size_alloc] at zk1); (first | (obtain ⟨z0_, y0_, _⟩ := hk1.undrew.top (g := ww17.heap.size) rfl (by simp) 0 (v := .bool false) rfl; obtain ⟨z1_, y1_, _⟩ := hk1.undrew.top (g := ww17.heap.size) rfl (by simp) 1 (v := .slice none 0 0) rfl) | skip))
        | (go_at_call 43; go_split_ands; refine (l2Big_u _ _ _ _ v2_ u2 _ HVNu2.out HUUu2.out (by rw [HMu2.out])).mono ?_; rintro e v2 ⟨rfl, hk2⟩; have zk2 := hk2.size; (try simp only [World.size_alloc] at zk2); have sck := Lib.hid (Kept.trans0 (Hid.out (by assumption : Hid (Kept [] ww17 _))) hk2); have sc0 : v2.cell? ⟨ww16.heap.size, 0, none⟩ = some (.bool q) := hk2.cell (by assumption) (by simp); have sc1 : v2.cell? ⟨ww16.heap.size, 1, none⟩ = some (.slice b m d) := hk2.cell (by assumption) (by simp); have hs8 := (show Sl _ a9 (mag u2).length c9 (mag u2) by first | exact hs9 | exact hs9.kept0 ((Kept.refl [] _).alloc _)).kept0 hk2; (first | (obtain ⟨z0_, y0_, _⟩ := hk2.top (g := v1.heap.size) rfl (by simp) 0 (v := .bool false) rfl; obtain ⟨z1_, y1_, _⟩ := hk2.top (g := v1.heap.size) rfl (by simp) 1 (v := .slice none 0 0) rfl) | (replace y0_ := hk2.free' z0_ y0_ (by simp); replace y1_ := hk2.free' z1_ y1_ (by simp); replace z0_ := hk2.cell z0_ (by simp); replace z1_ := hk2.cell z1_ (by simp)) | skip)))
    all_goals
      go_wp2_with fail
      go_meet
      refine ⟨rfl, ?_⟩
      first | ((with_reducible refine Lib.hid (boxN_last ?_ hs8 hf9 sck)); omega) | ((with_reducible refine Lib.hid (boxN_set ?_ ?_ (hf9.mono ?_) hs8 z0_ z1_ sck)); omega; (intro hn x hx; have h1 := hf9 hn x hx; have h2 := hs9.lt hn x hx; (try simp only [World.size_alloc] at h1); omega); (try simp only [World.size_alloc]); omega)
  case rest =>
  obtain ⟨hi9, hc9⟩ := hcut
  have hc := hc9.out
  clear hc9 kr tX10 tX11
  subst hi9
  obtain ⟨gN1, aN1, cN1, rfl, e0, e1, hg1, hgl1, hs, hf, hk⟩ := hc
  obtain ⟨ww18, rfl⟩ : ∃ w' : World, w' = wc := ⟨_, rfl⟩
  have lL := LOW.out.lt
  have lH := HIGH.out.lt
  have SN1 := Lib.hid hs
  have hfN := hf
  clear hs hf
  have z18 := hk.size
  replace fR0 := kf hk nR0 fR0
  replace fR1 := kf hk nR1 fR1
  replace fR2 := kf hk nR2 fR2
  replace fR3 := kf hk nR3 fR3
  replace nB0 := kc hk nB0
  replace nB1 := kc hk nB1
  replace nB2 := kc hk nB2
  replace nB3 := kc hk nB3
  replace nR0 := kc hk nR0
  replace nR1 := kc hk nR1
  replace nR2 := kc hk nR2
  replace nR3 := kc hk nR3
  replace H1 := Lib.hid (H1.out.kept0 hk)
  replace H2 := Lib.hid (H2.out.kept0 hk)
  replace H3 := Lib.hid (H3.out.kept0 hk)
  replace H4 := Lib.hid (H4.out.kept0 hk)
  replace LOW := Lib.hid (LOW.out.kept0 hk)
  replace HIGH := Lib.hid (HIGH.out.kept0 hk)
  replace nE0 := kc hk nE0
  replace nE1 := kc hk nE1
  replace nE2 := kc hk nE2
  replace nE3 := kc hk nE3
  replace Sf1 := Lib.hid (Sf1.out.kept0 hk)
  replace Sh1 := Lib.hid (Sh1.out.kept0 hk)
  replace Sf2 := Lib.hid (Sf2.out.kept0 hk)
  replace Sh2 := Lib.hid (Sh2.out.kept0 hk)
  replace nX10 := kc hk nX10
  replace nX11 := kc hk nX11
  replace KT := Lib.hid (KT.out.trans0 hk)
  clear hk
  have nN10 := Lib.hid e0
  have nN11 := Lib.hid e1
  clear e0 e1
  have NBN1 := Lib.hid (show gN1 ≠ gg3 ∧ gN1 ≠ gg4 from by omega)
  have NSSN1 := Lib.hid (show 0 < (mag u2).length → ∀ x, aN1 = some x → x.block ≠ gg3 ∧ x.block ≠ gg4 from fun hn x hx => by have h9 := hfN hn x hx; omega)
  clear hfN lL lH
  clear nX10 nX11
  clear NBX1
  have tB0 := nB0.out
  have tB1 := nB1.out
  have tB2 := nB2.out
  have tB3 := nB3.out
  go_wp2_with fail
  clear tB0 tB1 tB2 tB3
  have lL := LOW.out.lt
  have lH := HIGH.out.lt
  generalize hW : (ww18.alloc (.cells #[.bool p', .slice a' n' c', .bool q', .slice b' m' d'] 28)) = ww19
  have hk : Kept [] ww18 ww19 := by rw [← hW]; exact (Kept.refl [] _).alloc _
  have zzK1 : ww18.heap.size + 1 = ww19.heap.size := by rw [← hW]; simp
  have nK10 := Lib.hid (show ww19.cell? ⟨ww18.heap.size, 0, none⟩ = some (.bool p') by rw [← hW, World.cell?_alloc_new]; rfl)
  have fK10 := Lib.hid (show ww19.frozen? ⟨ww18.heap.size, 0, none⟩ = false by rw [← hW]; exact frozen_of_row _ _ _ _ _ (heap_alloc_new _ _))
  have nK11 := Lib.hid (show ww19.cell? ⟨ww18.heap.size, 1, none⟩ = some (.slice a' n' c') by rw [← hW, World.cell?_alloc_new]; rfl)
  have fK11 := Lib.hid (show ww19.frozen? ⟨ww18.heap.size, 1, none⟩ = false by rw [← hW]; exact frozen_of_row _ _ _ _ _ (heap_alloc_new _ _))
  have nK12 := Lib.hid (show ww19.cell? ⟨ww18.heap.size, 2, none⟩ = some (.bool q') by rw [← hW, World.cell?_alloc_new]; rfl)
  have fK12 := Lib.hid (show ww19.frozen? ⟨ww18.heap.size, 2, none⟩ = false by rw [← hW]; exact frozen_of_row _ _ _ _ _ (heap_alloc_new _ _))
  have nK13 := Lib.hid (show ww19.cell? ⟨ww18.heap.size, 3, none⟩ = some (.slice b' m' d') by rw [← hW, World.cell?_alloc_new]; rfl)
  have fK13 := Lib.hid (show ww19.frozen? ⟨ww18.heap.size, 3, none⟩ = false by rw [← hW]; exact frozen_of_row _ _ _ _ _ (heap_alloc_new _ _))
  clear hW
  have z19 := hk.size
  replace fR0 := kf hk nR0 fR0
  replace fR1 := kf hk nR1 fR1
  replace fR2 := kf hk nR2 fR2
  replace fR3 := kf hk nR3 fR3
  replace nB0 := kc hk nB0
  replace nB1 := kc hk nB1
  replace nB2 := kc hk nB2
  replace nB3 := kc hk nB3
  replace nR0 := kc hk nR0
  replace nR1 := kc hk nR1
  replace nR2 := kc hk nR2
  replace nR3 := kc hk nR3
  replace H1 := Lib.hid (H1.out.kept0 hk)
  replace H2 := Lib.hid (H2.out.kept0 hk)
  replace H3 := Lib.hid (H3.out.kept0 hk)
  replace H4 := Lib.hid (H4.out.kept0 hk)
  replace LOW := Lib.hid (LOW.out.kept0 hk)
  replace HIGH := Lib.hid (HIGH.out.kept0 hk)
  replace nE0 := kc hk nE0
  replace nE1 := kc hk nE1
  replace nE2 := kc hk nE2
  replace nE3 := kc hk nE3
  replace Sf1 := Lib.hid (Sf1.out.kept0 hk)
  replace Sh1 := Lib.hid (Sh1.out.kept0 hk)
  replace Sf2 := Lib.hid (Sf2.out.kept0 hk)
  replace Sh2 := Lib.hid (Sh2.out.kept0 hk)
  replace nN10 := kc hk nN10
  replace nN11 := kc hk nN11
  replace SN1 := Lib.hid (SN1.out.kept0 hk)
  replace KT := Lib.hid (KT.out.trans0 hk)
  clear hk
  have NBK1 := Lib.hid (show ww18.heap.size ≠ gg3 ∧ ww18.heap.size ≠ gg4 from by omega)
  clear lL lH
  clear fK10
  clear fK11
  clear fK12
  clear fK13
  refine wp_loop_rounds 3 ?_
  rw [rounds_succ]
  have tK10 := nK10.out
  have tK11 := nK11.out
  have tK12 := nK12.out
  have tK13 := nK13.out
  go_upto_region 10 with fail
  clear tK10 tK11 tK12 tK13
  have lL := LOW.out.lt
  have lH := HIGH.out.lt
  generalize hW : (ww19.alloc (.cells #[.bool p', .slice a' n' c'] 28)) = ww20
  have hk : Kept [] ww19 ww20 := by rw [← hW]; exact (Kept.refl [] _).alloc _
  have zzY3 : ww19.heap.size + 1 = ww20.heap.size := by rw [← hW]; simp
  have nY30 := Lib.hid (show ww20.cell? ⟨ww19.heap.size, 0, none⟩ = some (.bool p') by rw [← hW, World.cell?_alloc_new]; rfl)
  have fY30 := Lib.hid (show ww20.frozen? ⟨ww19.heap.size, 0, none⟩ = false by rw [← hW]; exact frozen_of_row _ _ _ _ _ (heap_alloc_new _ _))
  have nY31 := Lib.hid (show ww20.cell? ⟨ww19.heap.size, 1, none⟩ = some (.slice a' n' c') by rw [← hW, World.cell?_alloc_new]; rfl)
  have fY31 := Lib.hid (show ww20.frozen? ⟨ww19.heap.size, 1, none⟩ = false by rw [← hW]; exact frozen_of_row _ _ _ _ _ (heap_alloc_new _ _))
  clear hW
  have z20 := hk.size
  replace fR0 := kf hk nR0 fR0
  replace fR1 := kf hk nR1 fR1
  replace fR2 := kf hk nR2 fR2
  replace fR3 := kf hk nR3 fR3
  replace nB0 := kc hk nB0
  replace nB1 := kc hk nB1
  replace nB2 := kc hk nB2
  replace nB3 := kc hk nB3
  replace nR0 := kc hk nR0
  replace nR1 := kc hk nR1
  replace nR2 := kc hk nR2
  replace nR3 := kc hk nR3
  replace H1 := Lib.hid (H1.out.kept0 hk)
  replace H2 := Lib.hid (H2.out.kept0 hk)
  replace H3 := Lib.hid (H3.out.kept0 hk)
  replace H4 := Lib.hid (H4.out.kept0 hk)
  replace LOW := Lib.hid (LOW.out.kept0 hk)
  replace HIGH := Lib.hid (HIGH.out.kept0 hk)
  replace nE0 := kc hk nE0
  replace nE1 := kc hk nE1
  replace nE2 := kc hk nE2
  replace nE3 := kc hk nE3
  replace Sf1 := Lib.hid (Sf1.out.kept0 hk)
  replace Sh1 := Lib.hid (Sh1.out.kept0 hk)
  replace Sf2 := Lib.hid (Sf2.out.kept0 hk)
  replace Sh2 := Lib.hid (Sh2.out.kept0 hk)
  replace nN10 := kc hk nN10
  replace nN11 := kc hk nN11
  replace SN1 := Lib.hid (SN1.out.kept0 hk)
  replace nK10 := kc hk nK10
  replace nK11 := kc hk nK11
  replace nK12 := kc hk nK12
  replace nK13 := kc hk nK13
  replace KT := Lib.hid (KT.out.trans0 hk)
  clear hk
  have NBY3 := Lib.hid (show ww19.heap.size ≠ gg3 ∧ ww19.heap.size ≠ gg4 from by omega)
  clear lL lH
  clear fY30
  clear fY31
  have tN10 := nN10.out
  have tN11 := nN11.out
  have tY30 := nY30.out
  have tY31 := nY31.out
  go_wp2_with fail
  clear tN10 tN11 tY30 tY31
  have lL := LOW.out.lt
  have lH := HIGH.out.lt
  refine (l2Floor_z _ _ _ _ _ _ _ _ _ _ _ _ SN1.out H3.out HOu2.out Y3.out Z3.out Hf3.out).mono ?_
  rintro e ww21 ⟨bf3, cf3, rfl, hs9, hf9, hk⟩
  have Sf3 := Lib.hid hs9
  clear hs9
  have z21 := hk.size
  replace fR0 := kf hk nR0 fR0
  replace fR1 := kf hk nR1 fR1
  replace fR2 := kf hk nR2 fR2
  replace fR3 := kf hk nR3 fR3
  replace nB0 := kc hk nB0
  replace nB1 := kc hk nB1
  replace nB2 := kc hk nB2
  replace nB3 := kc hk nB3
  replace nR0 := kc hk nR0
  replace nR1 := kc hk nR1
  replace nR2 := kc hk nR2
  replace nR3 := kc hk nR3
  replace H1 := Lib.hid (H1.out.kept0 hk)
  replace H2 := Lib.hid (H2.out.kept0 hk)
  replace H3 := Lib.hid (H3.out.kept0 hk)
  replace H4 := Lib.hid (H4.out.kept0 hk)
  replace LOW := Lib.hid (LOW.out.kept0 hk)
  replace HIGH := Lib.hid (HIGH.out.kept0 hk)
  replace nE0 := kc hk nE0
  replace nE1 := kc hk nE1
  replace nE2 := kc hk nE2
  replace nE3 := kc hk nE3
  replace Sf1 := Lib.hid (Sf1.out.kept0 hk)
  replace Sh1 := Lib.hid (Sh1.out.kept0 hk)
  replace Sf2 := Lib.hid (Sf2.out.kept0 hk)
  replace Sh2 := Lib.hid (Sh2.out.kept0 hk)
  replace nN10 := kc hk nN10
  replace nN11 := kc hk nN11
  replace SN1 := Lib.hid (SN1.out.kept0 hk)
  replace nK10 := kc hk nK10
  replace nK11 := kc hk nK11
  replace nK12 := kc hk nK12
  replace nK13 := kc hk nK13
  replace nY30 := kc hk nY30
  replace nY31 := kc hk nY31
  replace KT := Lib.hid (KT.out.trans0 hk)
  clear hk
  have NSSf3 := Lib.hid (show 0 < (mag f3_).length → ∀ x, bf3 = some x → x.block ≠ gg3 ∧ x.block ≠ gg4 from fun hn x hx => by have h9 := hf9 hn x hx; omega)
  clear hf9 lL lH
  go_wp2_with (at_builtin; refine appB1 rfl _ _ rfl rfl (LOW.out.kept0 ((Kept.refl [] ww21).alloc _)) ww21.heap.size (isNeg f3_) bf3 (mag f3_).length cf3 rfl (by rw [World.cell?_alloc_new]; rfl) (by rw [World.cell?_alloc_new]; rfl) (by omega) ?_)
  intro gg5 cp5 ww22 ho hk9 hg
  (try simp only [List.nil_append] at ho)
  (try simp only [List.cons_append, List.nil_append] at ho)
  (try simp only [World.size_alloc] at hg)
  have hk : Kept [gg3] ww21 ww22 := (Kept.alloc (Kept.refl [gg3] ww21) _).trans hk9 (fun x hx _ => hx)
  have z22 := hk.size
  clear hk9
  have HO := Lib.hid ho
  clear ho
  have MBE := Lib.hid (show ww2.heap.size ≠ gg5 ∧ ww2.heap.size ≠ gg4 from ⟨by rcases hg with e | hg; (rw [e]; exact NBE.out.1); (have h9 := cell_lt nE0.out; omega), by exact NBE.out.2⟩)
  have MBN1 := Lib.hid (show gN1 ≠ gg5 ∧ gN1 ≠ gg4 from ⟨by rcases hg with e | hg; (rw [e]; exact NBN1.out.1); (have h9 := cell_lt nN10.out; omega), by exact NBN1.out.2⟩)
  have MBK1 := Lib.hid (show ww18.heap.size ≠ gg5 ∧ ww18.heap.size ≠ gg4 from ⟨by rcases hg with e | hg; (rw [e]; exact NBK1.out.1); (have h9 := cell_lt nK10.out; omega), by exact NBK1.out.2⟩)
  have MBY3 := Lib.hid (show ww19.heap.size ≠ gg5 ∧ ww19.heap.size ≠ gg4 from ⟨by rcases hg with e | hg; (rw [e]; exact NBY3.out.1); (have h9 := cell_lt nY30.out; omega), by exact NBY3.out.2⟩)
  have MSSf1 := Lib.hid (show 0 < (mag f1_).length → ∀ x, bf1 = some x → x.block ≠ gg5 ∧ x.block ≠ gg4 from fun hn x hx => ⟨by rcases hg with e | hg; (rw [e]; exact (NSSf1.out hn x hx).1); (have h9 := Sf1.out.lt hn x hx; omega), by exact (NSSf1.out hn x hx).2⟩)
  have MSSh1 := Lib.hid (show 0 < (mag h1_).length → ∀ x, bh1 = some x → x.block ≠ gg5 ∧ x.block ≠ gg4 from fun hn x hx => ⟨by rcases hg with e | hg; (rw [e]; exact (NSSh1.out hn x hx).1); (have h9 := Sh1.out.lt hn x hx; omega), by exact (NSSh1.out hn x hx).2⟩)
  have MSSf2 := Lib.hid (show 0 < (mag f2_).length → ∀ x, bf2 = some x → x.block ≠ gg5 ∧ x.block ≠ gg4 from fun hn x hx => ⟨by rcases hg with e | hg; (rw [e]; exact (NSSf2.out hn x hx).1); (have h9 := Sf2.out.lt hn x hx; omega), by exact (NSSf2.out hn x hx).2⟩)
  have MSSh2 := Lib.hid (show 0 < (mag h2_).length → ∀ x, bh2 = some x → x.block ≠ gg5 ∧ x.block ≠ gg4 from fun hn x hx => ⟨by rcases hg with e | hg; (rw [e]; exact (NSSh2.out hn x hx).1); (have h9 := Sh2.out.lt hn x hx; omega), by exact (NSSh2.out hn x hx).2⟩)
  have MSSN1 := Lib.hid (show 0 < (mag u2).length → ∀ x, aN1 = some x → x.block ≠ gg5 ∧ x.block ≠ gg4 from fun hn x hx => ⟨by rcases hg with e | hg; (rw [e]; exact (NSSN1.out hn x hx).1); (have h9 := SN1.out.lt hn x hx; omega), by exact (NSSN1.out hn x hx).2⟩)
  have MSSf3 := Lib.hid (show 0 < (mag f3_).length → ∀ x, bf3 = some x → x.block ≠ gg5 ∧ x.block ≠ gg4 from fun hn x hx => ⟨by rcases hg with e | hg; (rw [e]; exact (NSSf3.out hn x hx).1); (have h9 := Sf3.out.lt hn x hx; omega), by exact (NSSf3.out hn x hx).2⟩)
  have MG := Lib.hid (show gg5 ≠ gg4 from by rcases hg with e | hg; (rw [e]; exact GLH.out); (have h9 := HIGH.out.lt; omega))
  replace fR0 := kg hk nR0 fR0 (by simp; omega)
  replace fR1 := kg hk nR1 fR1 (by simp; omega)
  replace fR2 := kg hk nR2 fR2 (by simp; omega)
  replace fR3 := kg hk nR3 fR3 (by simp; omega)
  replace nB0 := kd hk nB0 (by simp; omega)
  replace nB1 := kd hk nB1 (by simp; omega)
  replace nB2 := kd hk nB2 (by simp; omega)
  replace nB3 := kd hk nB3 (by simp; omega)
  replace nR0 := kd hk nR0 (by simp; omega)
  replace nR1 := kd hk nR1 (by simp; omega)
  replace nR2 := kd hk nR2 (by simp; omega)
  replace nR3 := kd hk nR3 (by simp; omega)
  replace H1 := Lib.hid (H1.out.kept hk (fun hn y hy hm => by have h9 := F1.out hn y hy; simp at hm; omega))
  replace H2 := Lib.hid (H2.out.kept hk (fun hn y hy hm => by have h9 := F2.out hn y hy; simp at hm; omega))
  replace H3 := Lib.hid (H3.out.kept hk (fun hn y hy hm => by have h9 := F3.out hn y hy; simp at hm; omega))
  replace H4 := Lib.hid (H4.out.kept hk (fun hn y hy hm => by have h9 := F4.out hn y hy; simp at hm; omega))
  replace HIGH := Lib.hid (HIGH.out.kept hk (fun hm => GLH.out (by simp at hm; exact hm.symm)))
  replace nE0 := Lib.hid (hk.cell (p := ⟨ww2.heap.size, 0, none⟩) nE0.out (fun hm => NBE.out.1 (by simpa using hm)))
  replace nE1 := Lib.hid (hk.cell (p := ⟨ww2.heap.size, 1, none⟩) nE1.out (fun hm => NBE.out.1 (by simpa using hm)))
  replace nE2 := Lib.hid (hk.cell (p := ⟨ww2.heap.size, 2, none⟩) nE2.out (fun hm => NBE.out.1 (by simpa using hm)))
  replace nE3 := Lib.hid (hk.cell (p := ⟨ww2.heap.size, 3, none⟩) nE3.out (fun hm => NBE.out.1 (by simpa using hm)))
  replace Sf1 := Lib.hid (Sf1.out.kept hk (fun hn y hy hm => (NSSf1.out hn y hy).1 (by simpa using hm)))
  replace Sh1 := Lib.hid (Sh1.out.kept hk (fun hn y hy hm => (NSSh1.out hn y hy).1 (by simpa using hm)))
  replace Sf2 := Lib.hid (Sf2.out.kept hk (fun hn y hy hm => (NSSf2.out hn y hy).1 (by simpa using hm)))
  replace Sh2 := Lib.hid (Sh2.out.kept hk (fun hn y hy hm => (NSSh2.out hn y hy).1 (by simpa using hm)))
  replace nN10 := Lib.hid (hk.cell (p := ⟨gN1, 0, none⟩) nN10.out (fun hm => NBN1.out.1 (by simpa using hm)))
  replace nN11 := Lib.hid (hk.cell (p := ⟨gN1, 1, none⟩) nN11.out (fun hm => NBN1.out.1 (by simpa using hm)))
  replace SN1 := Lib.hid (SN1.out.kept hk (fun hn y hy hm => (NSSN1.out hn y hy).1 (by simpa using hm)))
  replace nK10 := Lib.hid (hk.cell (p := ⟨ww18.heap.size, 0, none⟩) nK10.out (fun hm => NBK1.out.1 (by simpa using hm)))
  replace nK11 := Lib.hid (hk.cell (p := ⟨ww18.heap.size, 1, none⟩) nK11.out (fun hm => NBK1.out.1 (by simpa using hm)))
  replace nK12 := Lib.hid (hk.cell (p := ⟨ww18.heap.size, 2, none⟩) nK12.out (fun hm => NBK1.out.1 (by simpa using hm)))
  replace nK13 := Lib.hid (hk.cell (p := ⟨ww18.heap.size, 3, none⟩) nK13.out (fun hm => NBK1.out.1 (by simpa using hm)))
  replace nY30 := Lib.hid (hk.cell (p := ⟨ww19.heap.size, 0, none⟩) nY30.out (fun hm => NBY3.out.1 (by simpa using hm)))
  replace nY31 := Lib.hid (hk.cell (p := ⟨ww19.heap.size, 1, none⟩) nY31.out (fun hm => NBY3.out.1 (by simpa using hm)))
  replace Sf3 := Lib.hid (Sf3.out.kept hk (fun hn y hy hm => (NSSf3.out hn y hy).1 (by simpa using hm)))
  replace KT := Lib.hid (KT.out.trans hk (fun x hx hlt => by simp at hx; omega))
  have zg5 : ww0.heap.size ≤ gg5 := by rcases hg with e | hg; (rw [e]; omega); omega
  clear hk hg LOW GLH NBE NBN1 NBK1 NBY3 NSSf1 NSSh1 NSSf2 NSSh2 NSSN1 NSSf3
  have LOW := HO
  have GLH := MG
  have NBE := MBE
  have NBN1 := MBN1
  have NBK1 := MBK1
  have NBY3 := MBY3
  have NSSf1 := MSSf1
  have NSSh1 := MSSh1
  have NSSf2 := MSSf2
  have NSSh2 := MSSh2
  have NSSN1 := MSSN1
  have NSSf3 := MSSf3
  clear HO MG MBE MBN1 MBK1 MBY3 MSSf1 MSSh1 MSSf2 MSSh2 MSSN1 MSSf3
  have tN10 := nN10.out
  have tN11 := nN11.out
  have tY30 := nY30.out
  have tY31 := nY31.out
  go_wp2_with fail
  clear tN10 tN11 tY30 tY31
  have lL := LOW.out.lt
  have lH := HIGH.out.lt
  refine (l2Ceil_z _ _ _ _ _ _ _ _ _ _ _ _ SN1.out H3.out HOu2.out Y3.out Z3.out Hh3.out).mono ?_
  rintro e ww23 ⟨bh3, ch3, rfl, hs9, hf9, hk⟩
  have Sh3 := Lib.hid hs9
  clear hs9
  have z23 := hk.size
  replace fR0 := kf hk nR0 fR0
  replace fR1 := kf hk nR1 fR1
  replace fR2 := kf hk nR2 fR2
  replace fR3 := kf hk nR3 fR3
  replace nB0 := kc hk nB0
  replace nB1 := kc hk nB1
  replace nB2 := kc hk nB2
  replace nB3 := kc hk nB3
  replace nR0 := kc hk nR0
  replace nR1 := kc hk nR1
  replace nR2 := kc hk nR2
  replace nR3 := kc hk nR3
  replace H1 := Lib.hid (H1.out.kept0 hk)
  replace H2 := Lib.hid (H2.out.kept0 hk)
  replace H3 := Lib.hid (H3.out.kept0 hk)
  replace H4 := Lib.hid (H4.out.kept0 hk)
  replace LOW := Lib.hid (LOW.out.kept0 hk)
  replace HIGH := Lib.hid (HIGH.out.kept0 hk)
  replace nE0 := kc hk nE0
  replace nE1 := kc hk nE1
  replace nE2 := kc hk nE2
  replace nE3 := kc hk nE3
  replace Sf1 := Lib.hid (Sf1.out.kept0 hk)
  replace Sh1 := Lib.hid (Sh1.out.kept0 hk)
  replace Sf2 := Lib.hid (Sf2.out.kept0 hk)
  replace Sh2 := Lib.hid (Sh2.out.kept0 hk)
  replace nN10 := kc hk nN10
  replace nN11 := kc hk nN11
  replace SN1 := Lib.hid (SN1.out.kept0 hk)
  replace nK10 := kc hk nK10
  replace nK11 := kc hk nK11
  replace nK12 := kc hk nK12
  replace nK13 := kc hk nK13
  replace nY30 := kc hk nY30
  replace nY31 := kc hk nY31
  replace Sf3 := Lib.hid (Sf3.out.kept0 hk)
  replace KT := Lib.hid (KT.out.trans0 hk)
  clear hk
  have NSSh3 := Lib.hid (show 0 < (mag h3_).length → ∀ x, bh3 = some x → x.block ≠ gg5 ∧ x.block ≠ gg4 from fun hn x hx => by have h9 := hf9 hn x hx; omega)
  clear hf9 lL lH
  go_wp2_with (at_builtin; refine appB1 rfl _ _ rfl rfl (HIGH.out.kept0 ((Kept.refl [] ww23).alloc _)) ww23.heap.size (isNeg h3_) bh3 (mag h3_).length ch3 rfl (by rw [World.cell?_alloc_new]; rfl) (by rw [World.cell?_alloc_new]; rfl) (by omega) ?_)
  intro gg6 cp6 ww24 ho hk9 hg
  (try simp only [List.nil_append] at ho)
  (try simp only [List.cons_append, List.nil_append] at ho)
  (try simp only [World.size_alloc] at hg)
  have hk : Kept [gg4] ww23 ww24 := (Kept.alloc (Kept.refl [gg4] ww23) _).trans hk9 (fun x hx _ => hx)
  have z24 := hk.size
  clear hk9
  have HO := Lib.hid ho
  clear ho
  have MBE := Lib.hid (show ww2.heap.size ≠ gg5 ∧ ww2.heap.size ≠ gg6 from ⟨by exact NBE.out.1, by rcases hg with e | hg; (rw [e]; exact NBE.out.2); (have h9 := cell_lt nE0.out; omega)⟩)
  have MBN1 := Lib.hid (show gN1 ≠ gg5 ∧ gN1 ≠ gg6 from ⟨by exact NBN1.out.1, by rcases hg with e | hg; (rw [e]; exact NBN1.out.2); (have h9 := cell_lt nN10.out; omega)⟩)
  have MBK1 := Lib.hid (show ww18.heap.size ≠ gg5 ∧ ww18.heap.size ≠ gg6 from ⟨by exact NBK1.out.1, by rcases hg with e | hg; (rw [e]; exact NBK1.out.2); (have h9 := cell_lt nK10.out; omega)⟩)
  have MBY3 := Lib.hid (show ww19.heap.size ≠ gg5 ∧ ww19.heap.size ≠ gg6 from ⟨by exact NBY3.out.1, by rcases hg with e | hg; (rw [e]; exact NBY3.out.2); (have h9 := cell_lt nY30.out; omega)⟩)
  have MSSf1 := Lib.hid (show 0 < (mag f1_).length → ∀ x, bf1 = some x → x.block ≠ gg5 ∧ x.block ≠ gg6 from fun hn x hx => ⟨by exact (NSSf1.out hn x hx).1, by rcases hg with e | hg; (rw [e]; exact (NSSf1.out hn x hx).2); (have h9 := Sf1.out.lt hn x hx; omega)⟩)
  have MSSh1 := Lib.hid (show 0 < (mag h1_).length → ∀ x, bh1 = some x → x.block ≠ gg5 ∧ x.block ≠ gg6 from fun hn x hx => ⟨by exact (NSSh1.out hn x hx).1, by rcases hg with e | hg; (rw [e]; exact (NSSh1.out hn x hx).2); (have h9 := Sh1.out.lt hn x hx; omega)⟩)
  have MSSf2 := Lib.hid (show 0 < (mag f2_).length → ∀ x, bf2 = some x → x.block ≠ gg5 ∧ x.block ≠ gg6 from fun hn x hx => ⟨by exact (NSSf2.out hn x hx).1, by rcases hg with e | hg; (rw [e]; exact (NSSf2.out hn x hx).2); (have h9 := Sf2.out.lt hn x hx; omega)⟩)
  have MSSh2 := Lib.hid (show 0 < (mag h2_).length → ∀ x, bh2 = some x → x.block ≠ gg5 ∧ x.block ≠ gg6 from fun hn x hx => ⟨by exact (NSSh2.out hn x hx).1, by rcases hg with e | hg; (rw [e]; exact (NSSh2.out hn x hx).2); (have h9 := Sh2.out.lt hn x hx; omega)⟩)
  have MSSN1 := Lib.hid (show 0 < (mag u2).length → ∀ x, aN1 = some x → x.block ≠ gg5 ∧ x.block ≠ gg6 from fun hn x hx => ⟨by exact (NSSN1.out hn x hx).1, by rcases hg with e | hg; (rw [e]; exact (NSSN1.out hn x hx).2); (have h9 := SN1.out.lt hn x hx; omega)⟩)
  have MSSf3 := Lib.hid (show 0 < (mag f3_).length → ∀ x, bf3 = some x → x.block ≠ gg5 ∧ x.block ≠ gg6 from fun hn x hx => ⟨by exact (NSSf3.out hn x hx).1, by rcases hg with e | hg; (rw [e]; exact (NSSf3.out hn x hx).2); (have h9 := Sf3.out.lt hn x hx; omega)⟩)
  have MSSh3 := Lib.hid (show 0 < (mag h3_).length → ∀ x, bh3 = some x → x.block ≠ gg5 ∧ x.block ≠ gg6 from fun hn x hx => ⟨by exact (NSSh3.out hn x hx).1, by rcases hg with e | hg; (rw [e]; exact (NSSh3.out hn x hx).2); (have h9 := Sh3.out.lt hn x hx; omega)⟩)
  have MG := Lib.hid (show gg5 ≠ gg6 from by rcases hg with e | hg; (rw [e]; exact GLH.out); (have h9 := LOW.out.lt; omega))
  replace fR0 := kg hk nR0 fR0 (by simp; omega)
  replace fR1 := kg hk nR1 fR1 (by simp; omega)
  replace fR2 := kg hk nR2 fR2 (by simp; omega)
  replace fR3 := kg hk nR3 fR3 (by simp; omega)
  replace nB0 := kd hk nB0 (by simp; omega)
  replace nB1 := kd hk nB1 (by simp; omega)
  replace nB2 := kd hk nB2 (by simp; omega)
  replace nB3 := kd hk nB3 (by simp; omega)
  replace nR0 := kd hk nR0 (by simp; omega)
  replace nR1 := kd hk nR1 (by simp; omega)
  replace nR2 := kd hk nR2 (by simp; omega)
  replace nR3 := kd hk nR3 (by simp; omega)
  replace H1 := Lib.hid (H1.out.kept hk (fun hn y hy hm => by have h9 := F1.out hn y hy; simp at hm; omega))
  replace H2 := Lib.hid (H2.out.kept hk (fun hn y hy hm => by have h9 := F2.out hn y hy; simp at hm; omega))
  replace H3 := Lib.hid (H3.out.kept hk (fun hn y hy hm => by have h9 := F3.out hn y hy; simp at hm; omega))
  replace H4 := Lib.hid (H4.out.kept hk (fun hn y hy hm => by have h9 := F4.out hn y hy; simp at hm; omega))
  replace LOW := Lib.hid (LOW.out.kept hk (fun hm => GLH.out (by simp at hm; exact hm)))
  replace nE0 := Lib.hid (hk.cell (p := ⟨ww2.heap.size, 0, none⟩) nE0.out (fun hm => NBE.out.2 (by simpa using hm)))
  replace nE1 := Lib.hid (hk.cell (p := ⟨ww2.heap.size, 1, none⟩) nE1.out (fun hm => NBE.out.2 (by simpa using hm)))
  replace nE2 := Lib.hid (hk.cell (p := ⟨ww2.heap.size, 2, none⟩) nE2.out (fun hm => NBE.out.2 (by simpa using hm)))
  replace nE3 := Lib.hid (hk.cell (p := ⟨ww2.heap.size, 3, none⟩) nE3.out (fun hm => NBE.out.2 (by simpa using hm)))
  replace Sf1 := Lib.hid (Sf1.out.kept hk (fun hn y hy hm => (NSSf1.out hn y hy).2 (by simpa using hm)))
  replace Sh1 := Lib.hid (Sh1.out.kept hk (fun hn y hy hm => (NSSh1.out hn y hy).2 (by simpa using hm)))
  replace Sf2 := Lib.hid (Sf2.out.kept hk (fun hn y hy hm => (NSSf2.out hn y hy).2 (by simpa using hm)))
  replace Sh2 := Lib.hid (Sh2.out.kept hk (fun hn y hy hm => (NSSh2.out hn y hy).2 (by simpa using hm)))
  replace nN10 := Lib.hid (hk.cell (p := ⟨gN1, 0, none⟩) nN10.out (fun hm => NBN1.out.2 (by simpa using hm)))
  replace nN11 := Lib.hid (hk.cell (p := ⟨gN1, 1, none⟩) nN11.out (fun hm => NBN1.out.2 (by simpa using hm)))
  replace SN1 := Lib.hid (SN1.out.kept hk (fun hn y hy hm => (NSSN1.out hn y hy).2 (by simpa using hm)))
  replace nK10 := Lib.hid (hk.cell (p := ⟨ww18.heap.size, 0, none⟩) nK10.out (fun hm => NBK1.out.2 (by simpa using hm)))
  replace nK11 := Lib.hid (hk.cell (p := ⟨ww18.heap.size, 1, none⟩) nK11.out (fun hm => NBK1.out.2 (by simpa using hm)))
  replace nK12 := Lib.hid (hk.cell (p := ⟨ww18.heap.size, 2, none⟩) nK12.out (fun hm => NBK1.out.2 (by simpa using hm)))
  replace nK13 := Lib.hid (hk.cell (p := ⟨ww18.heap.size, 3, none⟩) nK13.out (fun hm => NBK1.out.2 (by simpa using hm)))
  replace nY30 := Lib.hid (hk.cell (p := ⟨ww19.heap.size, 0, none⟩) nY30.out (fun hm => NBY3.out.2 (by simpa using hm)))
  replace nY31 := Lib.hid (hk.cell (p := ⟨ww19.heap.size, 1, none⟩) nY31.out (fun hm => NBY3.out.2 (by simpa using hm)))
  replace Sf3 := Lib.hid (Sf3.out.kept hk (fun hn y hy hm => (NSSf3.out hn y hy).2 (by simpa using hm)))
  replace Sh3 := Lib.hid (Sh3.out.kept hk (fun hn y hy hm => (NSSh3.out hn y hy).2 (by simpa using hm)))
  replace KT := Lib.hid (KT.out.trans hk (fun x hx hlt => by simp at hx; omega))
  have zg6 : ww0.heap.size ≤ gg6 := by rcases hg with e | hg; (rw [e]; omega); omega
  clear hk hg HIGH GLH NBE NBN1 NBK1 NBY3 NSSf1 NSSh1 NSSf2 NSSh2 NSSN1 NSSf3 NSSh3
  have HIGH := HO
  have GLH := MG
  have NBE := MBE
  have NBN1 := MBN1
  have NBK1 := MBK1
  have NBY3 := MBY3
  have NSSf1 := MSSf1
  have NSSh1 := MSSh1
  have NSSf2 := MSSf2
  have NSSh2 := MSSh2
  have NSSN1 := MSSN1
  have NSSf3 := MSSf3
  have NSSh3 := MSSh3
  clear HO MG MBE MBN1 MBK1 MBY3 MSSf1 MSSh1 MSSf2 MSSh2 MSSN1 MSSf3 MSSh3
  go_wp2_with fail
  rw [rounds_succ]
  clear nY30 nY31
  clear NBY3
  have tK10 := nK10.out
  have tK11 := nK11.out
  have tK12 := nK12.out
  have tK13 := nK13.out
  go_upto_region 10 with fail
  clear tK10 tK11 tK12 tK13
  have lL := LOW.out.lt
  have lH := HIGH.out.lt
  generalize hW : (ww24.alloc (.cells #[.bool q', .slice b' m' d'] 28)) = ww25
  have hk : Kept [] ww24 ww25 := by rw [← hW]; exact (Kept.refl [] _).alloc _
  have zzY4 : ww24.heap.size + 1 = ww25.heap.size := by rw [← hW]; simp
  have nY40 := Lib.hid (show ww25.cell? ⟨ww24.heap.size, 0, none⟩ = some (.bool q') by rw [← hW, World.cell?_alloc_new]; rfl)
  have fY40 := Lib.hid (show ww25.frozen? ⟨ww24.heap.size, 0, none⟩ = false by rw [← hW]; exact frozen_of_row _ _ _ _ _ (heap_alloc_new _ _))
  have nY41 := Lib.hid (show ww25.cell? ⟨ww24.heap.size, 1, none⟩ = some (.slice b' m' d') by rw [← hW, World.cell?_alloc_new]; rfl)
  have fY41 := Lib.hid (show ww25.frozen? ⟨ww24.heap.size, 1, none⟩ = false by rw [← hW]; exact frozen_of_row _ _ _ _ _ (heap_alloc_new _ _))
  clear hW
  have z25 := hk.size
  replace fR0 := kf hk nR0 fR0
  replace fR1 := kf hk nR1 fR1
  replace fR2 := kf hk nR2 fR2
  replace fR3 := kf hk nR3 fR3
  replace nB0 := kc hk nB0
  replace nB1 := kc hk nB1
  replace nB2 := kc hk nB2
  replace nB3 := kc hk nB3
  replace nR0 := kc hk nR0
  replace nR1 := kc hk nR1
  replace nR2 := kc hk nR2
  replace nR3 := kc hk nR3
  replace H1 := Lib.hid (H1.out.kept0 hk)
  replace H2 := Lib.hid (H2.out.kept0 hk)
  replace H3 := Lib.hid (H3.out.kept0 hk)
  replace H4 := Lib.hid (H4.out.kept0 hk)
  replace LOW := Lib.hid (LOW.out.kept0 hk)
  replace HIGH := Lib.hid (HIGH.out.kept0 hk)
  replace nE0 := kc hk nE0
  replace nE1 := kc hk nE1
  replace nE2 := kc hk nE2
  replace nE3 := kc hk nE3
  replace Sf1 := Lib.hid (Sf1.out.kept0 hk)
  replace Sh1 := Lib.hid (Sh1.out.kept0 hk)
  replace Sf2 := Lib.hid (Sf2.out.kept0 hk)
  replace Sh2 := Lib.hid (Sh2.out.kept0 hk)
  replace nN10 := kc hk nN10
  replace nN11 := kc hk nN11
  replace SN1 := Lib.hid (SN1.out.kept0 hk)
  replace nK10 := kc hk nK10
  replace nK11 := kc hk nK11
  replace nK12 := kc hk nK12
  replace nK13 := kc hk nK13
  replace Sf3 := Lib.hid (Sf3.out.kept0 hk)
  replace Sh3 := Lib.hid (Sh3.out.kept0 hk)
  replace KT := Lib.hid (KT.out.trans0 hk)
  clear hk
  have NBY4 := Lib.hid (show ww24.heap.size ≠ gg5 ∧ ww24.heap.size ≠ gg6 from by omega)
  clear lL lH
  clear fY40
  clear fY41
  have tN10 := nN10.out
  have tN11 := nN11.out
  have tY40 := nY40.out
  have tY41 := nY41.out
  go_wp2_with fail
  clear tN10 tN11 tY40 tY41
  have lL := LOW.out.lt
  have lH := HIGH.out.lt
  refine (l2Floor_z _ _ _ _ _ _ _ _ _ _ _ _ SN1.out H4.out HOu2.out Y4.out Z4.out Hf4.out).mono ?_
  rintro e ww26 ⟨bf4, cf4, rfl, hs9, hf9, hk⟩
  have Sf4 := Lib.hid hs9
  clear hs9
  have z26 := hk.size
  replace fR0 := kf hk nR0 fR0
  replace fR1 := kf hk nR1 fR1
  replace fR2 := kf hk nR2 fR2
  replace fR3 := kf hk nR3 fR3
  replace nB0 := kc hk nB0
  replace nB1 := kc hk nB1
  replace nB2 := kc hk nB2
  replace nB3 := kc hk nB3
  replace nR0 := kc hk nR0
  replace nR1 := kc hk nR1
  replace nR2 := kc hk nR2
  replace nR3 := kc hk nR3
  replace H1 := Lib.hid (H1.out.kept0 hk)
  replace H2 := Lib.hid (H2.out.kept0 hk)
  replace H3 := Lib.hid (H3.out.kept0 hk)
  replace H4 := Lib.hid (H4.out.kept0 hk)
  replace LOW := Lib.hid (LOW.out.kept0 hk)
  replace HIGH := Lib.hid (HIGH.out.kept0 hk)
  replace nE0 := kc hk nE0
  replace nE1 := kc hk nE1
  replace nE2 := kc hk nE2
  replace nE3 := kc hk nE3
  replace Sf1 := Lib.hid (Sf1.out.kept0 hk)
  replace Sh1 := Lib.hid (Sh1.out.kept0 hk)
  replace Sf2 := Lib.hid (Sf2.out.kept0 hk)
  replace Sh2 := Lib.hid (Sh2.out.kept0 hk)
  replace nN10 := kc hk nN10
  replace nN11 := kc hk nN11
  replace SN1 := Lib.hid (SN1.out.kept0 hk)
  replace nK10 := kc hk nK10
  replace nK11 := kc hk nK11
  replace nK12 := kc hk nK12
  replace nK13 := kc hk nK13
  replace Sf3 := Lib.hid (Sf3.out.kept0 hk)
  replace Sh3 := Lib.hid (Sh3.out.kept0 hk)
  replace nY40 := kc hk nY40
  replace nY41 := kc hk nY41
  replace KT := Lib.hid (KT.out.trans0 hk)
  clear hk
  have NSSf4 := Lib.hid (show 0 < (mag f4_).length → ∀ x, bf4 = some x → x.block ≠ gg5 ∧ x.block ≠ gg6 from fun hn x hx => by have h9 := hf9 hn x hx; omega)
  clear hf9 lL lH
  go_wp2_with (at_builtin; refine appB1 rfl _ _ rfl rfl (LOW.out.kept0 ((Kept.refl [] ww26).alloc _)) ww26.heap.size (isNeg f4_) bf4 (mag f4_).length cf4 rfl (by rw [World.cell?_alloc_new]; rfl) (by rw [World.cell?_alloc_new]; rfl) (by omega) ?_)
  intro gg7 cp7 ww27 ho hk9 hg
  (try simp only [List.nil_append] at ho)
  (try simp only [List.cons_append, List.nil_append] at ho)
  (try simp only [World.size_alloc] at hg)
  have hk : Kept [gg5] ww26 ww27 := (Kept.alloc (Kept.refl [gg5] ww26) _).trans hk9 (fun x hx _ => hx)
  have z27 := hk.size
  clear hk9
  have HO := Lib.hid ho
  clear ho
  have MBE := Lib.hid (show ww2.heap.size ≠ gg7 ∧ ww2.heap.size ≠ gg6 from ⟨by rcases hg with e | hg; (rw [e]; exact NBE.out.1); (have h9 := cell_lt nE0.out; omega), by exact NBE.out.2⟩)
  have MBN1 := Lib.hid (show gN1 ≠ gg7 ∧ gN1 ≠ gg6 from ⟨by rcases hg with e | hg; (rw [e]; exact NBN1.out.1); (have h9 := cell_lt nN10.out; omega), by exact NBN1.out.2⟩)
  have MBK1 := Lib.hid (show ww18.heap.size ≠ gg7 ∧ ww18.heap.size ≠ gg6 from ⟨by rcases hg with e | hg; (rw [e]; exact NBK1.out.1); (have h9 := cell_lt nK10.out; omega), by exact NBK1.out.2⟩)
  have MBY4 := Lib.hid (show ww24.heap.size ≠ gg7 ∧ ww24.heap.size ≠ gg6 from ⟨by rcases hg with e | hg; (rw [e]; exact NBY4.out.1); (have h9 := cell_lt nY40.out; omega), by exact NBY4.out.2⟩)
  have MSSf1 := Lib.hid (show 0 < (mag f1_).length → ∀ x, bf1 = some x → x.block ≠ gg7 ∧ x.block ≠ gg6 from fun hn x hx => ⟨by rcases hg with e | hg; (rw [e]; exact (NSSf1.out hn x hx).1); (have h9 := Sf1.out.lt hn x hx; omega), by exact (NSSf1.out hn x hx).2⟩)
  have MSSh1 := Lib.hid (show 0 < (mag h1_).length → ∀ x, bh1 = some x → x.block ≠ gg7 ∧ x.block ≠ gg6 from fun hn x hx => ⟨by rcases hg with e | hg; (rw [e]; exact (NSSh1.out hn x hx).1); (have h9 := Sh1.out.lt hn x hx; omega), by exact (NSSh1.out hn x hx).2⟩)
  have MSSf2 := Lib.hid (show 0 < (mag f2_).length → ∀ x, bf2 = some x → x.block ≠ gg7 ∧ x.block ≠ gg6 from fun hn x hx => ⟨by rcases hg with e | hg; (rw [e]; exact (NSSf2.out hn x hx).1); (have h9 := Sf2.out.lt hn x hx; omega), by exact (NSSf2.out hn x hx).2⟩)
  have MSSh2 := Lib.hid (show 0 < (mag h2_).length → ∀ x, bh2 = some x → x.block ≠ gg7 ∧ x.block ≠ gg6 from fun hn x hx => ⟨by rcases hg with e | hg; (rw [e]; exact (NSSh2.out hn x hx).1); (have h9 := Sh2.out.lt hn x hx; omega), by exact (NSSh2.out hn x hx).2⟩)
  have MSSN1 := Lib.hid (show 0 < (mag u2).length → ∀ x, aN1 = some x → x.block ≠ gg7 ∧ x.block ≠ gg6 from fun hn x hx => ⟨by rcases hg with e | hg; (rw [e]; exact (NSSN1.out hn x hx).1); (have h9 := SN1.out.lt hn x hx; omega), by exact (NSSN1.out hn x hx).2⟩)
  have MSSf3 := Lib.hid (show 0 < (mag f3_).length → ∀ x, bf3 = some x → x.block ≠ gg7 ∧ x.block ≠ gg6 from fun hn x hx => ⟨by rcases hg with e | hg; (rw [e]; exact (NSSf3.out hn x hx).1); (have h9 := Sf3.out.lt hn x hx; omega), by exact (NSSf3.out hn x hx).2⟩)
  have MSSh3 := Lib.hid (show 0 < (mag h3_).length → ∀ x, bh3 = some x → x.block ≠ gg7 ∧ x.block ≠ gg6 from fun hn x hx => ⟨by rcases hg with e | hg; (rw [e]; exact (NSSh3.out hn x hx).1); (have h9 := Sh3.out.lt hn x hx; omega), by exact (NSSh3.out hn x hx).2⟩)
  have MSSf4 := Lib.hid (show 0 < (mag f4_).length → ∀ x, bf4 = some x → x.block ≠ gg7 ∧ x.block ≠ gg6 from fun hn x hx => ⟨by rcases hg with e | hg; (rw [e]; exact (NSSf4.out hn x hx).1); (have h9 := Sf4.out.lt hn x hx; omega), by exact (NSSf4.out hn x hx).2⟩)
  have MG := Lib.hid (show gg7 ≠ gg6 from by rcases hg with e | hg; (rw [e]; exact GLH.out); (have h9 := HIGH.out.lt; omega))
  replace fR0 := kg hk nR0 fR0 (by simp; omega)
  replace fR1 := kg hk nR1 fR1 (by simp; omega)
  replace fR2 := kg hk nR2 fR2 (by simp; omega)
  replace fR3 := kg hk nR3 fR3 (by simp; omega)
  replace nB0 := kd hk nB0 (by simp; omega)
  replace nB1 := kd hk nB1 (by simp; omega)
  replace nB2 := kd hk nB2 (by simp; omega)
  replace nB3 := kd hk nB3 (by simp; omega)
  replace nR0 := kd hk nR0 (by simp; omega)
  replace nR1 := kd hk nR1 (by simp; omega)
  replace nR2 := kd hk nR2 (by simp; omega)
  replace nR3 := kd hk nR3 (by simp; omega)
  replace H1 := Lib.hid (H1.out.kept hk (fun hn y hy hm => by have h9 := F1.out hn y hy; simp at hm; omega))
  replace H2 := Lib.hid (H2.out.kept hk (fun hn y hy hm => by have h9 := F2.out hn y hy; simp at hm; omega))
  replace H3 := Lib.hid (H3.out.kept hk (fun hn y hy hm => by have h9 := F3.out hn y hy; simp at hm; omega))
  replace H4 := Lib.hid (H4.out.kept hk (fun hn y hy hm => by have h9 := F4.out hn y hy; simp at hm; omega))
  replace HIGH := Lib.hid (HIGH.out.kept hk (fun hm => GLH.out (by simp at hm; exact hm.symm)))
  replace nE0 := Lib.hid (hk.cell (p := ⟨ww2.heap.size, 0, none⟩) nE0.out (fun hm => NBE.out.1 (by simpa using hm)))
  replace nE1 := Lib.hid (hk.cell (p := ⟨ww2.heap.size, 1, none⟩) nE1.out (fun hm => NBE.out.1 (by simpa using hm)))
  replace nE2 := Lib.hid (hk.cell (p := ⟨ww2.heap.size, 2, none⟩) nE2.out (fun hm => NBE.out.1 (by simpa using hm)))
  replace nE3 := Lib.hid (hk.cell (p := ⟨ww2.heap.size, 3, none⟩) nE3.out (fun hm => NBE.out.1 (by simpa using hm)))
  replace Sf1 := Lib.hid (Sf1.out.kept hk (fun hn y hy hm => (NSSf1.out hn y hy).1 (by simpa using hm)))
  replace Sh1 := Lib.hid (Sh1.out.kept hk (fun hn y hy hm => (NSSh1.out hn y hy).1 (by simpa using hm)))
  replace Sf2 := Lib.hid (Sf2.out.kept hk (fun hn y hy hm => (NSSf2.out hn y hy).1 (by simpa using hm)))
  replace Sh2 := Lib.hid (Sh2.out.kept hk (fun hn y hy hm => (NSSh2.out hn y hy).1 (by simpa using hm)))
  replace nN10 := Lib.hid (hk.cell (p := ⟨gN1, 0, none⟩) nN10.out (fun hm => NBN1.out.1 (by simpa using hm)))
  replace nN11 := Lib.hid (hk.cell (p := ⟨gN1, 1, none⟩) nN11.out (fun hm => NBN1.out.1 (by simpa using hm)))
  replace SN1 := Lib.hid (SN1.out.kept hk (fun hn y hy hm => (NSSN1.out hn y hy).1 (by simpa using hm)))
  replace nK10 := Lib.hid (hk.cell (p := ⟨ww18.heap.size, 0, none⟩) nK10.out (fun hm => NBK1.out.1 (by simpa using hm)))
  replace nK11 := Lib.hid (hk.cell (p := ⟨ww18.heap.size, 1, none⟩) nK11.out (fun hm => NBK1.out.1 (by simpa using hm)))
  replace nK12 := Lib.hid (hk.cell (p := ⟨ww18.heap.size, 2, none⟩) nK12.out (fun hm => NBK1.out.1 (by simpa using hm)))
  replace nK13 := Lib.hid (hk.cell (p := ⟨ww18.heap.size, 3, none⟩) nK13.out (fun hm => NBK1.out.1 (by simpa using hm)))
  replace Sf3 := Lib.hid (Sf3.out.kept hk (fun hn y hy hm => (NSSf3.out hn y hy).1 (by simpa using hm)))
  replace Sh3 := Lib.hid (Sh3.out.kept hk (fun hn y hy hm => (NSSh3.out hn y hy).1 (by simpa using hm)))
  replace nY40 := Lib.hid (hk.cell (p := ⟨ww24.heap.size, 0, none⟩) nY40.out (fun hm => NBY4.out.1 (by simpa using hm)))
  replace nY41 := Lib.hid (hk.cell (p := ⟨ww24.heap.size, 1, none⟩) nY41.out (fun hm => NBY4.out.1 (by simpa using hm)))
  replace Sf4 := Lib.hid (Sf4.out.kept hk (fun hn y hy hm => (NSSf4.out hn y hy).1 (by simpa using hm)))
  replace KT := Lib.hid (KT.out.trans hk (fun x hx hlt => by simp at hx; omega))
  have zg7 : ww0.heap.size ≤ gg7 := by rcases hg with e | hg; (rw [e]; omega); omega
  clear hk hg LOW GLH NBE NBN1 NBK1 NBY4 NSSf1 NSSh1 NSSf2 NSSh2 NSSN1 NSSf3 NSSh3 NSSf4
  have LOW := HO
  have GLH := MG
  have NBE := MBE
  have NBN1 := MBN1
  have NBK1 := MBK1
  have NBY4 := MBY4
  have NSSf1 := MSSf1
  have NSSh1 := MSSh1
  have NSSf2 := MSSf2
  have NSSh2 := MSSh2
  have NSSN1 := MSSN1
  have NSSf3 := MSSf3
  have NSSh3 := MSSh3
  have NSSf4 := MSSf4
  clear HO MG MBE MBN1 MBK1 MBY4 MSSf1 MSSh1 MSSf2 MSSh2 MSSN1 MSSf3 MSSh3 MSSf4
  have tN10 := nN10.out
  have tN11 := nN11.out
  have tY40 := nY40.out
  have tY41 := nY41.out
  go_wp2_with fail
  clear tN10 tN11 tY40 tY41
  have lL := LOW.out.lt
  have lH := HIGH.out.lt
  refine (l2Ceil_z _ _ _ _ _ _ _ _ _ _ _ _ SN1.out H4.out HOu2.out Y4.out Z4.out Hh4.out).mono ?_
  rintro e ww28 ⟨bh4, ch4, rfl, hs9, hf9, hk⟩
  have Sh4 := Lib.hid hs9
  clear hs9
  have z28 := hk.size
  replace fR0 := kf hk nR0 fR0
  replace fR1 := kf hk nR1 fR1
  replace fR2 := kf hk nR2 fR2
  replace fR3 := kf hk nR3 fR3
  replace nB0 := kc hk nB0
  replace nB1 := kc hk nB1
  replace nB2 := kc hk nB2
  replace nB3 := kc hk nB3
  replace nR0 := kc hk nR0
  replace nR1 := kc hk nR1
  replace nR2 := kc hk nR2
  replace nR3 := kc hk nR3
  replace H1 := Lib.hid (H1.out.kept0 hk)
  replace H2 := Lib.hid (H2.out.kept0 hk)
  replace H3 := Lib.hid (H3.out.kept0 hk)
  replace H4 := Lib.hid (H4.out.kept0 hk)
  replace LOW := Lib.hid (LOW.out.kept0 hk)
  replace HIGH := Lib.hid (HIGH.out.kept0 hk)
  replace nE0 := kc hk nE0
  replace nE1 := kc hk nE1
  replace nE2 := kc hk nE2
  replace nE3 := kc hk nE3
  replace Sf1 := Lib.hid (Sf1.out.kept0 hk)
  replace Sh1 := Lib.hid (Sh1.out.kept0 hk)
  replace Sf2 := Lib.hid (Sf2.out.kept0 hk)
  replace Sh2 := Lib.hid (Sh2.out.kept0 hk)
  replace nN10 := kc hk nN10
  replace nN11 := kc hk nN11
  replace SN1 := Lib.hid (SN1.out.kept0 hk)
  replace nK10 := kc hk nK10
  replace nK11 := kc hk nK11
  replace nK12 := kc hk nK12
  replace nK13 := kc hk nK13
  replace Sf3 := Lib.hid (Sf3.out.kept0 hk)
  replace Sh3 := Lib.hid (Sh3.out.kept0 hk)
  replace nY40 := kc hk nY40
  replace nY41 := kc hk nY41
  replace Sf4 := Lib.hid (Sf4.out.kept0 hk)
  replace KT := Lib.hid (KT.out.trans0 hk)
  clear hk
  have NSSh4 := Lib.hid (show 0 < (mag h4_).length → ∀ x, bh4 = some x → x.block ≠ gg7 ∧ x.block ≠ gg6 from fun hn x hx => by have h9 := hf9 hn x hx; omega)
  clear hf9 lL lH
  go_wp2_with (at_builtin; refine appB1 rfl _ _ rfl rfl (HIGH.out.kept0 ((Kept.refl [] ww28).alloc _)) ww28.heap.size (isNeg h4_) bh4 (mag h4_).length ch4 rfl (by rw [World.cell?_alloc_new]; rfl) (by rw [World.cell?_alloc_new]; rfl) (by omega) ?_)
  intro gg8 cp8 ww29 ho hk9 hg
  (try simp only [List.nil_append] at ho)
  (try simp only [List.cons_append, List.nil_append] at ho)
  (try simp only [World.size_alloc] at hg)
  have hk : Kept [gg6] ww28 ww29 := (Kept.alloc (Kept.refl [gg6] ww28) _).trans hk9 (fun x hx _ => hx)
  have z29 := hk.size
  clear hk9
  have HO := Lib.hid ho
  clear ho
  have MBE := Lib.hid (show ww2.heap.size ≠ gg7 ∧ ww2.heap.size ≠ gg8 from ⟨by exact NBE.out.1, by rcases hg with e | hg; (rw [e]; exact NBE.out.2); (have h9 := cell_lt nE0.out; omega)⟩)
  have MBN1 := Lib.hid (show gN1 ≠ gg7 ∧ gN1 ≠ gg8 from ⟨by exact NBN1.out.1, by rcases hg with e | hg; (rw [e]; exact NBN1.out.2); (have h9 := cell_lt nN10.out; omega)⟩)
  have MBK1 := Lib.hid (show ww18.heap.size ≠ gg7 ∧ ww18.heap.size ≠ gg8 from ⟨by exact NBK1.out.1, by rcases hg with e | hg; (rw [e]; exact NBK1.out.2); (have h9 := cell_lt nK10.out; omega)⟩)
  have MBY4 := Lib.hid (show ww24.heap.size ≠ gg7 ∧ ww24.heap.size ≠ gg8 from ⟨by exact NBY4.out.1, by rcases hg with e | hg; (rw [e]; exact NBY4.out.2); (have h9 := cell_lt nY40.out; omega)⟩)
  have MSSf1 := Lib.hid (show 0 < (mag f1_).length → ∀ x, bf1 = some x → x.block ≠ gg7 ∧ x.block ≠ gg8 from fun hn x hx => ⟨by exact (NSSf1.out hn x hx).1, by rcases hg with e | hg; (rw [e]; exact (NSSf1.out hn x hx).2); (have h9 := Sf1.out.lt hn x hx; omega)⟩)
  have MSSh1 := Lib.hid (show 0 < (mag h1_).length → ∀ x, bh1 = some x → x.block ≠ gg7 ∧ x.block ≠ gg8 from fun hn x hx => ⟨by exact (NSSh1.out hn x hx).1, by rcases hg with e | hg; (rw [e]; exact (NSSh1.out hn x hx).2); (have h9 := Sh1.out.lt hn x hx; omega)⟩)
  have MSSf2 := Lib.hid (show 0 < (mag f2_).length → ∀ x, bf2 = some x → x.block ≠ gg7 ∧ x.block ≠ gg8 from fun hn x hx => ⟨by exact (NSSf2.out hn x hx).1, by rcases hg with e | hg; (rw [e]; exact (NSSf2.out hn x hx).2); (have h9 := Sf2.out.lt hn x hx; omega)⟩)
  have MSSh2 := Lib.hid (show 0 < (mag h2_).length → ∀ x, bh2 = some x → x.block ≠ gg7 ∧ x.block ≠ gg8 from fun hn x hx => ⟨by exact (NSSh2.out hn x hx).1, by rcases hg with e | hg; (rw [e]; exact (NSSh2.out hn x hx).2); (have h9 := Sh2.out.lt hn x hx; omega)⟩)
  have MSSN1 := Lib.hid (show 0 < (mag u2).length → ∀ x, aN1 = some x → x.block ≠ gg7 ∧ x.block ≠ gg8 from fun hn x hx => ⟨by exact (NSSN1.out hn x hx).1, by rcases hg with e | hg; (rw [e]; exact (NSSN1.out hn x hx).2); (have h9 := SN1.out.lt hn x hx; omega)⟩)
  have MSSf3 := Lib.hid (show 0 < (mag f3_).length → ∀ x, bf3 = some x → x.block ≠ gg7 ∧ x.block ≠ gg8 from fun hn x hx => ⟨by exact (NSSf3.out hn x hx).1, by rcases hg with e | hg; (rw [e]; exact (NSSf3.out hn x hx).2); (have h9 := Sf3.out.lt hn x hx; omega)⟩)
  have MSSh3 := Lib.hid (show 0 < (mag h3_).length → ∀ x, bh3 = some x → x.block ≠ gg7 ∧ x.block ≠ gg8 from fun hn x hx => ⟨by exact (NSSh3.out hn x hx).1, by rcases hg with e | hg; (rw [e]; exact (NSSh3.out hn x hx).2); (have h9 := Sh3.out.lt hn x hx; omega)⟩)
  have MSSf4 := Lib.hid (show 0 < (mag f4_).length → ∀ x, bf4 = some x → x.block ≠ gg7 ∧ x.block ≠ gg8 from fun hn x hx => ⟨by exact (NSSf4.out hn x hx).1, by rcases hg with e | hg; (rw [e]; exact (NSSf4.out hn x hx).2); (have h9 := Sf4.out.lt hn x hx; omega)⟩)
  have MSSh4 := Lib.hid (show 0 < (mag h4_).length → ∀ x, bh4 = some x → x.block ≠ gg7 ∧ x.block ≠ gg8 from fun hn x hx => ⟨by exact (NSSh4.out hn x hx).1, by rcases hg with e | hg; (rw [e]; exact (NSSh4.out hn x hx).2); (have h9 := Sh4.out.lt hn x hx; omega)⟩)
  have MG := Lib.hid (show gg7 ≠ gg8 from by rcases hg with e | hg; (rw [e]; exact GLH.out); (have h9 := LOW.out.lt; omega))
  replace fR0 := kg hk nR0 fR0 (by simp; omega)
  replace fR1 := kg hk nR1 fR1 (by simp; omega)
  replace fR2 := kg hk nR2 fR2 (by simp; omega)
  replace fR3 := kg hk nR3 fR3 (by simp; omega)
  replace nB0 := kd hk nB0 (by simp; omega)
  replace nB1 := kd hk nB1 (by simp; omega)
  replace nB2 := kd hk nB2 (by simp; omega)
  replace nB3 := kd hk nB3 (by simp; omega)
  replace nR0 := kd hk nR0 (by simp; omega)
  replace nR1 := kd hk nR1 (by simp; omega)
  replace nR2 := kd hk nR2 (by simp; omega)
  replace nR3 := kd hk nR3 (by simp; omega)
  replace H1 := Lib.hid (H1.out.kept hk (fun hn y hy hm => by have h9 := F1.out hn y hy; simp at hm; omega))
  replace H2 := Lib.hid (H2.out.kept hk (fun hn y hy hm => by have h9 := F2.out hn y hy; simp at hm; omega))
  replace H3 := Lib.hid (H3.out.kept hk (fun hn y hy hm => by have h9 := F3.out hn y hy; simp at hm; omega))
  replace H4 := Lib.hid (H4.out.kept hk (fun hn y hy hm => by have h9 := F4.out hn y hy; simp at hm; omega))
  replace LOW := Lib.hid (LOW.out.kept hk (fun hm => GLH.out (by simp at hm; exact hm)))
  replace nE0 := Lib.hid (hk.cell (p := ⟨ww2.heap.size, 0, none⟩) nE0.out (fun hm => NBE.out.2 (by simpa using hm)))
  replace nE1 := Lib.hid (hk.cell (p := ⟨ww2.heap.size, 1, none⟩) nE1.out (fun hm => NBE.out.2 (by simpa using hm)))
  replace nE2 := Lib.hid (hk.cell (p := ⟨ww2.heap.size, 2, none⟩) nE2.out (fun hm => NBE.out.2 (by simpa using hm)))
  replace nE3 := Lib.hid (hk.cell (p := ⟨ww2.heap.size, 3, none⟩) nE3.out (fun hm => NBE.out.2 (by simpa using hm)))
  replace Sf1 := Lib.hid (Sf1.out.kept hk (fun hn y hy hm => (NSSf1.out hn y hy).2 (by simpa using hm)))
  replace Sh1 := Lib.hid (Sh1.out.kept hk (fun hn y hy hm => (NSSh1.out hn y hy).2 (by simpa using hm)))
  replace Sf2 := Lib.hid (Sf2.out.kept hk (fun hn y hy hm => (NSSf2.out hn y hy).2 (by simpa using hm)))
  replace Sh2 := Lib.hid (Sh2.out.kept hk (fun hn y hy hm => (NSSh2.out hn y hy).2 (by simpa using hm)))
  replace nN10 := Lib.hid (hk.cell (p := ⟨gN1, 0, none⟩) nN10.out (fun hm => NBN1.out.2 (by simpa using hm)))
  replace nN11 := Lib.hid (hk.cell (p := ⟨gN1, 1, none⟩) nN11.out (fun hm => NBN1.out.2 (by simpa using hm)))
  replace SN1 := Lib.hid (SN1.out.kept hk (fun hn y hy hm => (NSSN1.out hn y hy).2 (by simpa using hm)))
  replace nK10 := Lib.hid (hk.cell (p := ⟨ww18.heap.size, 0, none⟩) nK10.out (fun hm => NBK1.out.2 (by simpa using hm)))
  replace nK11 := Lib.hid (hk.cell (p := ⟨ww18.heap.size, 1, none⟩) nK11.out (fun hm => NBK1.out.2 (by simpa using hm)))
  replace nK12 := Lib.hid (hk.cell (p := ⟨ww18.heap.size, 2, none⟩) nK12.out (fun hm => NBK1.out.2 (by simpa using hm)))
  replace nK13 := Lib.hid (hk.cell (p := ⟨ww18.heap.size, 3, none⟩) nK13.out (fun hm => NBK1.out.2 (by simpa using hm)))
  replace Sf3 := Lib.hid (Sf3.out.kept hk (fun hn y hy hm => (NSSf3.out hn y hy).2 (by simpa using hm)))
  replace Sh3 := Lib.hid (Sh3.out.kept hk (fun hn y hy hm => (NSSh3.out hn y hy).2 (by simpa using hm)))
  replace nY40 := Lib.hid (hk.cell (p := ⟨ww24.heap.size, 0, none⟩) nY40.out (fun hm => NBY4.out.2 (by simpa using hm)))
  replace nY41 := Lib.hid (hk.cell (p := ⟨ww24.heap.size, 1, none⟩) nY41.out (fun hm => NBY4.out.2 (by simpa using hm)))
  replace Sf4 := Lib.hid (Sf4.out.kept hk (fun hn y hy hm => (NSSf4.out hn y hy).2 (by simpa using hm)))
  replace Sh4 := Lib.hid (Sh4.out.kept hk (fun hn y hy hm => (NSSh4.out hn y hy).2 (by simpa using hm)))
  replace KT := Lib.hid (KT.out.trans hk (fun x hx hlt => by simp at hx; omega))
  have zg8 : ww0.heap.size ≤ gg8 := by rcases hg with e | hg; (rw [e]; omega); omega
  clear hk hg HIGH GLH NBE NBN1 NBK1 NBY4 NSSf1 NSSh1 NSSf2 NSSh2 NSSN1 NSSf3 NSSh3 NSSf4 NSSh4
  have HIGH := HO
  have GLH := MG
  have NBE := MBE
  have NBN1 := MBN1
  have NBK1 := MBK1
  have NBY4 := MBY4
  have NSSf1 := MSSf1
  have NSSh1 := MSSh1
  have NSSf2 := MSSf2
  have NSSh2 := MSSh2
  have NSSN1 := MSSN1
  have NSSf3 := MSSf3
  have NSSh3 := MSSh3
  have NSSf4 := MSSf4
  have NSSh4 := MSSh4
  clear HO MG MBE MBN1 MBK1 MBY4 MSSf1 MSSh1 MSSf2 MSSh2 MSSN1 MSSf3 MSSh3 MSSf4 MSSh4
  go_wp2_with fail
  rw [rounds_succ]
  clear nY40 nY41
  clear NBY4
  go_wp2_with fail
  rw [rounds_succ]
  clear nN10 nN11
  clear NBN1
  clear SN1
  clear NSSN1
  clear nK10 nK11 nK12 nK13
  clear NBK1
  go_wp2_with fail
  have HROW := Lib.hid (rowB4_of LOW.out)
  have HOK := Lib.hid (okB4 Sf1.out Sf2.out Sf3.out Sf4.out of1 of2 of3 of4)
  have HROW2 := Lib.hid (rowB4_of HIGH.out)
  have HOK2 := Lib.hid (okB4 Sh1.out Sh2.out Sh3.out Sh4.out oh1 oh2 oh3 oh4)
  clear Sf1
  clear NSSf1
  clear Sh1
  clear NSSh1
  clear Sf2
  clear NSSf2
  clear Sh2
  clear NSSh2
  clear Sf3
  clear NSSf3
  clear Sh3
  clear NSSh3
  clear Sf4
  clear NSSf4
  clear Sh4
  clear NSSh4
  clear nE0 nE1 nE2 nE3
  clear NBE
  clear nB0 nB1 nB2 nB3
  clear LOW HIGH
  clear GLH
  refine (l3Least_fourC _ _ f1_ f2_ f3_ f4_ t1 _ _ _ _ _ _ _ _ _ HROW.out HOK.out HT1.out).mono ?_
  rintro e ww30 ⟨a6, c6, rfl, hs6, hf6, hk⟩
  clear HROW HOK
  have hs1 := Lib.hid hs6
  have G1 := Lib.hid (hf6.mono (B' := w.heap.size + 1 + 1 + 1) (by omega))
  clear hs6 hf6
  have z30 := hk.size
  replace fR0 := kf hk nR0 fR0
  replace fR1 := kf hk nR1 fR1
  replace fR2 := kf hk nR2 fR2
  replace fR3 := kf hk nR3 fR3
  replace nR0 := kc hk nR0
  replace nR1 := kc hk nR1
  replace nR2 := kc hk nR2
  replace nR3 := kc hk nR3
  replace H1 := Lib.hid (H1.out.kept0 hk)
  replace H2 := Lib.hid (H2.out.kept0 hk)
  replace H3 := Lib.hid (H3.out.kept0 hk)
  replace H4 := Lib.hid (H4.out.kept0 hk)
  replace HROW2 := Lib.hid (HROW2.out.kept0 hk)
  replace HOK2 := Lib.hid (HOK2.out.kept0 hk)
  replace KT := Lib.hid (KT.out.trans0 hk)
  clear hk
  go_wp2_with fail
  refine (l3Most_fourC _ _ h1_ h2_ h3_ h4_ t2 _ _ _ _ _ _ _ _ _ HROW2.out HOK2.out HT2.out).mono ?_
  rintro e ww31 ⟨a8, c8, rfl, hs8, hf8, hk⟩
  clear HROW2 HOK2
  have hs2 := Lib.hid hs8
  have G2 := Lib.hid (hf8.mono (B' := w.heap.size + 1 + 1 + 1) (by omega))
  clear hs8 hf8
  have z31 := hk.size
  replace fR0 := kf hk nR0 fR0
  replace fR1 := kf hk nR1 fR1
  replace fR2 := kf hk nR2 fR2
  replace fR3 := kf hk nR3 fR3
  replace nR0 := kc hk nR0
  replace nR1 := kc hk nR1
  replace nR2 := kc hk nR2
  replace nR3 := kc hk nR3
  replace H1 := Lib.hid (H1.out.kept0 hk)
  replace H2 := Lib.hid (H2.out.kept0 hk)
  replace H3 := Lib.hid (H3.out.kept0 hk)
  replace H4 := Lib.hid (H4.out.kept0 hk)
  replace hs1 := Lib.hid (hs1.out.kept0 hk)
  replace KT := Lib.hid (KT.out.trans0 hk)
  clear hk
  clear H1 H2 H3 H4
  clear z0 z1 z10 z11 z12 z13 z14 z15 z16 z17 z18 z19 z2 z20 z21 z22 z23 z24 z25 z26 z27 z28 z29 z30 z31 z5 z6 z7 z8 z9 zg0 zg00 zg1 zg2 zg3 zg4 zg5 zg6 zg7 zg8 zzA zzE zzHIGH zzK0 zzK1 zzLOW zzX0 zzX1 zzY1 zzY2 zzY3 zzY4 hg1 hgl1
  have tR0 := nR0.out
  have tR1 := nR1.out
  have tR2 := nR2.out
  have tR3 := nR3.out
  have uR0 := fR0.out
  have uR1 := fR1.out
  have uR2 := fR2.out
  have uR3 := fR3.out
  go_simp
  iterate 11 go_step
  clear tR0 tR1 tR2 tR3 uR0 uR1 uR2 uR3
  obtain ⟨p9, hp9⟩ : ∃ r, r = isNeg t1 := ⟨_, rfl⟩
  obtain ⟨q9, hq9⟩ : ∃ r, r = isNeg t2 := ⟨_, rfl⟩
  rw [← hp9, ← hq9]
  generalize hW : ((((ww31.setCell ⟨w.heap.size + 1 + 1, 0, none⟩ (.bool p9)).setCell ⟨w.heap.size + 1 + 1, 1, none⟩ (.slice a6 (mag t1).length c6)).setCell ⟨w.heap.size + 1 + 1, 2, none⟩ (.bool q9)).setCell ⟨w.heap.size + 1 + 1, 3, none⟩ (.slice a8 (mag t2).length c8)) = ww32
  have hk : Kept [w.heap.size + 1 + 1] ww31 ww32 := by rw [← hW]; exact ((((Kept.refl _ _).setCell _ _ (by simp)).setCell _ _ (by simp)).setCell _ _ (by simp)).setCell _ _ (by simp)
  have hfz : ∀ x, ww32.frozen? x = ww31.frozen? x := by rw [← hW]; intro x; simp only [World.frozen?_setCell]
  obtain ⟨e0, e1, e2, e3⟩ := st4 hW.symm nR0.out nR1.out nR2.out nR3.out
  have z32 := hk.size
  replace fR0 := kz hfz fR0
  replace fR1 := kz hfz fR1
  replace fR2 := kz hfz fR2
  replace fR3 := kz hfz fR3
  replace hs1 := Lib.hid (hs1.out.kept hk (fun hn y hy hm => by have h9 := G1.out hn y hy; simp at hm; omega))
  replace hs2 := Lib.hid (hs2.out.kept hk (fun hn y hy hm => by have h9 := G2.out hn y hy; simp at hm; omega))
  replace nR0 := Lib.hid e0
  replace nR1 := Lib.hid e1
  replace nR2 := Lib.hid e2
  replace nR3 := Lib.hid e3
  replace KT := Lib.hid (KT.out.trans hk (fun x hx hlt => by simp at hx; omega))
  clear hk hfz hW e0 e1 e2 e3
  have HP9 := Lib.hid hp9
  have HQ9 := Lib.hid hq9
  clear hp9 hq9
  have e0 := nR0.out
  have e1 := nR1.out
  have e2 := nR2.out
  have e3 := nR3.out
  refine bodyPost_ret (v := .agg #[.bool p9, .slice a6 (mag t1).length c6, .bool q9, .slice a8 (mag t2).length c8]) (by simp [results, Try.results20, go_sem, e0, e1, e2, e3]) rfl ?_
  exact spanV_fin HP9.out HQ9.out hs1.out hs2.out (G1.out.mono (by omega)) (G2.out.mono (by omega)) KT.out

end Go.Proofs.Ytofpommikmdlfaa
