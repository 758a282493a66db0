/-
  Several of my texts in one, each as it was: SDiv, SDivN, BigG. No condition but theirs.
-/
import Derived.Test.YtgplghjameiciaaTakeS
import Derived.Test.YtgplghjameiciaaDiv
import Derived.Test.YtgplghjameiciaaNatOf
import Derived.Test.YtgplghjameiciaaJ1
import Derived.Test.YtgplghjameiciaaBigF
namespace Go.Proofs.Ytgplghjameiciaa
open Go.RowKit

/-- What the model's division answers: two slices of new memory. -/
def DivT (w : World) (qs rs : List Int) (e : Ending) (w' : World) : Prop :=
  ∃ a c a' c', e = .returned (.tuple #[.slice a qs.length c, .slice a' rs.length c']) ∧ Sl w' a qs.length c qs ∧ Sl w' a' rs.length c' rs ∧ Fr w.heap.size a qs.length ∧ Fr w.heap.size a' rs.length ∧ Kept [] w w'

theorem len_ge {xs ys : List Int} (hx : Canon xs) (hy : Canon ys) (h : val ys ≤ val xs) : ys.length ≤ xs.length := by
  rcases Nat.lt_or_ge xs.length ys.length with h1 | h1
  · have := val_lt_lenC hx hy h1; omega
  · exact h1

theorem kept_row {b c : World} {row : Option Nat} (hg : b.grownBy c row) : Kept row.toList b c :=
  ⟨hg.os, hg.tape, hg.output, hg.size, fun i hi hL => hg.block i hi (fun e => hL (by rw [← e]; simp))⟩

theorem rd_one (w : World) (x : Int) : Rd (w.alloc (.cells #[.int .i64 x] 2)) (some ⟨w.heap.size, 0, none⟩) 1 [x] :=
  (Sl.ofBlk (Blk.new w [x]) (by simp)).rd

theorem ow_head {B : Nat} {w : World} {a : Option Addr} {n c : Nat} {xs : List Int} (h : Ow B w (.slice a n c) xs) (hn : 0 < n) (hx : xs.length = n) : ∃ g, a = some ⟨g, 0, none⟩ ∧ Blk w g xs ∧ B ≤ g ∧ n ≤ c ∧ c ≤ 9223372036854775807 := by
  have h0 := h
  rcases h.2 with ⟨h1, h2⟩ | ⟨g, cap, cur, h1, _⟩
  · omega
  · simp only [Value.slice.injEq] at h1
    obtain ⟨e1, e2, e3⟩ := h1
    subst e1 e3
    unfold Ow at h0
    rw [hx] at h0
    obtain ⟨b1, b2, b3, b4, b5⟩ := blk_of_owns h0
    unfold maxLen at b5
    exact ⟨g, rfl, b1, b2, b4, by omega⟩

set_option maxHeartbeats 4000000 in
set_option maxRecDepth 100000 in
theorem l1Div_small (a b : Option Addr) (n c m d : Nat) (xs ys : List Int) (w : World) (h : Sl w a n c xs) (h' : Rd w b m ys) (hx : Canon xs) (hy : Canon ys) (hn : n ≤ 1000) (hlt : val xs < val ys) :
    Calls Try.prog 70 #[.slice a n c, .slice b m d] w (DivT w (digits (val xs / val ys)) (digits (val xs % val ys))) := by
  have hx0 := (canon_nonneg hx).1
  rw [Int.ediv_eq_zero_of_lt hx0 hlt, Int.emod_eq_of_lt hx0 hlt, digits_val hx, digits_zero (Int.le_refl 0)]
  have hcmp : Hid (cmpV (val xs) (val ys) = -1) := cmpV_lt hlt
  have HS := Lib.hid h
  have HR' := Lib.hid h'
  have HX := Lib.hid hx
  have HY := Lib.hid hy
  clear h h' hx hy hlt hx0
  go_enter Try.func70, Try.ntmps70
  go_wp2_with fail
  refine (l1Compare_canon _ _ _ _ _ _ _ _ _ HS.out.rd HR'.out HX.out HY.out).mono ?_
  rintro e w1 ⟨rfl, hq⟩
  rw [hcmp.out]
  have HQ := Lib.hid hq
  clear hq
  go_wp2_with fail
  refine (l1Ints_any _ _ _ _ _ ((HS.out.kept0 HQ.out).kept0 ((Kept.refl [] w1).alloc _)) (by omega)).mono ?_
  rintro e w2 ⟨v, rfl, hO, hk⟩
  obtain ⟨a2, c2, rfl, hS2, hF2⟩ := hO.sl
  have HS2 := Lib.hid hS2
  have HF2 := Lib.hid (hF2.mono (show w.heap.size ≤ (w1.alloc (.cells #[] 2)).heap.size by have := HQ.out.size; simp; omega))
  have HK := Lib.hid ((HQ.out.alloc _).trans0 hk)
  clear hO hk hS2 hF2
  go_wp2_with fail
  go_ret2
  exact ⟨some ⟨w1.heap.size, 0, none⟩, 0, a2, c2, rfl, ⟨rfl, Nat.le_refl _, by omega, by simp, Or.inl rfl⟩, HS2.out, fun h => by simp at h, HF2.out, HK.out⟩

set_option maxHeartbeats 4000000 in
set_option maxRecDepth 100000 in
theorem l1Div_one (a b : Option Addr) (n c d : Nat) (xs : List Int) (y : Int) (w : World) (h : Sl w a n c xs) (h' : Rd w b 1 [y]) (hx : Canon xs) (hy : Canon [y]) (hn : n ≤ 1000) (hge : ¬ val xs < val [y]) :
    Calls Try.prog 70 #[.slice a n c, .slice b 1 d] w (DivT w (digits (val xs / val [y])) (digits (val xs % val [y]))) := by
  have hv : val [y] = y := by simp [val]
  have hy1 : 1 ≤ y ∧ y ≤ 65535 := by
    obtain ⟨h1, h2, _, h4⟩ := hy
    have := h4 rfl
    omega
  obtain ⟨cv, hcv⟩ : ∃ cv, cv = cmpV (val xs) (val [y]) := ⟨_, rfl⟩
  have hcv0 : 0 ≤ cv := by rw [hcv]; unfold cmpV; rw [if_neg hge]; split <;> omega
  have hcd : decide (cv < 0) = false := decide_eq_false (by omega)
  have hmod := Int.emod_lt_of_pos (val xs) (by omega : 0 < y)
  rw [hv]
  obtain ⟨g, off, rfl, hc0⟩ := h'.2.2 0 (by omega)
  have hc0' : w.cell? ⟨g, off, none⟩ = some (.int .i64 y) := by simpa using hc0
  have HS := Lib.hid h
  have HR' := Lib.hid h'
  have HX := Lib.hid hx
  have HY := Lib.hid hy
  have HY1 := Lib.hid hy1
  have HCV := Lib.hid hcv
  have HM := Lib.hid hmod
  have HC := Lib.hid hc0'
  clear h h' hx hy hy1 hge hcv hc0 hc0' hmod hv
  go_enter Try.func70, Try.ntmps70
  go_wp2_with fail
  refine (l1Compare_canon _ _ _ _ _ _ _ _ _ HS.out.rd HR'.out HX.out HY.out).mono ?_
  rintro e w1 ⟨rfl, hq⟩
  rw [← HCV.out]
  have HQ := Lib.hid hq
  have hc1 := hq.cell HC.out (by simp)
  clear hq
  go_wp2_with fail
  refine (l1Short_any _ _ _ xs y _ (HS.out.kept0 HQ.out).rd (canon_limbs HX.out) (by omega) (by have := HY1.out; omega)).mono ?_
  rintro e w2 ⟨v, rfl, hO, hk⟩
  obtain ⟨a2, c2, rfl, hS2, hF2⟩ := hO.sl
  have HS2 := Lib.hid hS2
  have HF2 := Lib.hid (hF2.mono HQ.out.size)
  have HK2 := Lib.hid (HQ.out.trans0 hk)
  obtain ⟨r, hr⟩ : ∃ r, r = val xs % y := ⟨_, rfl⟩
  rw [← hr]
  have HRR := Lib.hid hr
  clear hO hk hS2 hF2 hc1 hr
  go_wp2_with fail
  refine (l1Nat_any r _ (by rw [HRR.out]; have := HM.out; have := HY1.out; omega)).mono ?_
  rintro e w3 ⟨v, rfl, hO, hk⟩
  obtain ⟨a3, c3, rfl, hS3, hF3⟩ := hO.sl
  have HS3 := Lib.hid hS3
  have HS23 := Lib.hid (HS2.out.kept0 hk)
  have HF3 := Lib.hid (hF3.mono HK2.out.size)
  have HK3 := Lib.hid (HK2.out.trans0 hk)
  clear hO hk hS3 hF3
  go_wp2_with fail
  go_ret2
  exact ⟨a2, c2, a3, c3, by rw [← HRR.out]; rfl, HS23.out, by rw [← HRR.out]; exact HS3.out, HF2.out, by rw [← HRR.out]; exact HF3.out, HK3.out⟩

set_option maxHeartbeats 8000000 in
set_option maxRecDepth 100000 in
theorem l1Div_many (a b : Option Addr) (n c m d : Nat) (xs ys : List Int) (w : World) (h : Sl w a n c xs) (h' : Rd w b m ys) (hx : Canon xs) (hy : Canon ys) (hn : n ≤ 900) (hm1 : 2 ≤ m) (hm2 : m ≤ 1000) (hge : ¬ val xs < val ys) :
    Calls Try.prog 70 #[.slice a n c, .slice b m d] w (DivT w (digits (val xs / val ys)) (digits (val xs % val ys))) := by
  obtain ⟨cv, hcv⟩ : ∃ cv, cv = cmpV (val xs) (val ys) := ⟨_, rfl⟩
  have hcv0 : 0 ≤ cv := by rw [hcv]; unfold cmpV; rw [if_neg hge]; split <;> omega
  have hcd : decide (cv < 0) = false := decide_eq_false (by omega)
  have hm1' : ((m : Int) == 1) = false := by rw [beq_eq_false_iff_ne]; omega
  obtain ⟨g, off, rfl, hc0⟩ := h'.2.2 (m - 1) (by omega)
  have htop := canon_top hy (m - 1) (by rw [h'.1]; omega)
  have htop2 := canon_limbs hy (m - 1) (by rw [h'.1]; omega)
  obtain ⟨tp, htp⟩ : ∃ tp, tp = ys.getD (m - 1) 0 := ⟨_, rfl⟩
  rw [← htp] at hc0 htop htop2
  obtain ⟨sc, hsc⟩ : ∃ sc, sc = 65536 / (tp + 1) := ⟨_, rfl⟩
  have hsc1 : 1 ≤ sc := by rw [hsc]; exact (Int.le_ediv_iff_mul_le (by omega)).2 (by omega)
  have hsc2 : sc ≤ 65535 := by
    have : 65536 / (tp + 1) < 65536 := Int.ediv_lt_of_lt_mul (by omega) (by omega)
    omega
  have hVy : 0 < val ys := (canon_nonneg hy).2 (fun e => by have h9 := h'.1; rw [e] at h9; simp at h9; omega)
  have hVx := (canon_nonneg hx).1
  -- the scaled numbers
  obtain ⟨A, hA⟩ : ∃ A, A = digits (val xs * sc) := ⟨_, rfl⟩
  obtain ⟨V, hV⟩ : ∃ V, V = digits (val ys * sc) := ⟨_, rfl⟩
  have hAp : 0 ≤ val xs * sc := Int.mul_nonneg hVx (by omega)
  have hVp : 0 < val ys * sc := Int.mul_pos hVy (by omega)
  have hAv : val A = val xs * sc := by rw [hA]; exact val_digits' hAp
  have hVv : val V = val ys * sc := by rw [hV]; exact val_digits' (by omega)
  have hAc : Canon A := by rw [hA]; exact canon_digits' _
  have hVc : Canon V := by rw [hV]; exact canon_digits' _
  have hVl : 0 < V.length := by
    rcases (by omega : V.length = 0 ∨ 0 < V.length) with e | e
    · rw [List.eq_nil_of_length_eq_zero e] at hVv; simp [val] at hVv; omega
    · exact e
  have hVA : V.length ≤ A.length := len_ge hAc hVc (by rw [hAv, hVv]; exact Int.mul_le_mul_of_nonneg_right (by omega) (by omega))
  have hnA : n ≤ A.length := by
    rw [← h.1]
    refine len_ge hAc hx ?_
    rw [hAv]
    have : val xs * 1 ≤ val xs * sc := Int.mul_le_mul_of_nonneg_left hsc1 hVx
    omega
  have hAl : A.length ≤ n + 1 := by
    rw [hA]
    refine digits_len (n + 1) _ ?_
    have h1 := (canon_limbs hx).val
    rw [h.1] at h1
    have h2 : val xs * sc ≤ val xs * 65535 := Int.mul_le_mul_of_nonneg_left hsc2 hVx
    simp only [pw]; omega
  have hdv : val A / val V = val xs / val ys := by rw [hAv, hVv, Int.mul_comm (val xs), Int.mul_comm (val ys)]; exact Int.mul_ediv_mul_of_pos _ _ (by omega)
  have hmv : val A % val V = (val xs % val ys) * sc := by rw [hAv, hVv, Int.mul_comm (val xs), Int.mul_comm (val ys), Int.mul_emod_mul_of_pos _ _ (by omega : 0 < sc), Int.mul_comm]
  have hms : (val A % val V) / sc = val xs % val ys := by rw [hmv]; exact Int.mul_ediv_cancel _ (by omega)
  have hVt : V.getD (V.length - 1) 0 ≠ 0 := (canon_get hVc).2 hVl
  have HS := Lib.hid h
  have HR' := Lib.hid h'
  have HX := Lib.hid hx
  have HY := Lib.hid hy
  have HCV := Lib.hid hcv
  have HC := Lib.hid hc0
  have HA := Lib.hid hA
  have HV := Lib.hid hV
  have HAC := Lib.hid hAc
  have HVC := Lib.hid hVc
  have HVT := Lib.hid hVt
  have HDV := Lib.hid hdv
  have HMS := Lib.hid hms
  have HVV0 : Hid (0 < val V) := by show 0 < val V; rw [hVv]; exact hVp
  obtain ⟨al, hal⟩ : ∃ al, al = A.length := ⟨_, rfl⟩
  obtain ⟨mv, hmvl⟩ : ∃ mv, mv = V.length := ⟨_, rfl⟩
  rw [← hmvl] at hVl hVA HVT
  rw [← hal] at hVA hnA hAl
  have HAL := Lib.hid hal
  have HVL := Lib.hid hmvl
  have hone : AllLimbs [sc] := fun i hi => by
    have : i = 0 := by simp at hi; exact hi
    subst this; simp; omega
  have HONE := Lib.hid hone
  have hvone : val [sc] = sc := by simp [val]
  have HVO := Lib.hid hvone
  have HSC := Lib.hid hsc
  have e1 : IntKind.i64.wrap ((m : Int) - 1) = (m : Int) - 1 := IntWalk.i64_in _ (by omega)
  have et : IntKind.i64.wrap (tp + 1) = tp + 1 := IntWalk.i64_in _ (by omega)
  have etz : (tp + 1 == 0) = false := by rw [beq_eq_false_iff_ne]; omega
  have e2 : IntKind.i64.wrap ((65536 : Int).tdiv (tp + 1)) = sc := by rw [IntWalk.i64_quo _ _ (by omega)]; exact hsc.symm
  clear h h' hx hy hge hcv hc0 htp hsc hVy hVx hA hV hAp hVp hAv hVv hAc hVc hdv hmv hms hVt hal hmvl hone hvone
  go_enter Try.func70, Try.ntmps70
  go_wp2_with fail
  refine (l1Compare_canon _ _ _ _ _ _ _ _ _ HS.out.rd HR'.out HX.out HY.out).mono ?_
  rintro e w1 ⟨rfl, hq⟩
  rw [← HCV.out]
  have HQ := Lib.hid hq
  have hc1 := hq.cell HC.out (by simp)
  clear hq
  go_wp2_with fail
  have hk1a : Kept [] w (w1.alloc (.cells #[.int .i64 sc] 2)) := HQ.out.alloc _
  have HK1A := Lib.hid hk1a
  have HONE1 := Lib.hid (rd_one w1 sc)
  clear hk1a hc1 e1 et etz e2
  refine (l1Mul_any _ _ _ _ _ _ ys [sc] _ (HR'.out.kept0 HK1A.out) HONE1.out (canon_limbs HY.out) HONE.out (by omega) (by omega)).mono ?_
  rintro e w2 ⟨v2, rfl, hO2, hk2⟩
  rw [HVO.out, ← HV.out] at hO2
  obtain ⟨av, cvv, rfl, hSV, hFV⟩ := hO2.sl
  rw [← HVL.out] at hSV hFV ⊢
  have HSV := Lib.hid hSV
  have HK2 := Lib.hid (HK1A.out.trans0 hk2)
  clear hO2 hk2 hFV hSV
  go_wp2_with fail
  have HK2A := Lib.hid (HK2.out.alloc (.cells #[.int .i64 sc] 2))
  have HONE2 := Lib.hid (rd_one w2 sc)
  refine (l1Mul_any _ _ _ _ _ _ xs [sc] _ ((HS.out.kept0 HK2A.out).rd) HONE2.out (canon_limbs HX.out) HONE.out (by omega) (by omega)).mono ?_
  rintro e w3 ⟨v3, rfl, hO3, hk3⟩
  rw [HVO.out, ← HA.out] at hO3
  have HO3 := Lib.hid hO3
  have HK3 := Lib.hid (HK2A.out.trans0 hk3)
  have HSV3 := Lib.hid ((HSV.out.kept0 ((Kept.refl [] w2).alloc (.cells #[.int .i64 sc] 2))).kept0 hk3)
  have hVblk := Lib.hid (show ∀ x, av = some x → x.block < w2.heap.size from HSV.out.lt hVl)
  have hs23 : w2.heap.size + 1 ≤ w3.heap.size := by have := hk3.size; simpa using this
  have hw2s : w.heap.size ≤ w2.heap.size := HK2.out.size
  clear hO3 hk3 HONE1 HONE2
  go_wp2_with (at_builtin; refine app1 rfl _ _ rfl (w2.heap.size + 1) v3 A rfl ((HO3.out.mono (by simp)).alloc _) w3.heap.size 0 rfl (by simp) (by rw [← HAL.out]; omega) (by simp; omega) ?_)
  intro v4 w4 hW4 hG4
  have HK4 : Hid (Kept [] w w4) := kept_grown (HK3.out.alloc _) ((HO3.out.mono (show w2.heap.size + 1 ≤ _ by simp)).alloc _) hG4 (by omega)
  have hrow := HO3.out
  have HSV4 := Lib.hid ((HSV3.out.kept0 ((Kept.refl [] w3).alloc (.cells #[.int .i64 0] 2))).kept (kept_row hG4) (fun _ x hx hm => by
    have h1 := hVblk.out x hx
    have h2 := (World.ownsRow.lt (HO3.out.mono (show w2.heap.size + 1 ≤ _ by simp)) x.block (by cases he : v3.ownBlock with | none => rw [he] at hm; simp at hm | some k => rw [he] at hm; simp at hm; rw [hm])).1
    omega))
  have hl5 : (A ++ [(0 : Int)]).length = al + 1 := by rw [List.length_append, ← HAL.out]; rfl
  obtain ⟨au, cu, rfl, hSU, hFU⟩ := hW4.sl
  rw [hl5] at hSU hFU hW4 ⊢
  obtain ⟨gu, rfl, hBU, hgu, hcu1, hcu2⟩ := ow_head hW4 (by omega) hl5
  have HBU := Lib.hid hBU
  have hgult := hBU.lt
  obtain ⟨i0, hi, hz0, hz1, hz2⟩ := info_parts Try.info64
  have hmk := fun (w : World) => run_make_row (P := Try.prog) 22 2 i0 (.int .i64 0) Try.underlying22 hi hz0 hz1 rfl .i64 .i64 (al + 1 - mv) (by rw [hz2]; omega) (by omega) w
  have ec : ((al + 1 - mv : Nat) : Int) = (al : Int) + 1 - (mv : Int) := by omega
  rw [ec, made_zeros] at hmk
  have ew : IntKind.i64.wrap ((al : Int) + 1 - (mv : Int)) = (al : Int) + 1 - (mv : Int) := IntWalk.i64_in _ (by omega)
  clear ec hi hz0 hz1 hz2 hrow hl5 hW4 hG4 hSU hFU hBU
  have hdal : decide (al < n) = false := decide_eq_false (by omega)
  go_wp2_with fail
  have HBQ0 := Lib.hid (Blk.new w4 (List.replicate (al + 1 - mv) 0))
  have HBU0 := Lib.hid (HBU.out.alloc (.cells (ints (List.replicate (al + 1 - mv) 0)) 2))
  have HK5 := Lib.hid (HK4.out.alloc (.cells (ints (List.replicate (al + 1 - mv) 0)) 2))
  have HRV5 := Lib.hid ((HSV4.out.kept0 ((Kept.refl [] w4).alloc (.cells (ints (List.replicate (al + 1 - mv) 0)) 2))).rd)
  have hst := DivAt.start (al + 1 - mv) (canon_limbs HAC.out) (canon_limbs HVC.out) (by rw [← HVL.out]; omega) (by rw [← HVL.out]; exact HVT.out) (by rw [← HAL.out, ← HVL.out]; exact hVA)
  rw [← HAL.out, ← HVL.out, show al - mv + 1 = al + 1 - mv by omega, show al + 1 - al = 1 by omega] at hst
  have HST := Lib.hid hst
  clear hmk hst ew
  go_loopw [12] (fun i wr => ∃ (k : Nat) (R Q : List Int), k + mv ≤ al + 1 ∧ i = .int .i64 ((k : Int) - 1) ∧ Hid (DivAt A V (al + 1 - mv) k R Q) ∧ Hid (Blk wr gu R) ∧ Hid (Blk wr w4.heap.size Q) ∧ Hid (Rd wr av mv V) ∧ Hid (Kept [] w wr)) (fun i _ => (intOf i + 1).toNat)
  case atStart => exact ⟨al + 1 - mv, _, _, by omega, by congr 1; omega, HST.out, HBU0.out, HBQ0.out, HRV5.out, HK5.out⟩
  case round =>
    obtain ⟨k, R, Q, hk, rfl, hD, hBR, hBQ, hRV, hK⟩ := hrel
    obtain ⟨wo, rfl⟩ : ∃ wo : World, wo = wr := ⟨_, rfl⟩
    have hRl := hD.out.length (by rw [← HAL.out, ← HVL.out]; omega)
    rw [← HAL.out] at hRl
    obtain ⟨hRa, hQa, hQl⟩ := hD.out.limbs
    have HRL := Lib.hid hRl
    have HQL := Lib.hid hQl
    have HRA := Lib.hid hRa
    have HQA := Lib.hid hQa
    clear hRl hRa hQa hQl
    by_cases hlt : 0 < k
    · obtain ⟨j, rfl⟩ : ∃ j, k = j + 1 := ⟨k - 1, by omega⟩
      have ej : (((j + 1 : Nat) : Int) - 1) = (j : Int) := by omega
      rw [ej]
      obtain ⟨ss, s1, s2, s3, s4, s5⟩ := hD.out.window (by rw [← HAL.out, ← HVL.out]; omega) (by omega) HVV0.out
      rw [← HVL.out] at s1 s3 s5
      have hg := guess1_ge s2 (by rw [s1, HVL.out]) (canon_limbs HVC.out) (by rw [← HVL.out]; omega) (by rw [← HVL.out]; exact HVT.out)
      have hX0 : 0 ≤ val ss := s2.val.1
      obtain ⟨X, hXe⟩ : ∃ X, X = val ss := ⟨_, rfl⟩
      obtain ⟨VV, hVe⟩ : ∃ VV, VV = val V := ⟨_, rfl⟩
      obtain ⟨G, hG⟩ : ∃ G, G = min (guess1 ss V) 65535 := ⟨_, rfl⟩
      have hV0 := HVV0.out
      rw [← hVe] at hV0
      rw [← hXe] at hX0
      rw [← hXe, ← hVe] at hg s4
      have hq65 : X / VV < 65536 := Int.ediv_lt_of_lt_mul hV0 s4
      have hG1 : X / VV ≤ G := by rw [hG]; omega
      have hG2 : 0 ≤ G := by rw [hG]; omega
      have hG3 : G ≤ 65535 := by rw [hG]; omega
      have hXV0 : 0 ≤ X / VV := Int.ediv_nonneg hX0 (by omega)
      have S1 := Lib.hid s1
      have S2 := Lib.hid s2
      have S3 := Lib.hid s3
      have S5 := Lib.hid s5
      have HXE := Lib.hid hXe
      have HVE := Lib.hid hVe
      have HGE := Lib.hid hG
      have HG1 := Lib.hid hG1
      have HXV0 := Lib.hid hXV0
      have HV0 := Lib.hid hV0
      have hj1 : j + (mv + 1) ≤ al + 1 := by omega
      have HBR := Lib.hid hBR.out
      have HBQ := Lib.hid hBQ.out
      have HRV := Lib.hid hRV.out
      have HKo := Lib.hid hK.out
      clear s1 s2 s3 s4 s5 hg hX0 hXe hVe hG hV0 hq65 hG1 hXV0 hD hBR hBQ hRV hK ej hlt hk
      go_wp2_with fail
      refine (l1Guess_any gu cu R ss (al + 1) j _ mv _ V _ HBR.out HRL.out hj1 (by omega) S1.out S3.out S2.out (by omega) HRV.out (canon_limbs HVC.out) HVT.out).mono ?_
      rintro e wj ⟨rfl, hkj⟩
      rw [← HGE.out]
      have HKJ := Lib.hid hkj
      clear hkj
      go_wp2_with fail
      go_loopw [13] (fun q0 wr => ∃ q : Int, q0 = .int .i64 q ∧ Hid (X / VV ≤ q) ∧ 0 ≤ q ∧ q ≤ 65535 ∧ Hid (Kept [] wo wr)) (fun q0 _ => (intOf q0).toNat)
      case atStart => exact ⟨G, rfl, HG1.out, hG2, hG3, HKJ.out⟩
      case round =>
        obtain ⟨q, rfl, hq, hq0, hq1, hKr⟩ := hrel
        go_wp2_with fail
        refine (l1Take_any gu cu R ss (al + 1) j _ mv _ V q _ (hKr.out.blk HBR.out (by simp)) HRL.out hj1 (by omega) hcu1 hcu2 S1.out S3.out S2.out (HRV.out.kept0 hKr.out) (canon_limbs HVC.out) (by omega) ⟨hq0, hq1⟩).mono ?_
        rintro e w6 h6
        rw [← HXE.out, ← HVE.out] at h6
        rcases h6 with ⟨h7, rfl, hk6⟩ | ⟨h7, out, ds, rfl, p1, p2, p3, p4, p5, p6⟩
        · have hq2 : X / VV < q := Int.ediv_lt_of_lt_mul HV0.out h7
          have hq3 : 0 ≤ q - 1 := by have := HXV0.out; omega
          have HQ2 : Hid (X / VV ≤ q - 1) := by show X / VV ≤ q - 1; omega
          have HKR := Lib.hid (hKr.out.trans0 hk6)
          clear h7 hk6 hq2 hq hKr
          go_wp2
          go_roundw
          case rel => exact ⟨q - 1, rfl, HQ2.out, hq3, by omega, HKR.out⟩
          case measure => simp [intOf]; omega
        · have hq2 : q ≤ X / VV := (Int.le_ediv_iff_mul_le HV0.out).2 (by omega)
          have hqe : q = X / VV := by have := hq.out; omega
          have hvo : val out = val ss % val V := by
            rw [p3, hqe, ← HXE.out, ← HVE.out]
            have h9 := ediv_spec (X := X) HV0.out
            rw [Int.mul_comm]; omega
          have hD2 : Hid (DivAt A V (al + 1 - mv) j ds (Q.set j q)) := by
            have h9 := S5.out out ds (canon_limbs HVC.out) p2 p1 hvo p4
            rw [← HXE.out, ← HVE.out, ← hqe] at h9
            exact h9
          have hkk : Kept [gu] wo w6 := (hKr.out.mono (by simp)).trans p6 (fun x hx _ => hx)
          have hbq := p6.blk (hKr.out.blk HBQ.out (by simp)) (show w4.heap.size ∉ [gu] by simp; omega)
          have hcell := hbq.cell (j := j) (by rw [HQL.out]; omega)
          have hfr := hbq.frozen j
          have HQ2 := Lib.hid (hbq.set j q)
          have HR2 := Lib.hid (p5.other ⟨w4.heap.size, j, none⟩ (.int .i64 q) (by simp; omega))
          have HRV2 := Lib.hid ((HRV.out.kept hkk (fun _ x hx => by have := hVblk.out x hx; simp; omega)).kept ((Kept.refl [w4.heap.size] w6).setCell ⟨w4.heap.size, j, none⟩ (.int .i64 q) (by simp)) (fun _ x hx => by have := hVblk.out x hx; simp; omega))
          have HK6 := Lib.hid ((HKo.out.trans1 hkk (fun h9 => by omega)).setCell ⟨w4.heap.size, j, none⟩ (.int .i64 q) (fun h9 => by simp at h9; omega))
          have ejq : (j : Int) < ((al + 1 - mv : Nat) : Int) := by omega
          have ejn : j < al + 1 - mv := by omega
          have e3 : IntKind.i64.wrap ((j : Int) - 1) = (j : Int) - 1 := IntWalk.i64_in _ (by omega)
          clear p1 p2 p3 p4 p5 p6 hq2 hqe hvo h7 hkk hbq hq hKr
          go_wp2
          go_roundw
          case rel => exact ⟨j, ds, _, by omega, by congr 1, hD2, HR2.out, HQ2.out, HRV2.out, HK6.out⟩
          case measure => simp [intOf]
    · obtain rfl : k = 0 := by omega
      obtain ⟨hv1, hv2⟩ := hD.out.done
      rw [HDV.out] at hv1
      have HV1 := Lib.hid hv1
      have HV2 := Lib.hid hv2
      have hsu : Sl wo (some ⟨gu, 0, none⟩) (al + 1) cu R := by
        have h9 := Sl.ofBlkC (c := cu) hBR.out (by rw [HRL.out]; exact hcu1) hcu2
        rw [HRL.out] at h9; exact h9
      have HSU := Lib.hid hsu
      have HBQ := Lib.hid hBQ.out
      have HKo := Lib.hid hK.out
      clear hv1 hv2 hsu hD hBR hBQ hRV hK hlt hk
      go_wp2_with fail
      refine (l1Trim_any _ _ _ _ _ HSU.out HRA.out (by omega)).mono ?_
      rintro e w6 ⟨v6, rfl, hO6, hk6⟩
      obtain ⟨a6, c6, rfl, hS6, hF6⟩ := hO6.sl
      have HS6 := Lib.hid hS6
      have HBQ6 := Lib.hid (hk6.blk HBQ.out (by simp))
      have HK6 := Lib.hid (HKo.out.trans0 hk6)
      have hvr : val (digits (val R)) = val R := val_digits' HRA.out.val.1
      have HVR := Lib.hid hvr
      clear hO6 hk6 hS6 hF6 hvr
      go_wp2_with fail
      refine (l1Short_any _ _ _ _ sc _ HS6.out.rd (canon_limbs (canon_digits' _)) (by have := digits_len (al + 1) (val R) (by have h9 := HRA.out.val; rw [HRL.out] at h9; exact h9.2); omega) (by omega)).mono ?_
      rintro e w7 ⟨v7, rfl, hO7, hk7⟩
      rw [HVR.out, HV2.out] at hO7
      rw [HVR.out]
      obtain ⟨a7, c7, rfl, hS7, hF7⟩ := hO7.sl
      rw [HMS.out] at hS7 hF7 ⊢
      have HS7 := Lib.hid hS7
      have HF7 := Lib.hid (hF7.mono HK6.out.size)
      have HBQ7 := Lib.hid (hk7.blk HBQ6.out (by simp))
      have HK7 := Lib.hid (HK6.out.trans0 hk7)
      clear hO7 hk7 hS7 hF7
      generalize val R % sc = lo at *
      go_wp2_with fail
      refine (l1Trim_any _ _ _ Q _ (sl_blk HBQ7.out HQL.out (by omega)) HQA.out (by omega)).mono ?_
      rintro e w8 ⟨v8, rfl, hO8, hk8⟩
      rw [HV1.out] at hO8
      obtain ⟨a8, c8, rfl, hS8, hF8⟩ := hO8.sl
      have HS8 := Lib.hid hS8
      have HF8 := Lib.hid (hF8.mono HK7.out.size)
      have HS78 := Lib.hid (HS7.out.kept0 hk8)
      have HK8 := Lib.hid (HK7.out.trans0 hk8)
      clear hO8 hk8 hS8 hF8
      go_wp2_with fail
      go_ret2
      exact ⟨a8, c8, a7, c7, rfl, HS8.out, HS78.out, HF8.out, HF7.out, HK8.out⟩

end Go.Proofs.Ytgplghjameiciaa

namespace Go.Proofs.Ytgplghjameiciaa
open Go.RowKit

theorem l1Div_any (a b : Option Addr) (n c m d : Nat) (xs ys : List Int) (w : World) (h : Sl w a n c xs) (h' : Rd w b m ys) (hx : Canon xs) (hy : Canon ys) (hn : n ≤ 900) (hm1 : 1 ≤ m) (hm2 : m ≤ 900) :
    Calls Try.prog 70 #[.slice a n c, .slice b m d] w (DivT w (digits (val xs / val ys)) (digits (val xs % val ys))) := by
  by_cases hlt : val xs < val ys
  · exact l1Div_small a b n c m d xs ys w h h' hx hy (by omega) hlt
  · rcases (by omega : m = 1 ∨ 2 ≤ m) with e | e
    · subst e
      obtain ⟨y, rfl⟩ : ∃ y, ys = [y] := by
        have := h'.1
        match ys, this with
        | [y], _ => exact ⟨y, rfl⟩
      exact l1Div_one a b n c d xs y w h h' hx hy (by omega) hlt
    · exact l1Div_many a b n c m d xs ys w h h' hx hy hn e (by omega) hlt

/-- A call that answers a code and two slices of new memory. -/
def DivS (w : World) (code : Int) (qs rs : List Int) (e : Ending) (w' : World) : Prop :=
  ∃ a c a' c', e = .returned (.agg #[.int .i64 code, .slice a qs.length c, .slice a' rs.length c']) ∧ Sl w' a qs.length c qs ∧ Sl w' a' rs.length c' rs ∧ Fr w.heap.size a qs.length ∧ Fr w.heap.size a' rs.length ∧ Kept [] w w'
theorem divS_fin {w w1 : World} {a a' : Option Addr} {c c' : Nat} {qs rs : List Int} (code : Int) (hK : Kept [] (w.alloc (.cells #[.int .i64 0, .slice none 0 0, .slice none 0 0] 32)) w1) (hS : Sl w1 a qs.length c qs) (hS' : Sl w1 a' rs.length c' rs) (hF : Fr (w.heap.size + 1) a qs.length) (hF' : Fr (w.heap.size + 1) a' rs.length) :
    DivS w code qs rs (.returned (.agg #[.int .i64 code, .slice a qs.length c, .slice a' rs.length c'])) (((w1.setCell ⟨w.heap.size, 0, none⟩ (.int .i64 code)).setCell ⟨w.heap.size, 1, none⟩ (.slice a qs.length c)).setCell ⟨w.heap.size, 2, none⟩ (.slice a' rs.length c')) :=
  ⟨a, c, a', c', rfl, hS.kept ((((Kept.refl [w.heap.size] w1).setCell _ _ (by simp)).setCell _ _ (by simp)).setCell _ _ (by simp)) (fun hn y hy => by have := hF hn y hy; simp; omega),
    hS'.kept ((((Kept.refl [w.heap.size] w1).setCell _ _ (by simp)).setCell _ _ (by simp)).setCell _ _ (by simp)) (fun hn y hy => by have := hF' hn y hy; simp; omega), hF.mono (by omega), hF'.mono (by omega),
    (((((Kept.refl [] w).alloc _).trans0 hK).setCell _ _ (by simp)).setCell _ _ (by simp)).setCell _ _ (by simp)⟩

set_option maxHeartbeats 2000000 in
theorem sDivNats_any (a b : Option Addr) (n c m c' : Nat) (xs ys : List Int) (w : World) (h : Sl w a n c xs) (h' : Rd w b m ys) :
    Calls Try.prog 28 #[.slice a n c, .slice b m c'] w (DivS w (divCode xs ys) (divQuot xs ys) (divRest xs ys)) := by
  have k0 : Kept [] w (w.alloc (.cells #[.int .i64 0, .slice none 0 0, .slice none 0 0] 32)) := (Kept.refl [] w).alloc _
  have HK0 := Lib.hid k0
  have HS := Lib.hid h
  have HR' := Lib.hid h'
  have HL := Lib.hid h.1
  have HL' := Lib.hid h'.1
  clear h h' k0
  by_cases hz : fault2 xs ys = 0
  · have hz' := Lib.hid hz
    have hx := Lib.hid (natFault_zero (fault2_zero hz).1)
    have hy := Lib.hid (natFault_zero (fault2_zero hz).2)
    have hn40 : n ≤ 40 := by have := hx.out.len; rw [HL.out] at this; exact this
    have hm40 : m ≤ 40 := by have := hy.out.len; rw [HL'.out] at this; exact this
    by_cases hm0 : m = 0
    · have e1 : divCode xs ys = 6 := by unfold divCode; rw [if_pos hz, if_pos (by rw [HL'.out]; exact hm0)]
      have e2 : divQuot xs ys = [] := by unfold divQuot; rw [if_neg (fun h => h.2 (by rw [HL'.out]; exact hm0))]
      have e3 : divRest xs ys = [] := by unfold divRest; rw [if_neg (fun h => h.2 (by rw [HL'.out]; exact hm0))]
      rw [e1, e2, e3]
      clear e1 e2 e3 hz
      subst hm0
      go_enter Try.func28, Try.ntmps28
      go_wp2_with fail
      refine (l1Two_any _ _ _ _ _ _ _ _ _ (HS.out.rd.kept0 HK0.out) (HR'.out.kept0 HK0.out)).mono ?_
      rintro e w1 ⟨rfl, hq⟩
      rw [hz'.out]
      obtain ⟨hc0, hc1, hc2, hf0, hf1, hf2, hsz⟩ := resCellsD hq (by simp)
      obtain ⟨ea, eb, ec⟩ := cells3 (.int .i64 6) (.slice none 0 0) (.slice none 0 0) hc0 hc1 hc2
      have HQ := Lib.hid hq
      clear hq
      go_wp2_with fail
      exact bodyPost_ret (v := .agg #[.int .i64 6, .slice none 0 0, .slice none 0 0]) (by simp [results, Try.results28, go_sem, ea, eb, ec]) rfl (divS_fin (qs := []) (rs := []) 6 HQ.out (Sl.nil _) (Sl.nil _) (fun h => by simp at h) (fun h => by simp at h))
    · have e1 : divCode xs ys = 0 := by unfold divCode; rw [if_pos hz, if_neg (by rw [HL'.out]; exact hm0)]
      have e2 : divQuot xs ys = digits (val xs / val ys) := by unfold divQuot; rw [if_pos ⟨hz, by rw [HL'.out]; exact hm0⟩]
      have e3 : divRest xs ys = digits (val xs % val ys) := by unfold divRest; rw [if_pos ⟨hz, by rw [HL'.out]; exact hm0⟩]
      rw [e1, e2, e3]
      have hmz : ((m : Int) == 0) = false := by rw [beq_eq_false_iff_ne]; omega
      clear e1 e2 e3 hz
      go_enter Try.func28, Try.ntmps28
      go_wp2_with fail
      refine (l1Two_any _ _ _ _ _ _ _ _ _ (HS.out.rd.kept0 HK0.out) (HR'.out.kept0 HK0.out)).mono ?_
      rintro e w1 ⟨rfl, hq⟩
      rw [hz'.out]
      have HQ := Lib.hid (HK0.out.trans0 hq)
      have HQ1 := Lib.hid hq
      clear hq
      go_wp2_with fail
      refine (l1Div_any _ _ _ _ _ _ xs ys _ (HS.out.kept0 HQ.out) (HR'.out.kept0 HQ.out) hx.out.canon hy.out.canon (by omega) (by omega) (by omega)).mono ?_
      rintro e w2 ⟨a1, c1, a2, c2, rfl, t1, t2, t3, t4, hk⟩
      have hsz2 : w.heap.size + 1 ≤ w1.heap.size := by have := HQ1.out.size; simpa using this
      have T1 := Lib.hid t1
      have T2 := Lib.hid t2
      have T3 := Lib.hid (t3.mono hsz2)
      have T4 := Lib.hid (t4.mono hsz2)
      have HK2 := Lib.hid (HQ1.out.trans0 hk)
      obtain ⟨hc0, hc1, hc2, hf0, hf1, hf2, hsz⟩ := resCellsD HK2.out (by simp)
      obtain ⟨ea, eb, ec⟩ := cells3 (.int .i64 0) (.slice a1 (digits (val xs / val ys)).length c1) (.slice a2 (digits (val xs % val ys)).length c2) hc0 hc1 hc2
      clear t1 t2 t3 t4 hk
      go_wp2_with fail
      exact bodyPost_ret (v := .agg #[.int .i64 0, .slice a1 (digits (val xs / val ys)).length c1, .slice a2 (digits (val xs % val ys)).length c2]) (by simp [results, Try.results28, go_sem, ea, eb, ec]) rfl (divS_fin 0 HK2.out T1.out T2.out T3.out T4.out)
  · have e1 : divCode xs ys = fault2 xs ys := if_neg hz
    have e2 : divQuot xs ys = [] := if_neg (fun h => hz h.1)
    have e3 : divRest xs ys = [] := if_neg (fun h => hz h.1)
    rw [e1, e2, e3]
    clear e1 e2 e3
    go_enter Try.func28, Try.ntmps28
    go_wp2_with fail
    refine (l1Two_any _ _ _ _ _ _ _ _ _ (HS.out.rd.kept0 HK0.out) (HR'.out.kept0 HK0.out)).mono ?_
    rintro e w1 ⟨rfl, hq⟩
    generalize hf : fault2 xs ys = f at *
    have hne : (f == 0) = false := by rw [beq_eq_false_iff_ne]; exact hz
    obtain ⟨hc0, hc1, hc2, hf0, hf1, hf2, hsz⟩ := resCellsD hq (by simp)
    obtain ⟨ea, eb, ec⟩ := cells3 (.int .i64 f) (.slice none 0 0) (.slice none 0 0) hc0 hc1 hc2
    have HQ := Lib.hid hq
    have HF := Lib.hid hf
    clear hf hz hq
    go_wp2_with fail
    exact bodyPost_ret (v := .agg #[.int .i64 f, .slice none 0 0, .slice none 0 0]) (by simp [results, Try.results28, go_sem, ea, eb, ec]) rfl (divS_fin (qs := []) (rs := []) f HQ.out (Sl.nil _) (Sl.nil _) (fun h => by simp at h) (fun h => by simp at h))

theorem div_len (xs ys : List Int) : (divQuot xs ys).length ≤ 100 ∧ (divRest xs ys).length ≤ 100 := by
  by_cases hc : fault2 xs ys = 0 ∧ ys.length ≠ 0
  · have hx := natFault_zero (fault2_zero hc.1).1
    have hy := natFault_zero (fault2_zero hc.1).2
    have hxv := (show AllLimbs xs from hx.limb).val
    have hyv : 0 < val ys := (canon_nonneg hy.canon).2 (fun e => hc.2 (by rw [e]; rfl))
    have hl := hx.len
    have h1 := Int.ediv_le_self (b := val ys) hxv.1
    have h2 := (ediv_spec (X := val xs) hyv)
    have h3 := Int.mul_nonneg (Int.le_of_lt hyv) (Int.ediv_nonneg hxv.1 (Int.le_of_lt hyv))
    have d1 := digits_len xs.length (val xs / val ys) (by omega)
    have d2 := digits_len xs.length (val xs % val ys) (by omega)
    unfold divQuot divRest
    rw [if_pos hc, if_pos hc]; omega
  · unfold divQuot divRest
    rw [if_neg hc, if_neg hc]; simp

end Go.Proofs.Ytgplghjameiciaa

namespace Go.Proofs.Ytgplghjameiciaa
open Go.RowKit
attribute [local go_sem ↓] Go.wp_at_zero Go.wp_at_succ

theorem divZ_neg {p q : Bool} {X Y : Int} : - divZ false (!p) q X Y = divZ true p q X Y := by
  unfold divZ
  cases p <;> cases q <;> simp [sg]
theorem divZ_zero {up p q : Bool} {Y : Int} : divZ up p q 0 Y = 0 := by unfold divZ; simp [sg]
theorem divZ_ceil {p q : Bool} {xs : List Int} {Y : Int} (h : Canon xs) : - divZ false (isNeg (- sv p xs)) q (val xs) Y = divZ true p q (val xs) Y := by
  have h0 := (canon_nonneg h).1
  by_cases e : val xs = 0
  · rw [e, divZ_zero, divZ_zero]; rfl
  · have : isNeg (- sv p xs) = !p := by
      unfold sv
      rw [← sg_not, isNeg_sg h0, decide_eq_true (digits_len_pos (by omega))]
      simp
    rw [this]; exact divZ_neg
/-- Zeros and signs of a big that has a number. -/
theorem bigV_out {B B' : Nat} {w w' : World} {z : Int} {e : Ending} (h : BigV B w z e w') (hB : B' ≤ B) : BigV B' w z e w' := by
  obtain ⟨a, c, h1, h2, h3, h4⟩ := h; exact ⟨a, c, h1, h2, h3.mono hB, h4⟩

/-- A big, stored into the result's block, which is the third one of the call. -/
theorem bigV_fin3 {w w1 : World} {z : Int} {a : Option Addr} {c : Nat} (hS : Sl w1 a (mag z).length c (mag z)) (hF : Fr (w.heap.size + 1 + 1 + 1) a (mag z).length) (hk : Kept [] w w1) :
    BigV w.heap.size w z (.returned (.agg #[.bool (isNeg z), .slice a (mag z).length c])) ((w1.setCell ⟨w.heap.size + 1 + 1, 0, none⟩ (.bool (isNeg z))).setCell ⟨w.heap.size + 1 + 1, 1, none⟩ (.slice a (mag z).length c)) :=
  ⟨a, c, rfl, hS.kept (((Kept.refl [w.heap.size + 1 + 1] w1).setCell _ _ (by simp)).setCell _ _ (by simp)) (fun hn x hx => by have := hF hn x hx; simp; omega), hF.mono (by omega),
    (hk.setCell _ _ (by simp; omega)).setCell _ _ (by simp; omega)⟩

set_option maxHeartbeats 3200000 in
theorem l2Floor_inc (p q : Bool) (a b : Option Addr) (n c m d : Nat) (xs ys : List Int) (w : World) (h : Sl w a n c xs) (h' : Sl w b m d ys) (hx : Nat40 xs) (hy : Nat40 ys) (hy0 : ys.length ≠ 0) (hR0 : val xs % val ys ≠ 0) (hsu : (p != q) = true) :
    Calls Try.prog 87 #[.agg #[.bool p, .slice a n c], .agg #[.bool q, .slice b m d]] w (BigV w.heap.size w (divZ false p q (val xs) (val ys))) := by
  have hvx := (canon_nonneg hx.canon).1
  have hvy : 0 < val ys := (canon_nonneg hy.canon).2 (fun e => hy0 (by rw [e]; rfl))
  have hq0 : 0 ≤ val xs / val ys := Int.ediv_nonneg hvx (Int.le_of_lt hvy)
  have hqx : val xs / val ys ≤ val xs := Int.ediv_le_self _ hvx
  have hr0 : 0 ≤ val xs % val ys := Int.emod_nonneg _ (by omega)
  have hxv := (show AllLimbs xs from hx.limb).val
  have hn9 : n ≤ 900 := by have := hx.len; have := h.1; omega
  have hm9 : m ≤ 900 := by have := hy.len; have := h'.1; omega
  have hm1 : 1 ≤ m := by have := h'.1; omega
  have HX := Lib.hid hx.canon
  have HY := Lib.hid hy.canon
  obtain ⟨X, hX⟩ : ∃ X, X = val xs / val ys := ⟨_, rfl⟩
  obtain ⟨R, hR⟩ : ∃ R, R = val xs % val ys := ⟨_, rfl⟩
  rw [← hX] at hq0
  have HV := Lib.hid hq0
  have HQX := Lib.hid hX
  have HRX := Lib.hid hR
  obtain ⟨s, hs⟩ : ∃ s, s = !(p == q) := ⟨_, rfl⟩
  have hpq : (p == q) = !s := by rw [hs]; simp
  have hsz0 : (!!s) = s := by simp
  obtain ⟨L, hL⟩ : ∃ L, L = (digits R).length := ⟨_, rfl⟩
  have HL := Lib.hid hL
  have hse : s = true := by rw [hs]; exact hsu
  have hLp : 0 < L := by rw [hL]; exact digits_len_pos (by omega)
  have hv1 : 0 ≤ X + 1 := by omega
  have HV1 := Lib.hid hv1
  have hdz : divZ false p q (val xs) (val ys) = sg s (X + 1) := by unfold divZ; rw [if_pos ⟨hR0, by rw [hsu]; simp⟩, hs, hX]; rfl
  rw [hdz]
  have hval : val (digits X) + val [1] = X + 1 := by rw [val_digits' hq0]; rfl
  have HVAL := Lib.hid hval
  have hXl : (digits X).length ≤ 1000000 := by have := digits_len xs.length X (by omega); have := hx.len; omega
  have h1c : Canon [1] := ⟨by omega, by omega, trivial, fun _ => by omega⟩
  have H1C := Lib.hid h1c
  clear hval h1c hdz hv1 hR0 hsu
  subst hse
  clear hvx hvy hq0 hqx hr0 hxv hX hR hs hL hx hy hy0
  have HS := Lib.hid h
  have HS' := Lib.hid h'
  clear h h'
  have k0 : Kept [] w (((w.alloc (.cells #[.bool p, .slice a n c] 40)).alloc (.cells #[.bool q, .slice b m d] 40)).alloc (.cells #[.bool false, .slice none 0 0] 40)) := (((Kept.refl [] w).alloc _).alloc _).alloc _
  have K0 := Lib.hid k0
  clear k0
  go_enter Try.func87, Try.ntmps87
  go_wp2_with fail
  refine (l1Div_any _ _ _ _ _ _ _ _ _ (HS.out.kept0 K0.out) (HS'.out.rd.kept0 K0.out) HX.out HY.out hn9 hm1 hm9).mono ?_
  rintro e w1 ⟨a3, x3, a4, x4, rfl, hs3, hs4, hf3, hf4, hk⟩
  rw [← HQX.out, ← HRX.out, ← HL.out]
  rw [← HQX.out] at hs3 hf3
  have c00 := (hk.peel.peel.top (g := w.heap.size) (by simp) (by simp) 0 (v := .bool p) rfl).1
  have c01 := (hk.peel.peel.top (g := w.heap.size) (by simp) (by simp) 1 (v := .slice a n c) rfl).1
  have c10 := (hk.peel.top (g := w.heap.size + 1) (by simp) (by simp) 0 (v := .bool q) rfl).1
  have c11 := (hk.peel.top (g := w.heap.size + 1) (by simp) (by simp) 1 (v := .slice b m d) rfl).1
  obtain ⟨rc0, rf0, hsz⟩ := hk.top (g := w.heap.size + 1 + 1) (by simp) (by simp) 0 (v := .bool false) rfl
  obtain ⟨rc1, rf1, hsz⟩ := hk.top (g := w.heap.size + 1 + 1) (by simp) (by simp) 1 (v := .slice none 0 0) rfl
  have HK := Lib.hid (K0.out.trans0 hk)
  have HK1 := Lib.hid hk
  have HS3 := Lib.hid hs3
  have HF3 := Lib.hid hf3
  clear hk hs3 hs4 hf3 hf4
  go_wp2_with fail
  have k7 : Kept [] w1 (w1.alloc (.cells #[.int .i64 1] 2)) := (Kept.refl [] _).alloc _
  have K7 := Lib.hid k7
  clear k7
  refine (l1Add_any _ _ _ _ _ _ _ _ _ (HS3.out.kept0 K7.out).rd (rd_row1 _ rfl) (canon_digits' X) H1C.out hXl (by omega)).mono ?_
  rintro e w6 ⟨v6, rfl, ho6, hk⟩
  rw [HVAL.out] at ho6
  obtain ⟨a6, x6, rfl, hs6, hf6⟩ := ho6.sl
  have rf0 := hk.peel.free' (p := ⟨w.heap.size + 1 + 1, 0, none⟩) rc0 rf0 (by simp)
  have rf1 := hk.peel.free' (p := ⟨w.heap.size + 1 + 1, 1, none⟩) rc1 rf1 (by simp)
  have c00 := hk.peel.cell (p := ⟨w.heap.size, 0, none⟩) c00 (by simp)
  have c01 := hk.peel.cell (p := ⟨w.heap.size, 1, none⟩) c01 (by simp)
  have c10 := hk.peel.cell (p := ⟨w.heap.size + 1, 0, none⟩) c10 (by simp)
  have c11 := hk.peel.cell (p := ⟨w.heap.size + 1, 1, none⟩) c11 (by simp)
  have rc0 := hk.peel.cell (p := ⟨w.heap.size + 1 + 1, 0, none⟩) rc0 (by simp)
  have rc1 := hk.peel.cell (p := ⟨w.heap.size + 1 + 1, 1, none⟩) rc1 (by simp)
  have HK6 := Lib.hid (HK.out.trans0 hk.peel)
  have HK16 := Lib.hid hk.peel
  have HS6 := Lib.hid hs6
  have HF6 := Lib.hid (hf6.mono (B' := w1.heap.size) (by simp))
  clear hk hs6 hf6 ho6
  go_wp2_with fail
  refine (l2Big_any _ _ _ _ _ _ HV1.out rfl).mono ?_
  rintro e w9 ⟨rfl, hk⟩
  have rf0 := hk.free' (p := ⟨w.heap.size + 1 + 1, 0, none⟩) rc0 rf0 (by simp)
  have rf1 := hk.free' (p := ⟨w.heap.size + 1 + 1, 1, none⟩) rc1 rf1 (by simp)
  have rc0 := hk.cell (p := ⟨w.heap.size + 1 + 1, 0, none⟩) rc0 (by simp)
  have rc1 := hk.cell (p := ⟨w.heap.size + 1 + 1, 1, none⟩) rc1 (by simp)
  have hs9 := HS6.out.kept0 hk
  have hf9 : Fr (w.heap.size + 1 + 1 + 1) a6 (digits (X + 1)).length := HF6.out.mono (Nat.le_trans (by simp) HK1.out.size)
  have HK9 := Lib.hid (HK6.out.trans0 hk)
  have hmm := mag_sg (neg := true) HV1.out
  rw [← hmm] at hs9 hf9 ⊢
  have HS9 := Lib.hid hs9
  have HF9 := Lib.hid hf9
  clear hs9 hf9 hk
  obtain ⟨z, hz⟩ : ∃ z, z = sg true (X + 1) := ⟨_, rfl⟩
  rw [← hz] at HS9 HF9 ⊢
  have HZ := Lib.hid hz
  clear hz hmm
  obtain ⟨_, eb, ec⟩ := cells2 (.bool (isNeg z)) (.slice a6 (mag z).length x6) rc0 rc1
  go_wp2_with fail
  exact bodyPost_ret (v := .agg #[.bool (isNeg z), .slice a6 (mag z).length x6]) (by simp [results, Try.results87, go_sem, eb, ec]) rfl (by rw [← HZ.out]; exact bigV_fin3 HS9.out HF9.out HK9.out)

set_option maxHeartbeats 3200000 in
theorem l2Floor_flat0 (p q : Bool) (a b : Option Addr) (n c m d : Nat) (xs ys : List Int) (w : World) (h : Sl w a n c xs) (h' : Sl w b m d ys) (hx : Nat40 xs) (hy : Nat40 ys) (hy0 : ys.length ≠ 0) (hR0 : val xs % val ys = 0) (hsu : (p != q) = true) :
    Calls Try.prog 87 #[.agg #[.bool p, .slice a n c], .agg #[.bool q, .slice b m d]] w (BigV w.heap.size w (divZ false p q (val xs) (val ys))) := by
  have hvx := (canon_nonneg hx.canon).1
  have hvy : 0 < val ys := (canon_nonneg hy.canon).2 (fun e => hy0 (by rw [e]; rfl))
  have hq0 : 0 ≤ val xs / val ys := Int.ediv_nonneg hvx (Int.le_of_lt hvy)
  have hqx : val xs / val ys ≤ val xs := Int.ediv_le_self _ hvx
  have hr0 : 0 ≤ val xs % val ys := Int.emod_nonneg _ (by omega)
  have hxv := (show AllLimbs xs from hx.limb).val
  have hn9 : n ≤ 900 := by have := hx.len; have := h.1; omega
  have hm9 : m ≤ 900 := by have := hy.len; have := h'.1; omega
  have hm1 : 1 ≤ m := by have := h'.1; omega
  have HX := Lib.hid hx.canon
  have HY := Lib.hid hy.canon
  obtain ⟨X, hX⟩ : ∃ X, X = val xs / val ys := ⟨_, rfl⟩
  obtain ⟨R, hR⟩ : ∃ R, R = val xs % val ys := ⟨_, rfl⟩
  rw [← hX] at hq0
  have HV := Lib.hid hq0
  have HQX := Lib.hid hX
  have HRX := Lib.hid hR
  obtain ⟨s, hs⟩ : ∃ s, s = !(p == q) := ⟨_, rfl⟩
  have hpq : (p == q) = !s := by rw [hs]; simp
  have hsz0 : (!!s) = s := by simp
  obtain ⟨L, hL⟩ : ∃ L, L = (digits R).length := ⟨_, rfl⟩
  have HL := Lib.hid hL
  have hL0 : L = 0 := by rw [hL, hR, hR0, digits_zero (by omega)]; rfl
  have hse : s = true := by rw [hs]; exact hsu
  have hdz : divZ false p q (val xs) (val ys) = sg s X := by unfold divZ; rw [if_neg (fun hn => hn.1 hR0), hs, hX]; rfl
  rw [hdz]
  clear hdz hR0 hsu
  subst hL0 hse
  clear hvx hvy hq0 hqx hr0 hxv hX hR hs hL hx hy hy0
  have HS := Lib.hid h
  have HS' := Lib.hid h'
  clear h h'
  have k0 : Kept [] w (((w.alloc (.cells #[.bool p, .slice a n c] 40)).alloc (.cells #[.bool q, .slice b m d] 40)).alloc (.cells #[.bool false, .slice none 0 0] 40)) := (((Kept.refl [] w).alloc _).alloc _).alloc _
  have K0 := Lib.hid k0
  clear k0
  go_enter Try.func87, Try.ntmps87
  go_wp2_with fail
  refine (l1Div_any _ _ _ _ _ _ _ _ _ (HS.out.kept0 K0.out) (HS'.out.rd.kept0 K0.out) HX.out HY.out hn9 hm1 hm9).mono ?_
  rintro e w1 ⟨a3, x3, a4, x4, rfl, hs3, hs4, hf3, hf4, hk⟩
  rw [← HQX.out, ← HRX.out, ← HL.out]
  rw [← HQX.out] at hs3 hf3
  have c00 := (hk.peel.peel.top (g := w.heap.size) (by simp) (by simp) 0 (v := .bool p) rfl).1
  have c01 := (hk.peel.peel.top (g := w.heap.size) (by simp) (by simp) 1 (v := .slice a n c) rfl).1
  have c10 := (hk.peel.top (g := w.heap.size + 1) (by simp) (by simp) 0 (v := .bool q) rfl).1
  have c11 := (hk.peel.top (g := w.heap.size + 1) (by simp) (by simp) 1 (v := .slice b m d) rfl).1
  obtain ⟨rc0, rf0, hsz⟩ := hk.top (g := w.heap.size + 1 + 1) (by simp) (by simp) 0 (v := .bool false) rfl
  obtain ⟨rc1, rf1, hsz⟩ := hk.top (g := w.heap.size + 1 + 1) (by simp) (by simp) 1 (v := .slice none 0 0) rfl
  have HK := Lib.hid (K0.out.trans0 hk)
  have HK1 := Lib.hid hk
  have HS3 := Lib.hid hs3
  have HF3 := Lib.hid hf3
  clear hk hs3 hs4 hf3 hf4
  go_wp2_with fail
  refine (l2Big_any _ _ _ _ _ _ HV.out rfl).mono ?_
  rintro e w9 ⟨rfl, hk⟩
  have rf0 := hk.free' (p := ⟨w.heap.size + 1 + 1, 0, none⟩) rc0 rf0 (by simp)
  have rf1 := hk.free' (p := ⟨w.heap.size + 1 + 1, 1, none⟩) rc1 rf1 (by simp)
  have rc0 := hk.cell (p := ⟨w.heap.size + 1 + 1, 0, none⟩) rc0 (by simp)
  have rc1 := hk.cell (p := ⟨w.heap.size + 1 + 1, 1, none⟩) rc1 (by simp)
  have hs9 := HS3.out.kept0 hk
  have hf9 : Fr (w.heap.size + 1 + 1 + 1) a3 (digits X).length := HF3.out.mono (by simp)
  have HK9 := Lib.hid (HK.out.trans0 hk)
  have hmm := mag_sg (neg := true) HV.out
  rw [← hmm] at hs9 hf9 ⊢
  have HS9 := Lib.hid hs9
  have HF9 := Lib.hid hf9
  clear hs9 hf9 hk
  obtain ⟨z, hz⟩ : ∃ z, z = sg true X := ⟨_, rfl⟩
  rw [← hz] at HS9 HF9 ⊢
  have HZ := Lib.hid hz
  clear hz hmm
  obtain ⟨_, eb, ec⟩ := cells2 (.bool (isNeg z)) (.slice a3 (mag z).length x3) rc0 rc1
  go_wp2_with fail
  exact bodyPost_ret (v := .agg #[.bool (isNeg z), .slice a3 (mag z).length x3]) (by simp [results, Try.results87, go_sem, eb, ec]) rfl (by rw [← HZ.out]; exact bigV_fin3 HS9.out HF9.out HK9.out)

set_option maxHeartbeats 3200000 in
theorem l2Floor_flat (p q : Bool) (a b : Option Addr) (n c m d : Nat) (xs ys : List Int) (w : World) (h : Sl w a n c xs) (h' : Sl w b m d ys) (hx : Nat40 xs) (hy : Nat40 ys) (hy0 : ys.length ≠ 0) (hsu : (p != q) = false) :
    Calls Try.prog 87 #[.agg #[.bool p, .slice a n c], .agg #[.bool q, .slice b m d]] w (BigV w.heap.size w (divZ false p q (val xs) (val ys))) := by
  have hvx := (canon_nonneg hx.canon).1
  have hvy : 0 < val ys := (canon_nonneg hy.canon).2 (fun e => hy0 (by rw [e]; rfl))
  have hq0 : 0 ≤ val xs / val ys := Int.ediv_nonneg hvx (Int.le_of_lt hvy)
  have hqx : val xs / val ys ≤ val xs := Int.ediv_le_self _ hvx
  have hr0 : 0 ≤ val xs % val ys := Int.emod_nonneg _ (by omega)
  have hxv := (show AllLimbs xs from hx.limb).val
  have hn9 : n ≤ 900 := by have := hx.len; have := h.1; omega
  have hm9 : m ≤ 900 := by have := hy.len; have := h'.1; omega
  have hm1 : 1 ≤ m := by have := h'.1; omega
  have HX := Lib.hid hx.canon
  have HY := Lib.hid hy.canon
  obtain ⟨X, hX⟩ : ∃ X, X = val xs / val ys := ⟨_, rfl⟩
  obtain ⟨R, hR⟩ : ∃ R, R = val xs % val ys := ⟨_, rfl⟩
  rw [← hX] at hq0
  have HV := Lib.hid hq0
  have HQX := Lib.hid hX
  have HRX := Lib.hid hR
  obtain ⟨s, hs⟩ : ∃ s, s = !(p == q) := ⟨_, rfl⟩
  have hpq : (p == q) = !s := by rw [hs]; simp
  have hsz0 : (!!s) = s := by simp
  obtain ⟨L, hL⟩ : ∃ L, L = (digits R).length := ⟨_, rfl⟩
  have HL := Lib.hid hL
  have hse : s = false := by rw [hs]; exact hsu
  have hdz : divZ false p q (val xs) (val ys) = sg s X := by unfold divZ; rw [if_neg (fun hn => hn.2 hsu), hs, hX]; rfl
  rw [hdz]
  clear hdz hsu
  subst hse
  clear hvx hvy hq0 hqx hr0 hxv hX hR hs hL hx hy hy0
  have HS := Lib.hid h
  have HS' := Lib.hid h'
  clear h h'
  have k0 : Kept [] w (((w.alloc (.cells #[.bool p, .slice a n c] 40)).alloc (.cells #[.bool q, .slice b m d] 40)).alloc (.cells #[.bool false, .slice none 0 0] 40)) := (((Kept.refl [] w).alloc _).alloc _).alloc _
  have K0 := Lib.hid k0
  clear k0
  go_enter Try.func87, Try.ntmps87
  go_wp2_with fail
  refine (l1Div_any _ _ _ _ _ _ _ _ _ (HS.out.kept0 K0.out) (HS'.out.rd.kept0 K0.out) HX.out HY.out hn9 hm1 hm9).mono ?_
  rintro e w1 ⟨a3, x3, a4, x4, rfl, hs3, hs4, hf3, hf4, hk⟩
  rw [← HQX.out, ← HRX.out, ← HL.out]
  rw [← HQX.out] at hs3 hf3
  have c00 := (hk.peel.peel.top (g := w.heap.size) (by simp) (by simp) 0 (v := .bool p) rfl).1
  have c01 := (hk.peel.peel.top (g := w.heap.size) (by simp) (by simp) 1 (v := .slice a n c) rfl).1
  have c10 := (hk.peel.top (g := w.heap.size + 1) (by simp) (by simp) 0 (v := .bool q) rfl).1
  have c11 := (hk.peel.top (g := w.heap.size + 1) (by simp) (by simp) 1 (v := .slice b m d) rfl).1
  obtain ⟨rc0, rf0, hsz⟩ := hk.top (g := w.heap.size + 1 + 1) (by simp) (by simp) 0 (v := .bool false) rfl
  obtain ⟨rc1, rf1, hsz⟩ := hk.top (g := w.heap.size + 1 + 1) (by simp) (by simp) 1 (v := .slice none 0 0) rfl
  have HK := Lib.hid (K0.out.trans0 hk)
  have HK1 := Lib.hid hk
  have HS3 := Lib.hid hs3
  have HF3 := Lib.hid hf3
  clear hk hs3 hs4 hf3 hf4
  go_wp2_with fail
  refine (l2Big_any _ _ _ _ _ _ HV.out rfl).mono ?_
  rintro e w9 ⟨rfl, hk⟩
  have rf0 := hk.free' (p := ⟨w.heap.size + 1 + 1, 0, none⟩) rc0 rf0 (by simp)
  have rf1 := hk.free' (p := ⟨w.heap.size + 1 + 1, 1, none⟩) rc1 rf1 (by simp)
  have rc0 := hk.cell (p := ⟨w.heap.size + 1 + 1, 0, none⟩) rc0 (by simp)
  have rc1 := hk.cell (p := ⟨w.heap.size + 1 + 1, 1, none⟩) rc1 (by simp)
  have hs9 := HS3.out.kept0 hk
  have hf9 : Fr (w.heap.size + 1 + 1 + 1) a3 (digits X).length := HF3.out.mono (by simp)
  have HK9 := Lib.hid (HK.out.trans0 hk)
  have hmm := mag_sg (neg := false) HV.out
  rw [← hmm] at hs9 hf9 ⊢
  have HS9 := Lib.hid hs9
  have HF9 := Lib.hid hf9
  clear hs9 hf9 hk
  obtain ⟨z, hz⟩ : ∃ z, z = sg false X := ⟨_, rfl⟩
  rw [← hz] at HS9 HF9 ⊢
  have HZ := Lib.hid hz
  clear hz hmm
  obtain ⟨_, eb, ec⟩ := cells2 (.bool (isNeg z)) (.slice a3 (mag z).length x3) rc0 rc1
  go_wp2_with fail
  exact bodyPost_ret (v := .agg #[.bool (isNeg z), .slice a3 (mag z).length x3]) (by simp [results, Try.results87, go_sem, eb, ec]) rfl (by rw [← HZ.out]; exact bigV_fin3 HS9.out HF9.out HK9.out)

theorem l2Floor_any (p q : Bool) (a b : Option Addr) (n c m d : Nat) (xs ys : List Int) (w : World) (h : Sl w a n c xs) (h' : Sl w b m d ys) (hx : Nat40 xs) (hy : Nat40 ys) (hy0 : ys.length ≠ 0) :
    Calls Try.prog 87 #[.agg #[.bool p, .slice a n c], .agg #[.bool q, .slice b m d]] w (BigV w.heap.size w (divZ false p q (val xs) (val ys))) := by
  by_cases hs : (p != q) = true
  · by_cases hr : val xs % val ys = 0
    · exact l2Floor_flat0 _ _ _ _ _ _ _ _ _ _ _ h h' hx hy hy0 hr hs
    · exact l2Floor_inc _ _ _ _ _ _ _ _ _ _ _ h h' hx hy hy0 hr hs
  · exact l2Floor_flat _ _ _ _ _ _ _ _ _ _ _ h h' hx hy hy0 (by simpa using hs)

set_option maxHeartbeats 3200000 in
theorem l2Ceil_any (p q : Bool) (a b : Option Addr) (n c m d : Nat) (xs ys : List Int) (w : World) (h : Sl w a n c xs) (h' : Sl w b m d ys) (hx : Nat40 xs) (hy : Nat40 ys) (hy0 : ys.length ≠ 0) :
    Calls Try.prog 89 #[.agg #[.bool p, .slice a n c], .agg #[.bool q, .slice b m d]] w (BigV w.heap.size w (divZ true p q (val xs) (val ys))) := by
  have hm : mag (sv p xs) = xs := mag_sv hx.canon
  have hv : sg p (val (mag (sv p xs))) = sv p xs := by rw [hm]; rfl
  have hl : (mag (sv p xs)).length = n := by rw [hm]; exact h.1
  have hz := divZ_ceil (p := p) (q := q) (Y := val ys) hx.canon
  have HV := Lib.hid hv
  have HL := Lib.hid hl
  have HX := Lib.hid hx
  have HY := Lib.hid hy
  have HY0 := Lib.hid hy0
  rw [← hz]
  clear hm hv hl hx hy hy0 hz
  have HS := Lib.hid h
  have HS' := Lib.hid h'
  clear h h'
  have k0 : Kept [] w (((w.alloc (.cells #[.bool p, .slice a n c] 40)).alloc (.cells #[.bool q, .slice b m d] 40)).alloc (.cells #[.bool false, .slice none 0 0] 40)) := (((Kept.refl [] w).alloc _).alloc _).alloc _
  have K0 := Lib.hid k0
  clear k0
  go_enter Try.func89, Try.ntmps89
  go_wp2_with fail
  generalize hW : (((w.alloc (.cells #[.bool p, .slice a n c] 40)).alloc (.cells #[.bool q, .slice b m d] 40)).alloc (.cells #[.bool false, .slice none 0 0] 40)) = W at *
  have k0 : Kept [] (((w.alloc (.cells #[.bool p, .slice a n c] 40)).alloc (.cells #[.bool q, .slice b m d] 40)).alloc (.cells #[.bool false, .slice none 0 0] 40)) W := by rw [hW]; exact Kept.refl _ _
  have c00 := (k0.peel.peel.top (g := w.heap.size) (by simp) (by simp) 0 (v := .bool p) rfl).1
  have c01 := (k0.peel.peel.top (g := w.heap.size) (by simp) (by simp) 1 (v := .slice a n c) rfl).1
  have c10 := (k0.peel.top (g := w.heap.size + 1) (by simp) (by simp) 0 (v := .bool q) rfl).1
  have c11 := (k0.peel.top (g := w.heap.size + 1) (by simp) (by simp) 1 (v := .slice b m d) rfl).1
  obtain ⟨rc0, rf0, hsz⟩ := k0.top (g := w.heap.size + 1 + 1) (by simp) (by simp) 0 (v := .bool false) rfl
  obtain ⟨rc1, rf1, hsz⟩ := k0.top (g := w.heap.size + 1 + 1) (by simp) (by simp) 1 (v := .slice none 0 0) rfl
  clear k0 hW
  go_region_held3 (fun w' => w'.cell? ⟨w.heap.size, 0, none⟩ = some (.bool p) ∧ w'.cell? ⟨w.heap.size, 1, none⟩ = some (.slice a n c) ∧ w'.cell? ⟨w.heap.size + 1, 0, none⟩ = some (.bool q) ∧ w'.cell? ⟨w.heap.size + 1, 1, none⟩ = some (.slice b m d) ∧ Hid (Kept [w.heap.size + 1 + 1] W w'))
    ((go_split_ands; (try refine ⟨?_, ?_, ?_, ?_, ?_⟩) <;> with_reducible first | exact Lib.hid ((Kept.refl _ _).drew) | exact drew_cell (by assumption) | exact Kept.set2 (by assumption) | exact cell_set2 (by assumption) (by simp <;> omega) | exact Lib.hid (Kept.trans0 (Hid.out (by assumption)) (by assumption)) | exact Kept.cell (by assumption) (by assumption) (by simp)))
    (first
      | (go_at_call_of 107 (Value.agg #[Value.bool p, Value.slice a n c]); go_split_ands; refine (l2Neg_any _ _ _ _ _ _ HV.out HL.out).mono ?_; rintro e w1 ⟨rfl, hk1⟩)
      | (go_at_call 87; go_split_ands; refine (l2Floor_any _ _ _ _ _ _ _ _ _ _ _ (HS.out.kept0 (K0.out.drew.trans0 hk1)) (HS'.out.kept0 (K0.out.drew.trans0 hk1)) HX.out HY.out HY0.out).mono ?_; rintro e w3 ⟨a2, x2, rfl, hs3, hf3, hk3⟩)
      | (go_at_call 107; go_split_ands; refine (l2Neg_any _ _ _ _ _ _ (sv_mag _) rfl).mono ?_; rintro e w2 ⟨rfl, hk4⟩; have hk2 := (hk1.trans0 hk3).trans0 hk4; have hs2 := hs3.kept0 hk4; have hf2 := hf3.mono (show W.heap.size ≤ w1.heap.size from hk1.size); have g0 := hk2.cell (p := ⟨w.heap.size + 1 + 1, 0, none⟩) rc0 (by simp); have g1 := hk2.cell (p := ⟨w.heap.size + 1 + 1, 1, none⟩) rc1 (by simp); have e0 := hk2.free' (p := ⟨w.heap.size + 1 + 1, 0, none⟩) rc0 rf0 (by simp); have e1 := hk2.free' (p := ⟨w.heap.size + 1 + 1, 1, none⟩) rc1 rf1 (by simp)))
  have hmm := (mag_neg (divZ false (isNeg (-sv p xs)) q (val xs) (val ys))).symm
  rw [hmm] at hs2 hf2 ⊢
  obtain ⟨z, hz⟩ : ∃ z, z = - divZ false (isNeg (-sv p xs)) q (val xs) (val ys) := ⟨_, rfl⟩
  rw [← hz] at hs2 hf2 ⊢
  have HZ := Lib.hid hz
  have HS2 := Lib.hid hs2
  have HF2 := Lib.hid hf2
  have HK2 := Lib.hid (K0.out.drew.trans0 hk2)
  obtain ⟨_, eb, ec⟩ := cells2 (.bool (isNeg z)) (.slice a2 (mag z).length x2) g0 g1
  clear hz hmm hs2 hf2 hk2 hs3 hf3 hk3 hk4 hk1
  go_wp2_with fail
  exact bodyPost_ret (v := .agg #[.bool (isNeg z), .slice a2 (mag z).length x2]) (by simp [results, Try.results89, go_sem, eb, ec]) rfl (by rw [← HZ.out]; exact bigV_fin (w0 := W) (g := w.heap.size + 1 + 1) (by omega) HS2.out HF2.out hsz HK2.out)

set_option maxHeartbeats 1000000 in
theorem l2Divs_any (p q : Bool) (a b : Option Addr) (n c m d : Nat) (xs ys : List Int) (w : World) (h : Rd w a n xs) (h' : Rd w b m ys) :
    Calls Try.prog 86 #[.agg #[.bool p, .slice a n c], .agg #[.bool q, .slice b m d]] w (Ans w (.int .i64 (if bigFault2 p xs q ys = 0 then (if ys.length = 0 then 6 else 0) else bigFault2 p xs q ys))) := by
  have HR := Lib.hid h
  have HR' := Lib.hid h'
  have HL' := Lib.hid h'.1
  have hmax := h'.2.1
  clear h h'
  have k0 : Kept [] w ((w.alloc (.cells #[.bool p, .slice a n c] 40)).alloc (.cells #[.bool q, .slice b m d] 40)) := ((Kept.refl [] w).alloc _).alloc _
  have K0 := Lib.hid k0
  clear k0
  by_cases hz : bigFault2 p xs q ys = 0
  · rw [if_pos hz]
    have hz' := Lib.hid hz
    clear hz
    by_cases hm : m = 0
    · rw [if_pos (by rw [HL'.out]; exact hm)]
      subst hm
      go_enter Try.func86, Try.ntmps86
      go_wp2_with fail
      refine (l2Two_any _ _ _ _ _ _ _ _ _ _ _ (HR.out.kept0 K0.out) (HR'.out.kept0 K0.out)).mono ?_
      rintro e w1 ⟨rfl, hk⟩
      rw [hz'.out]
      have c11 := (hk.top (g := w.heap.size + 1) (by simp) (by simp) 1 (v := .slice b 0 d) rfl).1
      have HK := Lib.hid (K0.out.trans0 hk)
      clear hk
      go_wp2_with fail
      go_ret
      exact ⟨rfl, HK.out⟩
    · rw [if_neg (by rw [HL'.out]; exact hm)]
      have hm' : ((m : Int) == 0) = false := by rw [beq_eq_false_iff_ne]; omega
      go_enter Try.func86, Try.ntmps86
      go_wp2_with fail
      refine (l2Two_any _ _ _ _ _ _ _ _ _ _ _ (HR.out.kept0 K0.out) (HR'.out.kept0 K0.out)).mono ?_
      rintro e w1 ⟨rfl, hk⟩
      rw [hz'.out]
      have c11 := (hk.top (g := w.heap.size + 1) (by simp) (by simp) 1 (v := .slice b m d) rfl).1
      have HK := Lib.hid (K0.out.trans0 hk)
      clear hk
      go_wp2_with fail
      go_ret
      exact ⟨rfl, HK.out⟩
  · rw [if_neg hz]
    generalize hf : bigFault2 p xs q ys = f at *
    have hne : (f == 0) = false := by rw [beq_eq_false_iff_ne]; exact hz
    have HF := Lib.hid hf
    clear hf hz
    go_enter Try.func86, Try.ntmps86
    go_wp2_with fail
    refine (l2Two_any _ _ _ _ _ _ _ _ _ _ _ (HR.out.kept0 K0.out) (HR'.out.kept0 K0.out)).mono ?_
    rintro e w1 ⟨rfl, hk⟩
    rw [HF.out]
    have HK := Lib.hid (K0.out.trans0 hk)
    clear hk
    go_wp2_with fail
    go_ret
    exact ⟨rfl, HK.out⟩

set_option maxHeartbeats 2000000 in
theorem sFloorDiv_any (p q : Bool) (a b : Option Addr) (n c m d : Nat) (xs ys : List Int) (w : World) (h : Sl w a n c xs) (h' : Sl w b m d ys) :
    Calls Try.prog 50 #[.agg #[.bool p, .slice a n c], .agg #[.bool q, .slice b m d]] w (BigR w (divB false p xs q ys)) := by
  have HS := Lib.hid h
  have HS' := Lib.hid h'
  clear h h'
  have k0 : Kept [] w (((w.alloc (.cells #[.bool p, .slice a n c] 40)).alloc (.cells #[.bool q, .slice b m d] 40)).alloc (.cells #[.int .i64 0, .bool false, .slice none 0 0] 42)) := (((Kept.refl [] w).alloc _).alloc _).alloc _
  have K0 := Lib.hid k0
  clear k0
  unfold divB
  by_cases hz : bigFault2 p xs q ys = 0
  · rw [twoB_zero hz]
    have hz' := Lib.hid hz
    obtain ⟨hx, hy⟩ := bigFault2_zero hz
    by_cases hy0 : ys.length = 0
    · rw [if_pos hy0]
      have HY0 := Lib.hid hy0
      clear hx hy hz hy0
      go_enter Try.func50, Try.ntmps50
      go_wp2_with fail
      refine (l2Divs_any _ _ _ _ _ _ _ _ _ _ _ (HS.out.rd.kept0 K0.out) (HS'.out.rd.kept0 K0.out)).mono ?_
      rintro e w1 ⟨rfl, hk⟩
      rw [if_pos hz'.out, if_pos HY0.out]
      obtain ⟨rc0, rf0, hsz⟩ := hk.top (g := w.heap.size + 1 + 1) (by simp) (by simp) 0 (v := .int .i64 0) rfl
      obtain ⟨rc1, rf1, hsz⟩ := hk.top (g := w.heap.size + 1 + 1) (by simp) (by simp) 1 (v := .bool false) rfl
      obtain ⟨rc2, rf2, hsz⟩ := hk.top (g := w.heap.size + 1 + 1) (by simp) (by simp) 2 (v := .slice none 0 0) rfl
      have HK := Lib.hid (K0.out.trans0 hk)
      clear hk
      obtain ⟨ea, eb, ec⟩ := cells3' (.int .i64 6) (.bool false) (.slice none 0 0) rc0 rc1 rc2
      go_wp2_with fail
      exact bodyPost_ret (v := .agg #[.int .i64 6, .bool false, .slice none 0 0]) (by simp [results, Try.results50, go_sem, ea, eb, ec]) rfl (bigR_fin (w0 := w1) (r := noBig 6) (a := none) (c := 0) (g := w.heap.size + 1 + 1) (by omega) (Sl.nil _) (fun h => by simp [noBig] at h) hsz HK.out)
    rw [if_neg hy0]
    have HX := Lib.hid hx.n40
    have HY := Lib.hid hy.n40
    have HBX := Lib.hid hx
    have HBY := Lib.hid hy
    have HY0 := Lib.hid hy0
    clear hx hy hz hy0
    go_enter Try.func50, Try.ntmps50
    go_wp2_with fail
    refine (l2Divs_any _ _ _ _ _ _ _ _ _ _ _ (HS.out.rd.kept0 K0.out) (HS'.out.rd.kept0 K0.out)).mono ?_
    rintro e w1 ⟨rfl, hk⟩
    rw [if_pos hz'.out, if_neg HY0.out]
    have c00 := (hk.peel.peel.top (g := w.heap.size) (by simp) (by simp) 0 (v := .bool p) rfl).1
    have c01 := (hk.peel.peel.top (g := w.heap.size) (by simp) (by simp) 1 (v := .slice a n c) rfl).1
    have c10 := (hk.peel.top (g := w.heap.size + 1) (by simp) (by simp) 0 (v := .bool q) rfl).1
    have c11 := (hk.peel.top (g := w.heap.size + 1) (by simp) (by simp) 1 (v := .slice b m d) rfl).1
    obtain ⟨rc0, rf0, hsz⟩ := hk.top (g := w.heap.size + 1 + 1) (by simp) (by simp) 0 (v := .int .i64 0) rfl
    obtain ⟨rc1, rf1, hsz⟩ := hk.top (g := w.heap.size + 1 + 1) (by simp) (by simp) 1 (v := .bool false) rfl
    obtain ⟨rc2, rf2, hsz⟩ := hk.top (g := w.heap.size + 1 + 1) (by simp) (by simp) 2 (v := .slice none 0 0) rfl
    have HK := Lib.hid (K0.out.trans0 hk)
    clear hk
    go_wp2_with fail
    refine (l2Floor_any _ _ _ _ _ _ _ _ _ _ _ (HS.out.kept0 HK.out) (HS'.out.kept0 HK.out) HX.out HY.out HY0.out).mono ?_
    rintro e w3 ⟨a3, x3, rfl, hs3, hf3, hk3⟩
    have HS3 := Lib.hid hs3
    have HK3 := Lib.hid hk3
    have HF3 := Lib.hid hf3
    clear hs3 hk3 hf3
    go_wp2_with fail
    refine (l2Whole_any _ _ _ _ _ HS3.out).mono ?_
    rintro e w2 ⟨a2, x2, rfl, hs2, hb2, hk4⟩
    have hf2 : Fr w1.heap.size a2 (fitB (divZ false p q (val xs) (val ys))).limbs.length := fr_of_fit HF3.out hb2
    have hk2 := HK3.out.trans0 hk4
    clear hb2 hk4
    obtain ⟨r, hr⟩ : ∃ r, r = fitB (divZ false p q (val xs) (val ys)) := ⟨_, rfl⟩
    rw [← hr] at hs2 hf2 ⊢
    have HR := Lib.hid hr
    have HS2 := Lib.hid hs2
    have HF2 := Lib.hid hf2
    have HK2 := Lib.hid (HK.out.trans0 hk2)
    have g0 := hk2.cell (p := ⟨w.heap.size + 1 + 1, 0, none⟩) rc0 (by simp)
    have g1 := hk2.cell (p := ⟨w.heap.size + 1 + 1, 1, none⟩) rc1 (by simp)
    have g2 := hk2.cell (p := ⟨w.heap.size + 1 + 1, 2, none⟩) rc2 (by simp)
    have e0 := hk2.free' (p := ⟨w.heap.size + 1 + 1, 0, none⟩) rc0 rf0 (by simp)
    have e1 := hk2.free' (p := ⟨w.heap.size + 1 + 1, 1, none⟩) rc1 rf1 (by simp)
    have e2 := hk2.free' (p := ⟨w.heap.size + 1 + 1, 2, none⟩) rc2 rf2 (by simp)
    obtain ⟨ea, eb, ec⟩ := cells3' (.int .i64 r.code) (.bool r.neg) (.slice a2 r.limbs.length x2) g0 g1 g2
    clear hr hs2 hf2 hk2
    go_wp2_with fail
    exact bodyPost_ret (v := .agg #[.int .i64 r.code, .bool r.neg, .slice a2 r.limbs.length x2]) (by simp [results, Try.results50, go_sem, ea, eb, ec]) rfl (by rw [← HR.out]; exact bigR_fin (w0 := w1) (g := w.heap.size + 1 + 1) (by omega) HS2.out HF2.out hsz HK2.out)
  · rw [twoB_not hz]
    generalize hf : bigFault2 p xs q ys = f at *
    have hfz := Lib.hid hz
    have hne : (f == 0) = false := by rw [beq_eq_false_iff_ne]; exact hz
    have HF := Lib.hid hf
    clear hf hz
    go_enter Try.func50, Try.ntmps50
    go_wp2_with fail
    refine (l2Divs_any _ _ _ _ _ _ _ _ _ _ _ (HS.out.rd.kept0 K0.out) (HS'.out.rd.kept0 K0.out)).mono ?_
    rintro e w1 ⟨rfl, hk⟩
    rw [HF.out, if_neg hfz.out]
    obtain ⟨rc0, rf0, hsz⟩ := hk.top (g := w.heap.size + 1 + 1) (by simp) (by simp) 0 (v := .int .i64 0) rfl
    obtain ⟨rc1, rf1, hsz⟩ := hk.top (g := w.heap.size + 1 + 1) (by simp) (by simp) 1 (v := .bool false) rfl
    obtain ⟨rc2, rf2, hsz⟩ := hk.top (g := w.heap.size + 1 + 1) (by simp) (by simp) 2 (v := .slice none 0 0) rfl
    have HK := Lib.hid (K0.out.trans0 hk)
    clear hk
    obtain ⟨ea, eb, ec⟩ := cells3' (.int .i64 f) (.bool false) (.slice none 0 0) rc0 rc1 rc2
    go_wp2_with fail
    exact bodyPost_ret (v := .agg #[.int .i64 f, .bool false, .slice none 0 0]) (by simp [results, Try.results50, go_sem, ea, eb, ec]) rfl (bigR_fin (w0 := w1) (r := noBig f) (a := none) (c := 0) (g := w.heap.size + 1 + 1) (by omega) (Sl.nil _) (fun h => by simp [noBig] at h) hsz HK.out)

set_option maxHeartbeats 2000000 in
theorem sCeilDiv_any (p q : Bool) (a b : Option Addr) (n c m d : Nat) (xs ys : List Int) (w : World) (h : Sl w a n c xs) (h' : Sl w b m d ys) :
    Calls Try.prog 52 #[.agg #[.bool p, .slice a n c], .agg #[.bool q, .slice b m d]] w (BigR w (divB true p xs q ys)) := by
  have HS := Lib.hid h
  have HS' := Lib.hid h'
  clear h h'
  have k0 : Kept [] w (((w.alloc (.cells #[.bool p, .slice a n c] 40)).alloc (.cells #[.bool q, .slice b m d] 40)).alloc (.cells #[.int .i64 0, .bool false, .slice none 0 0] 42)) := (((Kept.refl [] w).alloc _).alloc _).alloc _
  have K0 := Lib.hid k0
  clear k0
  unfold divB
  by_cases hz : bigFault2 p xs q ys = 0
  · rw [twoB_zero hz]
    have hz' := Lib.hid hz
    obtain ⟨hx, hy⟩ := bigFault2_zero hz
    by_cases hy0 : ys.length = 0
    · rw [if_pos hy0]
      have HY0 := Lib.hid hy0
      clear hx hy hz hy0
      go_enter Try.func52, Try.ntmps52
      go_wp2_with fail
      refine (l2Divs_any _ _ _ _ _ _ _ _ _ _ _ (HS.out.rd.kept0 K0.out) (HS'.out.rd.kept0 K0.out)).mono ?_
      rintro e w1 ⟨rfl, hk⟩
      rw [if_pos hz'.out, if_pos HY0.out]
      obtain ⟨rc0, rf0, hsz⟩ := hk.top (g := w.heap.size + 1 + 1) (by simp) (by simp) 0 (v := .int .i64 0) rfl
      obtain ⟨rc1, rf1, hsz⟩ := hk.top (g := w.heap.size + 1 + 1) (by simp) (by simp) 1 (v := .bool false) rfl
      obtain ⟨rc2, rf2, hsz⟩ := hk.top (g := w.heap.size + 1 + 1) (by simp) (by simp) 2 (v := .slice none 0 0) rfl
      have HK := Lib.hid (K0.out.trans0 hk)
      clear hk
      obtain ⟨ea, eb, ec⟩ := cells3' (.int .i64 6) (.bool false) (.slice none 0 0) rc0 rc1 rc2
      go_wp2_with fail
      exact bodyPost_ret (v := .agg #[.int .i64 6, .bool false, .slice none 0 0]) (by simp [results, Try.results52, go_sem, ea, eb, ec]) rfl (bigR_fin (w0 := w1) (r := noBig 6) (a := none) (c := 0) (g := w.heap.size + 1 + 1) (by omega) (Sl.nil _) (fun h => by simp [noBig] at h) hsz HK.out)
    rw [if_neg hy0]
    have HX := Lib.hid hx.n40
    have HY := Lib.hid hy.n40
    have HBX := Lib.hid hx
    have HBY := Lib.hid hy
    have HY0 := Lib.hid hy0
    clear hx hy hz hy0
    go_enter Try.func52, Try.ntmps52
    go_wp2_with fail
    refine (l2Divs_any _ _ _ _ _ _ _ _ _ _ _ (HS.out.rd.kept0 K0.out) (HS'.out.rd.kept0 K0.out)).mono ?_
    rintro e w1 ⟨rfl, hk⟩
    rw [if_pos hz'.out, if_neg HY0.out]
    have c00 := (hk.peel.peel.top (g := w.heap.size) (by simp) (by simp) 0 (v := .bool p) rfl).1
    have c01 := (hk.peel.peel.top (g := w.heap.size) (by simp) (by simp) 1 (v := .slice a n c) rfl).1
    have c10 := (hk.peel.top (g := w.heap.size + 1) (by simp) (by simp) 0 (v := .bool q) rfl).1
    have c11 := (hk.peel.top (g := w.heap.size + 1) (by simp) (by simp) 1 (v := .slice b m d) rfl).1
    obtain ⟨rc0, rf0, hsz⟩ := hk.top (g := w.heap.size + 1 + 1) (by simp) (by simp) 0 (v := .int .i64 0) rfl
    obtain ⟨rc1, rf1, hsz⟩ := hk.top (g := w.heap.size + 1 + 1) (by simp) (by simp) 1 (v := .bool false) rfl
    obtain ⟨rc2, rf2, hsz⟩ := hk.top (g := w.heap.size + 1 + 1) (by simp) (by simp) 2 (v := .slice none 0 0) rfl
    have HK := Lib.hid (K0.out.trans0 hk)
    clear hk
    go_wp2_with fail
    refine (l2Ceil_any _ _ _ _ _ _ _ _ _ _ _ (HS.out.kept0 HK.out) (HS'.out.kept0 HK.out) HX.out HY.out HY0.out).mono ?_
    rintro e w3 ⟨a3, x3, rfl, hs3, hf3, hk3⟩
    have HS3 := Lib.hid hs3
    have HK3 := Lib.hid hk3
    have HF3 := Lib.hid hf3
    clear hs3 hk3 hf3
    go_wp2_with fail
    refine (l2Whole_any _ _ _ _ _ HS3.out).mono ?_
    rintro e w2 ⟨a2, x2, rfl, hs2, hb2, hk4⟩
    have hf2 : Fr w1.heap.size a2 (fitB (divZ true p q (val xs) (val ys))).limbs.length := fr_of_fit HF3.out hb2
    have hk2 := HK3.out.trans0 hk4
    clear hb2 hk4
    obtain ⟨r, hr⟩ : ∃ r, r = fitB (divZ true p q (val xs) (val ys)) := ⟨_, rfl⟩
    rw [← hr] at hs2 hf2 ⊢
    have HR := Lib.hid hr
    have HS2 := Lib.hid hs2
    have HF2 := Lib.hid hf2
    have HK2 := Lib.hid (HK.out.trans0 hk2)
    have g0 := hk2.cell (p := ⟨w.heap.size + 1 + 1, 0, none⟩) rc0 (by simp)
    have g1 := hk2.cell (p := ⟨w.heap.size + 1 + 1, 1, none⟩) rc1 (by simp)
    have g2 := hk2.cell (p := ⟨w.heap.size + 1 + 1, 2, none⟩) rc2 (by simp)
    have e0 := hk2.free' (p := ⟨w.heap.size + 1 + 1, 0, none⟩) rc0 rf0 (by simp)
    have e1 := hk2.free' (p := ⟨w.heap.size + 1 + 1, 1, none⟩) rc1 rf1 (by simp)
    have e2 := hk2.free' (p := ⟨w.heap.size + 1 + 1, 2, none⟩) rc2 rf2 (by simp)
    obtain ⟨ea, eb, ec⟩ := cells3' (.int .i64 r.code) (.bool r.neg) (.slice a2 r.limbs.length x2) g0 g1 g2
    clear hr hs2 hf2 hk2
    go_wp2_with fail
    exact bodyPost_ret (v := .agg #[.int .i64 r.code, .bool r.neg, .slice a2 r.limbs.length x2]) (by simp [results, Try.results52, go_sem, ea, eb, ec]) rfl (by rw [← HR.out]; exact bigR_fin (w0 := w1) (g := w.heap.size + 1 + 1) (by omega) HS2.out HF2.out hsz HK2.out)
  · rw [twoB_not hz]
    generalize hf : bigFault2 p xs q ys = f at *
    have hfz := Lib.hid hz
    have hne : (f == 0) = false := by rw [beq_eq_false_iff_ne]; exact hz
    have HF := Lib.hid hf
    clear hf hz
    go_enter Try.func52, Try.ntmps52
    go_wp2_with fail
    refine (l2Divs_any _ _ _ _ _ _ _ _ _ _ _ (HS.out.rd.kept0 K0.out) (HS'.out.rd.kept0 K0.out)).mono ?_
    rintro e w1 ⟨rfl, hk⟩
    rw [HF.out, if_neg hfz.out]
    obtain ⟨rc0, rf0, hsz⟩ := hk.top (g := w.heap.size + 1 + 1) (by simp) (by simp) 0 (v := .int .i64 0) rfl
    obtain ⟨rc1, rf1, hsz⟩ := hk.top (g := w.heap.size + 1 + 1) (by simp) (by simp) 1 (v := .bool false) rfl
    obtain ⟨rc2, rf2, hsz⟩ := hk.top (g := w.heap.size + 1 + 1) (by simp) (by simp) 2 (v := .slice none 0 0) rfl
    have HK := Lib.hid (K0.out.trans0 hk)
    clear hk
    obtain ⟨ea, eb, ec⟩ := cells3' (.int .i64 f) (.bool false) (.slice none 0 0) rc0 rc1 rc2
    go_wp2_with fail
    exact bodyPost_ret (v := .agg #[.int .i64 f, .bool false, .slice none 0 0]) (by simp [results, Try.results52, go_sem, ea, eb, ec]) rfl (bigR_fin (w0 := w1) (r := noBig f) (a := none) (c := 0) (g := w.heap.size + 1 + 1) (by omega) (Sl.nil _) (fun h => by simp [noBig] at h) hsz HK.out)

end Go.Proofs.Ytgplghjameiciaa
