/-
  Contracts of the model's FloorDiv and CeilDiv, and of CompareBigs on both sides. Condition: the limbs lie in blocks of numbers.
-/
import Derived.Test.YtjndjjdffifgcaaBigF
import Derived.Test.YtjndjjdffifgcaaSDivN
namespace Go.Proofs.Ytjndjjdffifgcaa
open Go.RowKit
attribute [local go_sem ↓] Go.wp_at_zero Go.wp_at_succ

theorem divZ_neg {p q : Bool} {X Y : Int} : - divZ false (!p) q X Y = divZ true p q X Y := by
  unfold divZ
  cases p <;> cases q <;> simp [sg]
theorem divZ_zero {up p q : Bool} {Y : Int} : divZ up p q 0 Y = 0 := by unfold divZ; simp [sg]
theorem divZ_ceil {p q : Bool} {xs : List Int} {Y : Int} (h : Canon xs) : - divZ false (isNeg (- sv p xs)) q (val xs) Y = divZ true p q (val xs) Y := by
  have h0 := (canon_nonneg h).1
  by_cases e : val xs = 0
  · rw [e, divZ_zero, divZ_zero]; rfl
  · have : isNeg (- sv p xs) = !p := by
      unfold sv
      rw [← sg_not, isNeg_sg h0, decide_eq_true (digits_len_pos (by omega))]
      simp
    rw [this]; exact divZ_neg
/-- Zeros and signs of a big that has a number. -/
theorem bigV_out {B B' : Nat} {w w' : World} {z : Int} {e : Ending} (h : BigV B w z e w') (hB : B' ≤ B) : BigV B' w z e w' := by
  obtain ⟨a, c, h1, h2, h3, h4⟩ := h; exact ⟨a, c, h1, h2, h3.mono hB, h4⟩

/-- A big, stored into the result's block, which is the third one of the call. -/
theorem bigV_fin3 {w w1 : World} {z : Int} {a : Option Addr} {c : Nat} (hS : Sl w1 a (mag z).length c (mag z)) (hF : Fr (w.heap.size + 1 + 1 + 1) a (mag z).length) (hk : Kept [] w w1) :
    BigV w.heap.size w z (.returned (.agg #[.bool (isNeg z), .slice a (mag z).length c])) ((w1.setCell ⟨w.heap.size + 1 + 1, 0, none⟩ (.bool (isNeg z))).setCell ⟨w.heap.size + 1 + 1, 1, none⟩ (.slice a (mag z).length c)) :=
  ⟨a, c, rfl, hS.kept (((Kept.refl [w.heap.size + 1 + 1] w1).setCell _ _ (by simp)).setCell _ _ (by simp)) (fun hn x hx => by have := hF hn x hx; simp; omega), hF.mono (by omega),
    (hk.setCell _ _ (by simp; omega)).setCell _ _ (by simp; omega)⟩

set_option maxHeartbeats 3200000 in
theorem l2Floor_inc (p q : Bool) (a b : Option Addr) (n c m d : Nat) (xs ys : List Int) (w : World) (h : Sl w a n c xs) (h' : Sl w b m d ys) (hx : Nat40 xs) (hy : Nat40 ys) (hy0 : ys.length ≠ 0) (hR0 : val xs % val ys ≠ 0) (hsu : (p != q) = true) :
    Calls Try.prog 105 #[.agg #[.bool p, .slice a n c], .agg #[.bool q, .slice b m d]] w (BigV w.heap.size w (divZ false p q (val xs) (val ys))) := by
  have hvx := (canon_nonneg hx.canon).1
  have hvy : 0 < val ys := (canon_nonneg hy.canon).2 (fun e => hy0 (by rw [e]; rfl))
  have hq0 : 0 ≤ val xs / val ys := Int.ediv_nonneg hvx (Int.le_of_lt hvy)
  have hqx : val xs / val ys ≤ val xs := Int.ediv_le_self _ hvx
  have hr0 : 0 ≤ val xs % val ys := Int.emod_nonneg _ (by omega)
  have hxv := (show AllLimbs xs from hx.limb).val
  have hn9 : n ≤ 900 := by have := hx.len; have := h.1; omega
  have hm9 : m ≤ 900 := by have := hy.len; have := h'.1; omega
  have hm1 : 1 ≤ m := by have := h'.1; omega
  have HX := Lib.hid hx.canon
  have HY := Lib.hid hy.canon
  obtain ⟨X, hX⟩ : ∃ X, X = val xs / val ys := ⟨_, rfl⟩
  obtain ⟨R, hR⟩ : ∃ R, R = val xs % val ys := ⟨_, rfl⟩
  rw [← hX] at hq0
  have HV := Lib.hid hq0
  have HQX := Lib.hid hX
  have HRX := Lib.hid hR
  obtain ⟨s, hs⟩ : ∃ s, s = !(p == q) := ⟨_, rfl⟩
  have hpq : (p == q) = !s := by rw [hs]; simp
  have hsz0 : (!!s) = s := by simp
  obtain ⟨L, hL⟩ : ∃ L, L = (digits R).length := ⟨_, rfl⟩
  have HL := Lib.hid hL
  have hse : s = true := by rw [hs]; exact hsu
  have hLp : 0 < L := by rw [hL]; exact digits_len_pos (by omega)
  have hv1 : 0 ≤ X + 1 := by omega
  have HV1 := Lib.hid hv1
  have hdz : divZ false p q (val xs) (val ys) = sg s (X + 1) := by unfold divZ; rw [if_pos ⟨hR0, by rw [hsu]; simp⟩, hs, hX]; rfl
  rw [hdz]
  have hval : val (digits X) + val [1] = X + 1 := by rw [val_digits' hq0]; rfl
  have HVAL := Lib.hid hval
  have hXl : (digits X).length ≤ 1000000 := by have := digits_len xs.length X (by omega); have := hx.len; omega
  have h1c : Canon [1] := ⟨by omega, by omega, trivial, fun _ => by omega⟩
  have H1C := Lib.hid h1c
  clear hval h1c hdz hv1 hR0 hsu
  subst hse
  clear hvx hvy hq0 hqx hr0 hxv hX hR hs hL hx hy hy0
  have HS := Lib.hid h
  have HS' := Lib.hid h'
  clear h h'
  have k0 : Kept [] w (((w.alloc (.cells #[.bool p, .slice a n c] 29)).alloc (.cells #[.bool q, .slice b m d] 29)).alloc (.cells #[.bool false, .slice none 0 0] 29)) := (((Kept.refl [] w).alloc _).alloc _).alloc _
  have K0 := Lib.hid k0
  clear k0
  go_enter Try.func105, Try.ntmps105
  go_wp2_with fail
  refine (l1Div_any _ _ _ _ _ _ _ _ _ (HS.out.kept0 K0.out) (HS'.out.rd.kept0 K0.out) HX.out HY.out hn9 hm1 hm9).mono ?_
  rintro e w1 ⟨a3, x3, a4, x4, rfl, hs3, hs4, hf3, hf4, hk⟩
  rw [← HQX.out, ← HRX.out, ← HL.out]
  rw [← HQX.out] at hs3 hf3
  have c00 := (hk.peel.peel.top (g := w.heap.size) (by simp) (by simp) 0 (v := .bool p) rfl).1
  have c01 := (hk.peel.peel.top (g := w.heap.size) (by simp) (by simp) 1 (v := .slice a n c) rfl).1
  have c10 := (hk.peel.top (g := w.heap.size + 1) (by simp) (by simp) 0 (v := .bool q) rfl).1
  have c11 := (hk.peel.top (g := w.heap.size + 1) (by simp) (by simp) 1 (v := .slice b m d) rfl).1
  obtain ⟨rc0, rf0, hsz⟩ := hk.top (g := w.heap.size + 1 + 1) (by simp) (by simp) 0 (v := .bool false) rfl
  obtain ⟨rc1, rf1, hsz⟩ := hk.top (g := w.heap.size + 1 + 1) (by simp) (by simp) 1 (v := .slice none 0 0) rfl
  have HK := Lib.hid (K0.out.trans0 hk)
  have HK1 := Lib.hid hk
  have HS3 := Lib.hid hs3
  have HF3 := Lib.hid hf3
  clear hk hs3 hs4 hf3 hf4
  go_wp2_with fail
  have k7 : Kept [] w1 (w1.alloc (.cells #[.int .i64 1] 2)) := (Kept.refl [] _).alloc _
  have K7 := Lib.hid k7
  clear k7
  refine (l1Add_any _ _ _ _ _ _ _ _ _ (HS3.out.kept0 K7.out).rd (rd_row1 _ rfl) (canon_digits' X) H1C.out hXl (by omega)).mono ?_
  rintro e w6 ⟨v6, rfl, ho6, hk⟩
  rw [HVAL.out] at ho6
  obtain ⟨a6, x6, rfl, hs6, hf6⟩ := ho6.sl
  have rf0 := hk.peel.free' (p := ⟨w.heap.size + 1 + 1, 0, none⟩) rc0 rf0 (by simp)
  have rf1 := hk.peel.free' (p := ⟨w.heap.size + 1 + 1, 1, none⟩) rc1 rf1 (by simp)
  have c00 := hk.peel.cell (p := ⟨w.heap.size, 0, none⟩) c00 (by simp)
  have c01 := hk.peel.cell (p := ⟨w.heap.size, 1, none⟩) c01 (by simp)
  have c10 := hk.peel.cell (p := ⟨w.heap.size + 1, 0, none⟩) c10 (by simp)
  have c11 := hk.peel.cell (p := ⟨w.heap.size + 1, 1, none⟩) c11 (by simp)
  have rc0 := hk.peel.cell (p := ⟨w.heap.size + 1 + 1, 0, none⟩) rc0 (by simp)
  have rc1 := hk.peel.cell (p := ⟨w.heap.size + 1 + 1, 1, none⟩) rc1 (by simp)
  have HK6 := Lib.hid (HK.out.trans0 hk.peel)
  have HK16 := Lib.hid hk.peel
  have HS6 := Lib.hid hs6
  have HF6 := Lib.hid (hf6.mono (B' := w1.heap.size) (by simp))
  clear hk hs6 hf6 ho6
  go_wp2_with fail
  refine (l2Big_any _ _ _ _ _ _ HV1.out rfl).mono ?_
  rintro e w9 ⟨rfl, hk⟩
  have rf0 := hk.free' (p := ⟨w.heap.size + 1 + 1, 0, none⟩) rc0 rf0 (by simp)
  have rf1 := hk.free' (p := ⟨w.heap.size + 1 + 1, 1, none⟩) rc1 rf1 (by simp)
  have rc0 := hk.cell (p := ⟨w.heap.size + 1 + 1, 0, none⟩) rc0 (by simp)
  have rc1 := hk.cell (p := ⟨w.heap.size + 1 + 1, 1, none⟩) rc1 (by simp)
  have hs9 := HS6.out.kept0 hk
  have hf9 : Fr (w.heap.size + 1 + 1 + 1) a6 (digits (X + 1)).length := HF6.out.mono (Nat.le_trans (by simp) HK1.out.size)
  have HK9 := Lib.hid (HK6.out.trans0 hk)
  have hmm := mag_sg (neg := true) HV1.out
  rw [← hmm] at hs9 hf9 ⊢
  have HS9 := Lib.hid hs9
  have HF9 := Lib.hid hf9
  clear hs9 hf9 hk
  obtain ⟨z, hz⟩ : ∃ z, z = sg true (X + 1) := ⟨_, rfl⟩
  rw [← hz] at HS9 HF9 ⊢
  have HZ := Lib.hid hz
  clear hz hmm
  obtain ⟨_, eb, ec⟩ := cells2 (.bool (isNeg z)) (.slice a6 (mag z).length x6) rc0 rc1
  go_wp2_with fail
  exact bodyPost_ret (v := .agg #[.bool (isNeg z), .slice a6 (mag z).length x6]) (by simp [results, Try.results105, go_sem, eb, ec]) rfl (by rw [← HZ.out]; exact bigV_fin3 HS9.out HF9.out HK9.out)

set_option maxHeartbeats 3200000 in
theorem l2Floor_flat0 (p q : Bool) (a b : Option Addr) (n c m d : Nat) (xs ys : List Int) (w : World) (h : Sl w a n c xs) (h' : Sl w b m d ys) (hx : Nat40 xs) (hy : Nat40 ys) (hy0 : ys.length ≠ 0) (hR0 : val xs % val ys = 0) (hsu : (p != q) = true) :
    Calls Try.prog 105 #[.agg #[.bool p, .slice a n c], .agg #[.bool q, .slice b m d]] w (BigV w.heap.size w (divZ false p q (val xs) (val ys))) := by
  have hvx := (canon_nonneg hx.canon).1
  have hvy : 0 < val ys := (canon_nonneg hy.canon).2 (fun e => hy0 (by rw [e]; rfl))
  have hq0 : 0 ≤ val xs / val ys := Int.ediv_nonneg hvx (Int.le_of_lt hvy)
  have hqx : val xs / val ys ≤ val xs := Int.ediv_le_self _ hvx
  have hr0 : 0 ≤ val xs % val ys := Int.emod_nonneg _ (by omega)
  have hxv := (show AllLimbs xs from hx.limb).val
  have hn9 : n ≤ 900 := by have := hx.len; have := h.1; omega
  have hm9 : m ≤ 900 := by have := hy.len; have := h'.1; omega
  have hm1 : 1 ≤ m := by have := h'.1; omega
  have HX := Lib.hid hx.canon
  have HY := Lib.hid hy.canon
  obtain ⟨X, hX⟩ : ∃ X, X = val xs / val ys := ⟨_, rfl⟩
  obtain ⟨R, hR⟩ : ∃ R, R = val xs % val ys := ⟨_, rfl⟩
  rw [← hX] at hq0
  have HV := Lib.hid hq0
  have HQX := Lib.hid hX
  have HRX := Lib.hid hR
  obtain ⟨s, hs⟩ : ∃ s, s = !(p == q) := ⟨_, rfl⟩
  have hpq : (p == q) = !s := by rw [hs]; simp
  have hsz0 : (!!s) = s := by simp
  obtain ⟨L, hL⟩ : ∃ L, L = (digits R).length := ⟨_, rfl⟩
  have HL := Lib.hid hL
  have hL0 : L = 0 := by rw [hL, hR, hR0, digits_zero (by omega)]; rfl
  have hse : s = true := by rw [hs]; exact hsu
  have hdz : divZ false p q (val xs) (val ys) = sg s X := by unfold divZ; rw [if_neg (fun hn => hn.1 hR0), hs, hX]; rfl
  rw [hdz]
  clear hdz hR0 hsu
  subst hL0 hse
  clear hvx hvy hq0 hqx hr0 hxv hX hR hs hL hx hy hy0
  have HS := Lib.hid h
  have HS' := Lib.hid h'
  clear h h'
  have k0 : Kept [] w (((w.alloc (.cells #[.bool p, .slice a n c] 29)).alloc (.cells #[.bool q, .slice b m d] 29)).alloc (.cells #[.bool false, .slice none 0 0] 29)) := (((Kept.refl [] w).alloc _).alloc _).alloc _
  have K0 := Lib.hid k0
  clear k0
  go_enter Try.func105, Try.ntmps105
  go_wp2_with fail
  refine (l1Div_any _ _ _ _ _ _ _ _ _ (HS.out.kept0 K0.out) (HS'.out.rd.kept0 K0.out) HX.out HY.out hn9 hm1 hm9).mono ?_
  rintro e w1 ⟨a3, x3, a4, x4, rfl, hs3, hs4, hf3, hf4, hk⟩
  rw [← HQX.out, ← HRX.out, ← HL.out]
  rw [← HQX.out] at hs3 hf3
  have c00 := (hk.peel.peel.top (g := w.heap.size) (by simp) (by simp) 0 (v := .bool p) rfl).1
  have c01 := (hk.peel.peel.top (g := w.heap.size) (by simp) (by simp) 1 (v := .slice a n c) rfl).1
  have c10 := (hk.peel.top (g := w.heap.size + 1) (by simp) (by simp) 0 (v := .bool q) rfl).1
  have c11 := (hk.peel.top (g := w.heap.size + 1) (by simp) (by simp) 1 (v := .slice b m d) rfl).1
  obtain ⟨rc0, rf0, hsz⟩ := hk.top (g := w.heap.size + 1 + 1) (by simp) (by simp) 0 (v := .bool false) rfl
  obtain ⟨rc1, rf1, hsz⟩ := hk.top (g := w.heap.size + 1 + 1) (by simp) (by simp) 1 (v := .slice none 0 0) rfl
  have HK := Lib.hid (K0.out.trans0 hk)
  have HK1 := Lib.hid hk
  have HS3 := Lib.hid hs3
  have HF3 := Lib.hid hf3
  clear hk hs3 hs4 hf3 hf4
  go_wp2_with fail
  refine (l2Big_any _ _ _ _ _ _ HV.out rfl).mono ?_
  rintro e w9 ⟨rfl, hk⟩
  have rf0 := hk.free' (p := ⟨w.heap.size + 1 + 1, 0, none⟩) rc0 rf0 (by simp)
  have rf1 := hk.free' (p := ⟨w.heap.size + 1 + 1, 1, none⟩) rc1 rf1 (by simp)
  have rc0 := hk.cell (p := ⟨w.heap.size + 1 + 1, 0, none⟩) rc0 (by simp)
  have rc1 := hk.cell (p := ⟨w.heap.size + 1 + 1, 1, none⟩) rc1 (by simp)
  have hs9 := HS3.out.kept0 hk
  have hf9 : Fr (w.heap.size + 1 + 1 + 1) a3 (digits X).length := HF3.out.mono (by simp)
  have HK9 := Lib.hid (HK.out.trans0 hk)
  have hmm := mag_sg (neg := true) HV.out
  rw [← hmm] at hs9 hf9 ⊢
  have HS9 := Lib.hid hs9
  have HF9 := Lib.hid hf9
  clear hs9 hf9 hk
  obtain ⟨z, hz⟩ : ∃ z, z = sg true X := ⟨_, rfl⟩
  rw [← hz] at HS9 HF9 ⊢
  have HZ := Lib.hid hz
  clear hz hmm
  obtain ⟨_, eb, ec⟩ := cells2 (.bool (isNeg z)) (.slice a3 (mag z).length x3) rc0 rc1
  go_wp2_with fail
  exact bodyPost_ret (v := .agg #[.bool (isNeg z), .slice a3 (mag z).length x3]) (by simp [results, Try.results105, go_sem, eb, ec]) rfl (by rw [← HZ.out]; exact bigV_fin3 HS9.out HF9.out HK9.out)

set_option maxHeartbeats 3200000 in
theorem l2Floor_flat (p q : Bool) (a b : Option Addr) (n c m d : Nat) (xs ys : List Int) (w : World) (h : Sl w a n c xs) (h' : Sl w b m d ys) (hx : Nat40 xs) (hy : Nat40 ys) (hy0 : ys.length ≠ 0) (hsu : (p != q) = false) :
    Calls Try.prog 105 #[.agg #[.bool p, .slice a n c], .agg #[.bool q, .slice b m d]] w (BigV w.heap.size w (divZ false p q (val xs) (val ys))) := by
  have hvx := (canon_nonneg hx.canon).1
  have hvy : 0 < val ys := (canon_nonneg hy.canon).2 (fun e => hy0 (by rw [e]; rfl))
  have hq0 : 0 ≤ val xs / val ys := Int.ediv_nonneg hvx (Int.le_of_lt hvy)
  have hqx : val xs / val ys ≤ val xs := Int.ediv_le_self _ hvx
  have hr0 : 0 ≤ val xs % val ys := Int.emod_nonneg _ (by omega)
  have hxv := (show AllLimbs xs from hx.limb).val
  have hn9 : n ≤ 900 := by have := hx.len; have := h.1; omega
  have hm9 : m ≤ 900 := by have := hy.len; have := h'.1; omega
  have hm1 : 1 ≤ m := by have := h'.1; omega
  have HX := Lib.hid hx.canon
  have HY := Lib.hid hy.canon
  obtain ⟨X, hX⟩ : ∃ X, X = val xs / val ys := ⟨_, rfl⟩
  obtain ⟨R, hR⟩ : ∃ R, R = val xs % val ys := ⟨_, rfl⟩
  rw [← hX] at hq0
  have HV := Lib.hid hq0
  have HQX := Lib.hid hX
  have HRX := Lib.hid hR
  obtain ⟨s, hs⟩ : ∃ s, s = !(p == q) := ⟨_, rfl⟩
  have hpq : (p == q) = !s := by rw [hs]; simp
  have hsz0 : (!!s) = s := by simp
  obtain ⟨L, hL⟩ : ∃ L, L = (digits R).length := ⟨_, rfl⟩
  have HL := Lib.hid hL
  have hse : s = false := by rw [hs]; exact hsu
  have hdz : divZ false p q (val xs) (val ys) = sg s X := by unfold divZ; rw [if_neg (fun hn => hn.2 hsu), hs, hX]; rfl
  rw [hdz]
  clear hdz hsu
  subst hse
  clear hvx hvy hq0 hqx hr0 hxv hX hR hs hL hx hy hy0
  have HS := Lib.hid h
  have HS' := Lib.hid h'
  clear h h'
  have k0 : Kept [] w (((w.alloc (.cells #[.bool p, .slice a n c] 29)).alloc (.cells #[.bool q, .slice b m d] 29)).alloc (.cells #[.bool false, .slice none 0 0] 29)) := (((Kept.refl [] w).alloc _).alloc _).alloc _
  have K0 := Lib.hid k0
  clear k0
  go_enter Try.func105, Try.ntmps105
  go_wp2_with fail
  refine (l1Div_any _ _ _ _ _ _ _ _ _ (HS.out.kept0 K0.out) (HS'.out.rd.kept0 K0.out) HX.out HY.out hn9 hm1 hm9).mono ?_
  rintro e w1 ⟨a3, x3, a4, x4, rfl, hs3, hs4, hf3, hf4, hk⟩
  rw [← HQX.out, ← HRX.out, ← HL.out]
  rw [← HQX.out] at hs3 hf3
  have c00 := (hk.peel.peel.top (g := w.heap.size) (by simp) (by simp) 0 (v := .bool p) rfl).1
  have c01 := (hk.peel.peel.top (g := w.heap.size) (by simp) (by simp) 1 (v := .slice a n c) rfl).1
  have c10 := (hk.peel.top (g := w.heap.size + 1) (by simp) (by simp) 0 (v := .bool q) rfl).1
  have c11 := (hk.peel.top (g := w.heap.size + 1) (by simp) (by simp) 1 (v := .slice b m d) rfl).1
  obtain ⟨rc0, rf0, hsz⟩ := hk.top (g := w.heap.size + 1 + 1) (by simp) (by simp) 0 (v := .bool false) rfl
  obtain ⟨rc1, rf1, hsz⟩ := hk.top (g := w.heap.size + 1 + 1) (by simp) (by simp) 1 (v := .slice none 0 0) rfl
  have HK := Lib.hid (K0.out.trans0 hk)
  have HK1 := Lib.hid hk
  have HS3 := Lib.hid hs3
  have HF3 := Lib.hid hf3
  clear hk hs3 hs4 hf3 hf4
  go_wp2_with fail
  refine (l2Big_any _ _ _ _ _ _ HV.out rfl).mono ?_
  rintro e w9 ⟨rfl, hk⟩
  have rf0 := hk.free' (p := ⟨w.heap.size + 1 + 1, 0, none⟩) rc0 rf0 (by simp)
  have rf1 := hk.free' (p := ⟨w.heap.size + 1 + 1, 1, none⟩) rc1 rf1 (by simp)
  have rc0 := hk.cell (p := ⟨w.heap.size + 1 + 1, 0, none⟩) rc0 (by simp)
  have rc1 := hk.cell (p := ⟨w.heap.size + 1 + 1, 1, none⟩) rc1 (by simp)
  have hs9 := HS3.out.kept0 hk
  have hf9 : Fr (w.heap.size + 1 + 1 + 1) a3 (digits X).length := HF3.out.mono (by simp)
  have HK9 := Lib.hid (HK.out.trans0 hk)
  have hmm := mag_sg (neg := false) HV.out
  rw [← hmm] at hs9 hf9 ⊢
  have HS9 := Lib.hid hs9
  have HF9 := Lib.hid hf9
  clear hs9 hf9 hk
  obtain ⟨z, hz⟩ : ∃ z, z = sg false X := ⟨_, rfl⟩
  rw [← hz] at HS9 HF9 ⊢
  have HZ := Lib.hid hz
  clear hz hmm
  obtain ⟨_, eb, ec⟩ := cells2 (.bool (isNeg z)) (.slice a3 (mag z).length x3) rc0 rc1
  go_wp2_with fail
  exact bodyPost_ret (v := .agg #[.bool (isNeg z), .slice a3 (mag z).length x3]) (by simp [results, Try.results105, go_sem, eb, ec]) rfl (by rw [← HZ.out]; exact bigV_fin3 HS9.out HF9.out HK9.out)

theorem l2Floor_any (p q : Bool) (a b : Option Addr) (n c m d : Nat) (xs ys : List Int) (w : World) (h : Sl w a n c xs) (h' : Sl w b m d ys) (hx : Nat40 xs) (hy : Nat40 ys) (hy0 : ys.length ≠ 0) :
    Calls Try.prog 105 #[.agg #[.bool p, .slice a n c], .agg #[.bool q, .slice b m d]] w (BigV w.heap.size w (divZ false p q (val xs) (val ys))) := by
  by_cases hs : (p != q) = true
  · by_cases hr : val xs % val ys = 0
    · exact l2Floor_flat0 _ _ _ _ _ _ _ _ _ _ _ h h' hx hy hy0 hr hs
    · exact l2Floor_inc _ _ _ _ _ _ _ _ _ _ _ h h' hx hy hy0 hr hs
  · exact l2Floor_flat _ _ _ _ _ _ _ _ _ _ _ h h' hx hy hy0 (by simpa using hs)

set_option maxHeartbeats 3200000 in
theorem l2Ceil_any (p q : Bool) (a b : Option Addr) (n c m d : Nat) (xs ys : List Int) (w : World) (h : Sl w a n c xs) (h' : Sl w b m d ys) (hx : Nat40 xs) (hy : Nat40 ys) (hy0 : ys.length ≠ 0) :
    Calls Try.prog 106 #[.agg #[.bool p, .slice a n c], .agg #[.bool q, .slice b m d]] w (BigV w.heap.size w (divZ true p q (val xs) (val ys))) := by
  have hm : mag (sv p xs) = xs := mag_sv hx.canon
  have hv : sg p (val (mag (sv p xs))) = sv p xs := by rw [hm]; rfl
  have hl : (mag (sv p xs)).length = n := by rw [hm]; exact h.1
  have hz := divZ_ceil (p := p) (q := q) (Y := val ys) hx.canon
  have HV := Lib.hid hv
  have HL := Lib.hid hl
  have HX := Lib.hid hx
  have HY := Lib.hid hy
  have HY0 := Lib.hid hy0
  rw [← hz]
  clear hm hv hl hx hy hy0 hz
  have HS := Lib.hid h
  have HS' := Lib.hid h'
  clear h h'
  have k0 : Kept [] w (((w.alloc (.cells #[.bool p, .slice a n c] 29)).alloc (.cells #[.bool q, .slice b m d] 29)).alloc (.cells #[.bool false, .slice none 0 0] 29)) := (((Kept.refl [] w).alloc _).alloc _).alloc _
  have K0 := Lib.hid k0
  clear k0
  go_enter Try.func106, Try.ntmps106
  go_wp2_with fail
  generalize hW : (((w.alloc (.cells #[.bool p, .slice a n c] 29)).alloc (.cells #[.bool q, .slice b m d] 29)).alloc (.cells #[.bool false, .slice none 0 0] 29)) = W at *
  have k0 : Kept [] (((w.alloc (.cells #[.bool p, .slice a n c] 29)).alloc (.cells #[.bool q, .slice b m d] 29)).alloc (.cells #[.bool false, .slice none 0 0] 29)) W := by rw [hW]; exact Kept.refl _ _
  have c00 := (k0.peel.peel.top (g := w.heap.size) (by simp) (by simp) 0 (v := .bool p) rfl).1
  have c01 := (k0.peel.peel.top (g := w.heap.size) (by simp) (by simp) 1 (v := .slice a n c) rfl).1
  have c10 := (k0.peel.top (g := w.heap.size + 1) (by simp) (by simp) 0 (v := .bool q) rfl).1
  have c11 := (k0.peel.top (g := w.heap.size + 1) (by simp) (by simp) 1 (v := .slice b m d) rfl).1
  obtain ⟨rc0, rf0, hsz⟩ := k0.top (g := w.heap.size + 1 + 1) (by simp) (by simp) 0 (v := .bool false) rfl
  obtain ⟨rc1, rf1, hsz⟩ := k0.top (g := w.heap.size + 1 + 1) (by simp) (by simp) 1 (v := .slice none 0 0) rfl
  clear k0 hW
  go_region_held3 (fun w' => w'.cell? ⟨w.heap.size, 0, none⟩ = some (.bool p) ∧ w'.cell? ⟨w.heap.size, 1, none⟩ = some (.slice a n c) ∧ w'.cell? ⟨w.heap.size + 1, 0, none⟩ = some (.bool q) ∧ w'.cell? ⟨w.heap.size + 1, 1, none⟩ = some (.slice b m d) ∧ Hid (Kept [w.heap.size + 1 + 1] W w'))
    ((go_split_ands; (try refine ⟨?_, ?_, ?_, ?_, ?_⟩) <;> with_reducible first | exact Lib.hid ((Kept.refl _ _).drew) | exact drew_cell (by assumption) | exact Kept.set2 (by assumption) | exact cell_set2 (by assumption) (by simp <;> omega) | exact Lib.hid (Kept.trans0 (Hid.out (by assumption)) (by assumption)) | exact Kept.cell (by assumption) (by assumption) (by simp)))
    (first
      | (go_at_call_of 120 (Value.agg #[Value.bool p, Value.slice a n c]); go_split_ands; refine (l2Neg_any _ _ _ _ _ _ HV.out HL.out).mono ?_; rintro e w1 ⟨rfl, hk1⟩)
      | (go_at_call 105; go_split_ands; refine (l2Floor_any _ _ _ _ _ _ _ _ _ _ _ (HS.out.kept0 (K0.out.drew.trans0 hk1)) (HS'.out.kept0 (K0.out.drew.trans0 hk1)) HX.out HY.out HY0.out).mono ?_; rintro e w3 ⟨a2, x2, rfl, hs3, hf3, hk3⟩)
      | (go_at_call 120; go_split_ands; refine (l2Neg_any _ _ _ _ _ _ (sv_mag _) rfl).mono ?_; rintro e w2 ⟨rfl, hk4⟩; have hk2 := (hk1.trans0 hk3).trans0 hk4; have hs2 := hs3.kept0 hk4; have hf2 := hf3.mono (show W.heap.size ≤ w1.heap.size from hk1.size); have g0 := hk2.cell (p := ⟨w.heap.size + 1 + 1, 0, none⟩) rc0 (by simp); have g1 := hk2.cell (p := ⟨w.heap.size + 1 + 1, 1, none⟩) rc1 (by simp); have e0 := hk2.free' (p := ⟨w.heap.size + 1 + 1, 0, none⟩) rc0 rf0 (by simp); have e1 := hk2.free' (p := ⟨w.heap.size + 1 + 1, 1, none⟩) rc1 rf1 (by simp)))
  have hmm := (mag_neg (divZ false (isNeg (-sv p xs)) q (val xs) (val ys))).symm
  rw [hmm] at hs2 hf2 ⊢
  obtain ⟨z, hz⟩ : ∃ z, z = - divZ false (isNeg (-sv p xs)) q (val xs) (val ys) := ⟨_, rfl⟩
  rw [← hz] at hs2 hf2 ⊢
  have HZ := Lib.hid hz
  have HS2 := Lib.hid hs2
  have HF2 := Lib.hid hf2
  have HK2 := Lib.hid (K0.out.drew.trans0 hk2)
  obtain ⟨_, eb, ec⟩ := cells2 (.bool (isNeg z)) (.slice a2 (mag z).length x2) g0 g1
  clear hz hmm hs2 hf2 hk2 hs3 hf3 hk3 hk4 hk1
  go_wp2_with fail
  exact bodyPost_ret (v := .agg #[.bool (isNeg z), .slice a2 (mag z).length x2]) (by simp [results, Try.results106, go_sem, eb, ec]) rfl (by rw [← HZ.out]; exact bigV_fin (w0 := W) (g := w.heap.size + 1 + 1) (by omega) HS2.out HF2.out hsz HK2.out)

set_option maxHeartbeats 1000000 in
theorem l2Divs_any (p q : Bool) (a b : Option Addr) (n c m d : Nat) (xs ys : List Int) (w : World) (h : Rd w a n xs) (h' : Rd w b m ys) :
    Calls Try.prog 72 #[.agg #[.bool p, .slice a n c], .agg #[.bool q, .slice b m d]] w (Ans w (.int .i64 (if bigFault2 p xs q ys = 0 then (if ys.length = 0 then 6 else 0) else bigFault2 p xs q ys))) := by
  have HR := Lib.hid h
  have HR' := Lib.hid h'
  have HL' := Lib.hid h'.1
  have hmax := h'.2.1
  clear h h'
  have k0 : Kept [] w ((w.alloc (.cells #[.bool p, .slice a n c] 29)).alloc (.cells #[.bool q, .slice b m d] 29)) := ((Kept.refl [] w).alloc _).alloc _
  have K0 := Lib.hid k0
  clear k0
  by_cases hz : bigFault2 p xs q ys = 0
  · rw [if_pos hz]
    have hz' := Lib.hid hz
    clear hz
    by_cases hm : m = 0
    · rw [if_pos (by rw [HL'.out]; exact hm)]
      subst hm
      go_enter Try.func72, Try.ntmps72
      go_wp2_with fail
      refine (l2Two_any _ _ _ _ _ _ _ _ _ _ _ (HR.out.kept0 K0.out) (HR'.out.kept0 K0.out)).mono ?_
      rintro e w1 ⟨rfl, hk⟩
      rw [hz'.out]
      have c11 := (hk.top (g := w.heap.size + 1) (by simp) (by simp) 1 (v := .slice b 0 d) rfl).1
      have HK := Lib.hid (K0.out.trans0 hk)
      clear hk
      go_wp2_with fail
      go_ret
      exact ⟨rfl, HK.out⟩
    · rw [if_neg (by rw [HL'.out]; exact hm)]
      have hm' : ((m : Int) == 0) = false := by rw [beq_eq_false_iff_ne]; omega
      go_enter Try.func72, Try.ntmps72
      go_wp2_with fail
      refine (l2Two_any _ _ _ _ _ _ _ _ _ _ _ (HR.out.kept0 K0.out) (HR'.out.kept0 K0.out)).mono ?_
      rintro e w1 ⟨rfl, hk⟩
      rw [hz'.out]
      have c11 := (hk.top (g := w.heap.size + 1) (by simp) (by simp) 1 (v := .slice b m d) rfl).1
      have HK := Lib.hid (K0.out.trans0 hk)
      clear hk
      go_wp2_with fail
      go_ret
      exact ⟨rfl, HK.out⟩
  · rw [if_neg hz]
    generalize hf : bigFault2 p xs q ys = f at *
    have hne : (f == 0) = false := by rw [beq_eq_false_iff_ne]; exact hz
    have HF := Lib.hid hf
    clear hf hz
    go_enter Try.func72, Try.ntmps72
    go_wp2_with fail
    refine (l2Two_any _ _ _ _ _ _ _ _ _ _ _ (HR.out.kept0 K0.out) (HR'.out.kept0 K0.out)).mono ?_
    rintro e w1 ⟨rfl, hk⟩
    rw [HF.out]
    have HK := Lib.hid (K0.out.trans0 hk)
    clear hk
    go_wp2_with fail
    go_ret
    exact ⟨rfl, HK.out⟩

end Go.Proofs.Ytjndjjdffifgcaa
