/-
  Contract of the model's sum of two bigs. Conditions: the limbs lie in blocks of numbers.
-/
import Derived.Test.YtlhiahhpmjiioaaJ2
import Derived.Test.YtlhiahhpmjiioaaSSub
namespace Go.Proofs.Ytlhiahhpmjiioaa
open Go.RowKit
attribute [local go_sem ↓] Go.wp_at_zero Go.wp_at_succ

/-- A big, stored into the result's block. -/
theorem bigV_fin {w w0 w1 : World} {g : Nat} {z : Int} {a : Option Addr} {c : Nat} (hg : w.heap.size ≤ g) (hS : Sl w1 a (mag z).length c (mag z)) (hF : Fr w0.heap.size a (mag z).length) (hg0 : g < w0.heap.size) (hk : Kept [] w w1) :
    BigV w.heap.size w z (.returned (.agg #[.bool (isNeg z), .slice a (mag z).length c])) ((w1.setCell ⟨g, 0, none⟩ (.bool (isNeg z))).setCell ⟨g, 1, none⟩ (.slice a (mag z).length c)) :=
  ⟨a, c, rfl, hS.kept (((Kept.refl [g] w1).setCell _ _ (by simp)).setCell _ _ (by simp)) (fun hn x hx => by have := hF hn x hx; simp; omega), hF.mono (by omega),
    (hk.setCell _ _ (by simp; omega)).setCell _ _ (by simp; omega)⟩

set_option maxHeartbeats 3200000 in
theorem l2Add_same (p : Bool) (a b : Option Addr) (n c m d : Nat) (xs ys : List Int) (w : World) (hx : Nat40 xs) (hy : Nat40 ys) (h : Sl w a n c xs) (h' : Sl w b m d ys) :
    Calls Try.prog 30 #[.agg #[.bool p, .slice a n c], .agg #[.bool p, .slice b m d]] w (BigV w.heap.size w (sv p xs + sv p ys)) := by
  have hv : 0 ≤ val xs + val ys := by have := (canon_nonneg hx.canon).1; have := (canon_nonneg hy.canon).1; omega
  have hn40 : n ≤ 1000000 := by have := hx.len; have := h.1; omega
  have hm40 : m ≤ 1000000 := by have := hy.len; have := h'.1; omega
  have HV := Lib.hid hv
  have HX := Lib.hid hx
  have HY := Lib.hid hy
  have HS := Lib.hid h
  have HS' := Lib.hid h'
  rw [show sv p xs + sv p ys = sg p (val xs + val ys) from sum_same]
  clear hx hy h h' hv
  have Q : (p == p) = true := by cases p <;> rfl
  go_enter Try.func30, Try.ntmps30
  go_wp2_with fail
  generalize hW : (((w.alloc (.cells #[.bool p, .slice a n c] 26)).alloc (.cells #[.bool p, .slice b m d] 26)).alloc (.cells #[.bool false, .slice none 0 0] 26)) = W
  have k0 : Kept [] (((w.alloc (.cells #[.bool p, .slice a n c] 26)).alloc (.cells #[.bool p, .slice b m d] 26)).alloc (.cells #[.bool false, .slice none 0 0] 26)) W := by rw [hW]; exact Kept.refl _ _
  have c00 := (k0.peel.peel.top (g := w.heap.size) (by simp) (by simp) 0 (v := .bool p) rfl).1
  have c01 := (k0.peel.peel.top (g := w.heap.size) (by simp) (by simp) 1 (v := .slice a n c) rfl).1
  have c10 := (k0.peel.top (g := w.heap.size + 1) (by simp) (by simp) 0 (v := .bool p) rfl).1
  have c11 := (k0.peel.top (g := w.heap.size + 1) (by simp) (by simp) 1 (v := .slice b m d) rfl).1
  obtain ⟨rc0, rf0, hsz⟩ := k0.top (g := w.heap.size + 1 + 1) (by simp) (by simp) 0 (v := .bool false) rfl
  obtain ⟨rc1, rf1, hsz⟩ := k0.top (g := w.heap.size + 1 + 1) (by simp) (by simp) 1 (v := .slice none 0 0) rfl
  have K0 := Lib.hid k0.peel.peel.peel
  clear k0 hW
  go_region_held3 (fun w' => w'.cell? ⟨w.heap.size, 0, none⟩ = some (.bool p) ∧ w'.cell? ⟨w.heap.size, 1, none⟩ = some (.slice a n c) ∧ w'.cell? ⟨w.heap.size + 1, 0, none⟩ = some (.bool p) ∧ w'.cell? ⟨w.heap.size + 1, 1, none⟩ = some (.slice b m d) ∧ Hid (Kept [w.heap.size + 1 + 1] W w'))
    ((go_split_ands; (try refine ⟨?_, ?_, ?_, ?_, ?_⟩) <;> with_reducible first | exact Lib.hid ((Kept.refl _ _).drew) | exact drew_cell (by assumption) | exact Kept.set2 (by assumption) | exact cell_set2 (by assumption) (by simp <;> omega) | exact Lib.hid (Kept.trans0 (Hid.out (by assumption)) (by assumption)) | exact Kept.cell (by assumption) (by assumption) (by simp)))
    (first
      | (go_at_call 44; go_split_ands; refine (l1Add_any _ _ _ _ _ _ _ _ _ (HS.out.rd.kept0 K0.out.drew) (HS'.out.rd.kept0 K0.out.drew) HX.out.canon HY.out.canon hn40 hm40).mono ?_; rintro e w1 ⟨v1, rfl, ho1, hk1⟩; obtain ⟨a1, x1, rfl, hs1, hf1⟩ := ho1.sl; clear ho1)
      | (go_at_call 39; go_split_ands; refine (l2Big_any _ _ _ _ _ _ HV.out rfl).mono ?_; rintro e w2 ⟨rfl, hk3⟩; have hk2 := hk1.trans0 hk3; have g0 := hk2.cell (p := ⟨w.heap.size + 1 + 1, 0, none⟩) rc0 (by simp); have g1 := hk2.cell (p := ⟨w.heap.size + 1 + 1, 1, none⟩) rc1 (by simp); have e0 := hk2.free' (p := ⟨w.heap.size + 1 + 1, 0, none⟩) rc0 rf0 (by simp); have e1 := hk2.free' (p := ⟨w.heap.size + 1 + 1, 1, none⟩) rc1 rf1 (by simp)))
  have HK2 := Lib.hid (K0.out.drew.trans0 hk2)
  have HS2 := Lib.hid (hs1.kept0 hk3)
  have HF2 := Lib.hid hf1
  have hm : digits (val xs + val ys) = mag (sg p (val xs + val ys)) := (mag_sg HV.out).symm
  rw [hm] at HS2 HF2 ⊢
  clear hm
  obtain ⟨z, hz⟩ : ∃ z, z = sg p (val xs + val ys) := ⟨_, rfl⟩
  rw [← hz] at HS2 HF2 ⊢
  have HR := Lib.hid hz
  clear hz
  obtain ⟨_, eb, ec⟩ := cells2 (.bool (isNeg z)) (.slice a1 (mag z).length x1) g0 g1
  clear hs1 hf1 hk1 hk2 hk3
  go_wp2_with fail
  exact bodyPost_ret (v := .agg #[.bool (isNeg z), .slice a1 (mag z).length x1]) (by simp [results, Try.results30, go_sem, eb, ec]) rfl (by rw [← HR.out]; exact bigV_fin (g := w.heap.size + 1 + 1) (by omega) HS2.out HF2.out (by simpa using hsz) HK2.out)

set_option maxHeartbeats 3200000 in
theorem l2Add_ge_true (a b : Option Addr) (n c m d : Nat) (xs ys : List Int) (w : World) (hx : Nat40 xs) (hy : Nat40 ys) (h : Sl w a n c xs) (h' : Sl w b m d ys) (hle : val ys ≤ val xs) :
    Calls Try.prog 30 #[.agg #[.bool true, .slice a n c], .agg #[.bool false, .slice b m d]] w (BigV w.heap.size w (sv true xs + sv false ys)) := by
  have hv : 0 ≤ val xs - val ys := by omega
  have hn40 : n ≤ 1000000 := by have := hx.len; have := h.1; omega
  have hm40 : m ≤ 1000000 := by have := hy.len; have := h'.1; omega
  obtain ⟨cv, hcv⟩ : ∃ cv, cv = cmpV (val xs) (val ys) := ⟨_, rfl⟩
  have hcn : 0 ≤ cv := by rw [hcv]; unfold cmpV; rw [if_neg (by omega)]; split <;> omega
  have hmn : m ≤ n := by rw [← h.1, ← h'.1]; exact len_of_le hx hy hle
  have HC := Lib.hid hcv
  have HLE := Lib.hid hle
  have HV := Lib.hid hv
  have HX := Lib.hid hx
  have HY := Lib.hid hy
  have HS := Lib.hid h
  have HS' := Lib.hid h'
  rw [show sv true xs + sv false ys = sg true (val xs - val ys) by simp [sv, sg]; omega]
  clear hx hy h h' hv hcv hle
  go_enter Try.func30, Try.ntmps30
  go_wp2_with fail
  generalize hW : (((w.alloc (.cells #[.bool true, .slice a n c] 26)).alloc (.cells #[.bool false, .slice b m d] 26)).alloc (.cells #[.bool false, .slice none 0 0] 26)) = W
  have k0 : Kept [] (((w.alloc (.cells #[.bool true, .slice a n c] 26)).alloc (.cells #[.bool false, .slice b m d] 26)).alloc (.cells #[.bool false, .slice none 0 0] 26)) W := by rw [hW]; exact Kept.refl _ _
  have c00 := (k0.peel.peel.top (g := w.heap.size) (by simp) (by simp) 0 (v := .bool true) rfl).1
  have c01 := (k0.peel.peel.top (g := w.heap.size) (by simp) (by simp) 1 (v := .slice a n c) rfl).1
  have c10 := (k0.peel.top (g := w.heap.size + 1) (by simp) (by simp) 0 (v := .bool false) rfl).1
  have c11 := (k0.peel.top (g := w.heap.size + 1) (by simp) (by simp) 1 (v := .slice b m d) rfl).1
  obtain ⟨rc0, rf0, hsz⟩ := k0.top (g := w.heap.size + 1 + 1) (by simp) (by simp) 0 (v := .bool false) rfl
  obtain ⟨rc1, rf1, hsz⟩ := k0.top (g := w.heap.size + 1 + 1) (by simp) (by simp) 1 (v := .slice none 0 0) rfl
  have K0 := Lib.hid k0.peel.peel.peel
  clear k0 hW
  refine (l1Compare_any _ _ _ _ _ _ _ _ _ (HS.out.rd.kept0 K0.out) (HS'.out.rd.kept0 K0.out) HX.out HY.out).mono ?_
  rintro e w0 ⟨rfl, hk⟩
  rw [← HC.out]
  have c00 := hk.cell (p := ⟨w.heap.size, 0, none⟩) c00 (by simp)
  have c01 := hk.cell (p := ⟨w.heap.size, 1, none⟩) c01 (by simp)
  have c10 := hk.cell (p := ⟨w.heap.size + 1, 0, none⟩) c10 (by simp)
  have c11 := hk.cell (p := ⟨w.heap.size + 1, 1, none⟩) c11 (by simp)
  have rf0 := hk.free' (p := ⟨w.heap.size + 1 + 1, 0, none⟩) rc0 rf0 (by simp)
  have rc0 := hk.cell (p := ⟨w.heap.size + 1 + 1, 0, none⟩) rc0 (by simp)
  have rf1 := hk.free' (p := ⟨w.heap.size + 1 + 1, 1, none⟩) rc1 rf1 (by simp)
  have rc1 := hk.cell (p := ⟨w.heap.size + 1 + 1, 1, none⟩) rc1 (by simp)
  have hsz : w.heap.size + 1 + 1 < w0.heap.size := Nat.lt_of_lt_of_le hsz hk.size
  have K0 := Lib.hid (K0.out.trans0 hk)
  clear hk
  go_wp2_with fail
  go_region_held3 (fun w' => w'.cell? ⟨w.heap.size, 0, none⟩ = some (.bool true) ∧ w'.cell? ⟨w.heap.size, 1, none⟩ = some (.slice a n c) ∧ w'.cell? ⟨w.heap.size + 1, 0, none⟩ = some (.bool false) ∧ w'.cell? ⟨w.heap.size + 1, 1, none⟩ = some (.slice b m d) ∧ Hid (Kept [w.heap.size + 1 + 1] w0 w'))
    ((go_split_ands; (try refine ⟨?_, ?_, ?_, ?_, ?_⟩) <;> with_reducible first | exact Lib.hid ((Kept.refl _ _).drew) | exact drew_cell (by assumption) | exact Kept.set2 (by assumption) | exact cell_set2 (by assumption) (by simp <;> omega) | exact Lib.hid (Kept.trans0 (Hid.out (by assumption)) (by assumption)) | exact Kept.cell (by assumption) (by assumption) (by simp)))
    (first
      | (go_at_call 52; go_split_ands; refine (l1Sub_any _ _ _ _ _ _ _ _ _ (HS.out.rd.kept0 K0.out.drew) (HS'.out.rd.kept0 K0.out.drew) HX.out.limb HY.out.limb hn40 hmn HLE.out).mono ?_; rintro e w1 ⟨v1, rfl, ho1, hk1⟩; obtain ⟨a1, x1, rfl, hs1, hf1⟩ := ho1.sl; clear ho1)
      | (go_at_call 39; go_split_ands; refine (l2Big_any _ _ _ _ _ _ HV.out rfl).mono ?_; rintro e w2 ⟨rfl, hk3⟩; have hk2 := hk1.trans0 hk3; have g0 := hk2.cell (p := ⟨w.heap.size + 1 + 1, 0, none⟩) rc0 (by simp); have g1 := hk2.cell (p := ⟨w.heap.size + 1 + 1, 1, none⟩) rc1 (by simp); have e0 := hk2.free' (p := ⟨w.heap.size + 1 + 1, 0, none⟩) rc0 rf0 (by simp); have e1 := hk2.free' (p := ⟨w.heap.size + 1 + 1, 1, none⟩) rc1 rf1 (by simp)))
  have HK2 := Lib.hid (K0.out.drew.trans0 hk2)
  have HS2 := Lib.hid (hs1.kept0 hk3)
  have HF2 := Lib.hid hf1
  have hm : digits (val xs - val ys) = mag (sg true (val xs - val ys)) := (mag_sg HV.out).symm
  rw [hm] at HS2 HF2 ⊢
  clear hm
  obtain ⟨z, hz⟩ : ∃ z, z = sg true (val xs - val ys) := ⟨_, rfl⟩
  rw [← hz] at HS2 HF2 ⊢
  have HR := Lib.hid hz
  clear hz
  obtain ⟨_, eb, ec⟩ := cells2 (.bool (isNeg z)) (.slice a1 (mag z).length x1) g0 g1
  clear hs1 hf1 hk1 hk2 hk3
  go_wp2_with fail
  exact bodyPost_ret (v := .agg #[.bool (isNeg z), .slice a1 (mag z).length x1]) (by simp [results, Try.results30, go_sem, eb, ec]) rfl (by rw [← HR.out]; exact bigV_fin (g := w.heap.size + 1 + 1) (by omega) HS2.out HF2.out (by simpa using hsz) HK2.out)

set_option maxHeartbeats 3200000 in
theorem l2Add_lt_true (a b : Option Addr) (n c m d : Nat) (xs ys : List Int) (w : World) (hx : Nat40 xs) (hy : Nat40 ys) (h : Sl w a n c xs) (h' : Sl w b m d ys) (hlt : val xs < val ys) :
    Calls Try.prog 30 #[.agg #[.bool true, .slice a n c], .agg #[.bool false, .slice b m d]] w (BigV w.heap.size w (sv true xs + sv false ys)) := by
  have hv : 0 ≤ val ys - val xs := by omega
  have hle : val xs ≤ val ys := by omega
  have hn40 : n ≤ 1000000 := by have := hx.len; have := h.1; omega
  have hm40 : m ≤ 1000000 := by have := hy.len; have := h'.1; omega
  obtain ⟨cv, hcv⟩ : ∃ cv, cv = cmpV (val xs) (val ys) := ⟨_, rfl⟩
  have hcn : decide (0 ≤ cv) = false := decide_eq_false (by rw [hcv, cmpV_lt hlt]; omega)
  have hcn2 : cv < 0 := by rw [hcv, cmpV_lt hlt]; omega
  have hmn : n ≤ m := by rw [← h.1, ← h'.1]; exact len_of_le hy hx hle
  have HC := Lib.hid hcv
  have HLE := Lib.hid hle
  have HV := Lib.hid hv
  have HX := Lib.hid hx
  have HY := Lib.hid hy
  have HS := Lib.hid h
  have HS' := Lib.hid h'
  rw [show sv true xs + sv false ys = sg false (val ys - val xs) by simp [sv, sg]; omega]
  clear hx hy h h' hv hcv hle hlt
  go_enter Try.func30, Try.ntmps30
  go_wp2_with fail
  generalize hW : (((w.alloc (.cells #[.bool true, .slice a n c] 26)).alloc (.cells #[.bool false, .slice b m d] 26)).alloc (.cells #[.bool false, .slice none 0 0] 26)) = W
  have k0 : Kept [] (((w.alloc (.cells #[.bool true, .slice a n c] 26)).alloc (.cells #[.bool false, .slice b m d] 26)).alloc (.cells #[.bool false, .slice none 0 0] 26)) W := by rw [hW]; exact Kept.refl _ _
  have c00 := (k0.peel.peel.top (g := w.heap.size) (by simp) (by simp) 0 (v := .bool true) rfl).1
  have c01 := (k0.peel.peel.top (g := w.heap.size) (by simp) (by simp) 1 (v := .slice a n c) rfl).1
  have c10 := (k0.peel.top (g := w.heap.size + 1) (by simp) (by simp) 0 (v := .bool false) rfl).1
  have c11 := (k0.peel.top (g := w.heap.size + 1) (by simp) (by simp) 1 (v := .slice b m d) rfl).1
  obtain ⟨rc0, rf0, hsz⟩ := k0.top (g := w.heap.size + 1 + 1) (by simp) (by simp) 0 (v := .bool false) rfl
  obtain ⟨rc1, rf1, hsz⟩ := k0.top (g := w.heap.size + 1 + 1) (by simp) (by simp) 1 (v := .slice none 0 0) rfl
  have K0 := Lib.hid k0.peel.peel.peel
  clear k0 hW
  refine (l1Compare_any _ _ _ _ _ _ _ _ _ (HS.out.rd.kept0 K0.out) (HS'.out.rd.kept0 K0.out) HX.out HY.out).mono ?_
  rintro e w0 ⟨rfl, hk⟩
  rw [← HC.out]
  have c00 := hk.cell (p := ⟨w.heap.size, 0, none⟩) c00 (by simp)
  have c01 := hk.cell (p := ⟨w.heap.size, 1, none⟩) c01 (by simp)
  have c10 := hk.cell (p := ⟨w.heap.size + 1, 0, none⟩) c10 (by simp)
  have c11 := hk.cell (p := ⟨w.heap.size + 1, 1, none⟩) c11 (by simp)
  have rf0 := hk.free' (p := ⟨w.heap.size + 1 + 1, 0, none⟩) rc0 rf0 (by simp)
  have rc0 := hk.cell (p := ⟨w.heap.size + 1 + 1, 0, none⟩) rc0 (by simp)
  have rf1 := hk.free' (p := ⟨w.heap.size + 1 + 1, 1, none⟩) rc1 rf1 (by simp)
  have rc1 := hk.cell (p := ⟨w.heap.size + 1 + 1, 1, none⟩) rc1 (by simp)
  have hsz : w.heap.size + 1 + 1 < w0.heap.size := Nat.lt_of_lt_of_le hsz hk.size
  have K0 := Lib.hid (K0.out.trans0 hk)
  clear hk
  go_wp2_with fail
  go_region_held3 (fun w' => w'.cell? ⟨w.heap.size, 0, none⟩ = some (.bool true) ∧ w'.cell? ⟨w.heap.size, 1, none⟩ = some (.slice a n c) ∧ w'.cell? ⟨w.heap.size + 1, 0, none⟩ = some (.bool false) ∧ w'.cell? ⟨w.heap.size + 1, 1, none⟩ = some (.slice b m d) ∧ Hid (Kept [w.heap.size + 1 + 1] w0 w'))
    ((go_split_ands; (try refine ⟨?_, ?_, ?_, ?_, ?_⟩) <;> with_reducible first | exact Lib.hid ((Kept.refl _ _).drew) | exact drew_cell (by assumption) | exact Kept.set2 (by assumption) | exact cell_set2 (by assumption) (by simp <;> omega) | exact Lib.hid (Kept.trans0 (Hid.out (by assumption)) (by assumption)) | exact Kept.cell (by assumption) (by assumption) (by simp)))
    (first
      | (go_at_call 52; go_split_ands; refine (l1Sub_any _ _ _ _ _ _ _ _ _ (HS'.out.rd.kept0 K0.out.drew) (HS.out.rd.kept0 K0.out.drew) HY.out.limb HX.out.limb hm40 hmn HLE.out).mono ?_; rintro e w1 ⟨v1, rfl, ho1, hk1⟩; obtain ⟨a1, x1, rfl, hs1, hf1⟩ := ho1.sl; clear ho1)
      | (go_at_call 39; go_split_ands; refine (l2Big_any _ _ _ _ _ _ HV.out rfl).mono ?_; rintro e w2 ⟨rfl, hk3⟩; have hk2 := hk1.trans0 hk3; have g0 := hk2.cell (p := ⟨w.heap.size + 1 + 1, 0, none⟩) rc0 (by simp); have g1 := hk2.cell (p := ⟨w.heap.size + 1 + 1, 1, none⟩) rc1 (by simp); have e0 := hk2.free' (p := ⟨w.heap.size + 1 + 1, 0, none⟩) rc0 rf0 (by simp); have e1 := hk2.free' (p := ⟨w.heap.size + 1 + 1, 1, none⟩) rc1 rf1 (by simp)))
  have HK2 := Lib.hid (K0.out.drew.trans0 hk2)
  have HS2 := Lib.hid (hs1.kept0 hk3)
  have HF2 := Lib.hid hf1
  have hm : digits (val ys - val xs) = mag (sg false (val ys - val xs)) := (mag_sg HV.out).symm
  rw [hm] at HS2 HF2 ⊢
  clear hm
  obtain ⟨z, hz⟩ : ∃ z, z = sg false (val ys - val xs) := ⟨_, rfl⟩
  rw [← hz] at HS2 HF2 ⊢
  have HR := Lib.hid hz
  clear hz
  obtain ⟨_, eb, ec⟩ := cells2 (.bool (isNeg z)) (.slice a1 (mag z).length x1) g0 g1
  clear hs1 hf1 hk1 hk2 hk3
  go_wp2_with fail
  exact bodyPost_ret (v := .agg #[.bool (isNeg z), .slice a1 (mag z).length x1]) (by simp [results, Try.results30, go_sem, eb, ec]) rfl (by rw [← HR.out]; exact bigV_fin (g := w.heap.size + 1 + 1) (by omega) HS2.out HF2.out (by simpa using hsz) HK2.out)

set_option maxHeartbeats 3200000 in
theorem l2Add_ge_false (a b : Option Addr) (n c m d : Nat) (xs ys : List Int) (w : World) (hx : Nat40 xs) (hy : Nat40 ys) (h : Sl w a n c xs) (h' : Sl w b m d ys) (hle : val ys ≤ val xs) :
    Calls Try.prog 30 #[.agg #[.bool false, .slice a n c], .agg #[.bool true, .slice b m d]] w (BigV w.heap.size w (sv false xs + sv true ys)) := by
  have hv : 0 ≤ val xs - val ys := by omega
  have hn40 : n ≤ 1000000 := by have := hx.len; have := h.1; omega
  have hm40 : m ≤ 1000000 := by have := hy.len; have := h'.1; omega
  obtain ⟨cv, hcv⟩ : ∃ cv, cv = cmpV (val xs) (val ys) := ⟨_, rfl⟩
  have hcn : 0 ≤ cv := by rw [hcv]; unfold cmpV; rw [if_neg (by omega)]; split <;> omega
  have hmn : m ≤ n := by rw [← h.1, ← h'.1]; exact len_of_le hx hy hle
  have HC := Lib.hid hcv
  have HLE := Lib.hid hle
  have HV := Lib.hid hv
  have HX := Lib.hid hx
  have HY := Lib.hid hy
  have HS := Lib.hid h
  have HS' := Lib.hid h'
  rw [show sv false xs + sv true ys = sg false (val xs - val ys) by simp [sv, sg]; omega]
  clear hx hy h h' hv hcv hle
  go_enter Try.func30, Try.ntmps30
  go_wp2_with fail
  generalize hW : (((w.alloc (.cells #[.bool false, .slice a n c] 26)).alloc (.cells #[.bool true, .slice b m d] 26)).alloc (.cells #[.bool false, .slice none 0 0] 26)) = W
  have k0 : Kept [] (((w.alloc (.cells #[.bool false, .slice a n c] 26)).alloc (.cells #[.bool true, .slice b m d] 26)).alloc (.cells #[.bool false, .slice none 0 0] 26)) W := by rw [hW]; exact Kept.refl _ _
  have c00 := (k0.peel.peel.top (g := w.heap.size) (by simp) (by simp) 0 (v := .bool false) rfl).1
  have c01 := (k0.peel.peel.top (g := w.heap.size) (by simp) (by simp) 1 (v := .slice a n c) rfl).1
  have c10 := (k0.peel.top (g := w.heap.size + 1) (by simp) (by simp) 0 (v := .bool true) rfl).1
  have c11 := (k0.peel.top (g := w.heap.size + 1) (by simp) (by simp) 1 (v := .slice b m d) rfl).1
  obtain ⟨rc0, rf0, hsz⟩ := k0.top (g := w.heap.size + 1 + 1) (by simp) (by simp) 0 (v := .bool false) rfl
  obtain ⟨rc1, rf1, hsz⟩ := k0.top (g := w.heap.size + 1 + 1) (by simp) (by simp) 1 (v := .slice none 0 0) rfl
  have K0 := Lib.hid k0.peel.peel.peel
  clear k0 hW
  refine (l1Compare_any _ _ _ _ _ _ _ _ _ (HS.out.rd.kept0 K0.out) (HS'.out.rd.kept0 K0.out) HX.out HY.out).mono ?_
  rintro e w0 ⟨rfl, hk⟩
  rw [← HC.out]
  have c00 := hk.cell (p := ⟨w.heap.size, 0, none⟩) c00 (by simp)
  have c01 := hk.cell (p := ⟨w.heap.size, 1, none⟩) c01 (by simp)
  have c10 := hk.cell (p := ⟨w.heap.size + 1, 0, none⟩) c10 (by simp)
  have c11 := hk.cell (p := ⟨w.heap.size + 1, 1, none⟩) c11 (by simp)
  have rf0 := hk.free' (p := ⟨w.heap.size + 1 + 1, 0, none⟩) rc0 rf0 (by simp)
  have rc0 := hk.cell (p := ⟨w.heap.size + 1 + 1, 0, none⟩) rc0 (by simp)
  have rf1 := hk.free' (p := ⟨w.heap.size + 1 + 1, 1, none⟩) rc1 rf1 (by simp)
  have rc1 := hk.cell (p := ⟨w.heap.size + 1 + 1, 1, none⟩) rc1 (by simp)
  have hsz : w.heap.size + 1 + 1 < w0.heap.size := Nat.lt_of_lt_of_le hsz hk.size
  have K0 := Lib.hid (K0.out.trans0 hk)
  clear hk
  go_wp2_with fail
  go_region_held3 (fun w' => w'.cell? ⟨w.heap.size, 0, none⟩ = some (.bool false) ∧ w'.cell? ⟨w.heap.size, 1, none⟩ = some (.slice a n c) ∧ w'.cell? ⟨w.heap.size + 1, 0, none⟩ = some (.bool true) ∧ w'.cell? ⟨w.heap.size + 1, 1, none⟩ = some (.slice b m d) ∧ Hid (Kept [w.heap.size + 1 + 1] w0 w'))
    ((go_split_ands; (try refine ⟨?_, ?_, ?_, ?_, ?_⟩) <;> with_reducible first | exact Lib.hid ((Kept.refl _ _).drew) | exact drew_cell (by assumption) | exact Kept.set2 (by assumption) | exact cell_set2 (by assumption) (by simp <;> omega) | exact Lib.hid (Kept.trans0 (Hid.out (by assumption)) (by assumption)) | exact Kept.cell (by assumption) (by assumption) (by simp)))
    (first
      | (go_at_call 52; go_split_ands; refine (l1Sub_any _ _ _ _ _ _ _ _ _ (HS.out.rd.kept0 K0.out.drew) (HS'.out.rd.kept0 K0.out.drew) HX.out.limb HY.out.limb hn40 hmn HLE.out).mono ?_; rintro e w1 ⟨v1, rfl, ho1, hk1⟩; obtain ⟨a1, x1, rfl, hs1, hf1⟩ := ho1.sl; clear ho1)
      | (go_at_call 39; go_split_ands; refine (l2Big_any _ _ _ _ _ _ HV.out rfl).mono ?_; rintro e w2 ⟨rfl, hk3⟩; have hk2 := hk1.trans0 hk3; have g0 := hk2.cell (p := ⟨w.heap.size + 1 + 1, 0, none⟩) rc0 (by simp); have g1 := hk2.cell (p := ⟨w.heap.size + 1 + 1, 1, none⟩) rc1 (by simp); have e0 := hk2.free' (p := ⟨w.heap.size + 1 + 1, 0, none⟩) rc0 rf0 (by simp); have e1 := hk2.free' (p := ⟨w.heap.size + 1 + 1, 1, none⟩) rc1 rf1 (by simp)))
  have HK2 := Lib.hid (K0.out.drew.trans0 hk2)
  have HS2 := Lib.hid (hs1.kept0 hk3)
  have HF2 := Lib.hid hf1
  have hm : digits (val xs - val ys) = mag (sg false (val xs - val ys)) := (mag_sg HV.out).symm
  rw [hm] at HS2 HF2 ⊢
  clear hm
  obtain ⟨z, hz⟩ : ∃ z, z = sg false (val xs - val ys) := ⟨_, rfl⟩
  rw [← hz] at HS2 HF2 ⊢
  have HR := Lib.hid hz
  clear hz
  obtain ⟨_, eb, ec⟩ := cells2 (.bool (isNeg z)) (.slice a1 (mag z).length x1) g0 g1
  clear hs1 hf1 hk1 hk2 hk3
  go_wp2_with fail
  exact bodyPost_ret (v := .agg #[.bool (isNeg z), .slice a1 (mag z).length x1]) (by simp [results, Try.results30, go_sem, eb, ec]) rfl (by rw [← HR.out]; exact bigV_fin (g := w.heap.size + 1 + 1) (by omega) HS2.out HF2.out (by simpa using hsz) HK2.out)

set_option maxHeartbeats 3200000 in
theorem l2Add_lt_false (a b : Option Addr) (n c m d : Nat) (xs ys : List Int) (w : World) (hx : Nat40 xs) (hy : Nat40 ys) (h : Sl w a n c xs) (h' : Sl w b m d ys) (hlt : val xs < val ys) :
    Calls Try.prog 30 #[.agg #[.bool false, .slice a n c], .agg #[.bool true, .slice b m d]] w (BigV w.heap.size w (sv false xs + sv true ys)) := by
  have hv : 0 ≤ val ys - val xs := by omega
  have hle : val xs ≤ val ys := by omega
  have hn40 : n ≤ 1000000 := by have := hx.len; have := h.1; omega
  have hm40 : m ≤ 1000000 := by have := hy.len; have := h'.1; omega
  obtain ⟨cv, hcv⟩ : ∃ cv, cv = cmpV (val xs) (val ys) := ⟨_, rfl⟩
  have hcn : decide (0 ≤ cv) = false := decide_eq_false (by rw [hcv, cmpV_lt hlt]; omega)
  have hcn2 : cv < 0 := by rw [hcv, cmpV_lt hlt]; omega
  have hmn : n ≤ m := by rw [← h.1, ← h'.1]; exact len_of_le hy hx hle
  have HC := Lib.hid hcv
  have HLE := Lib.hid hle
  have HV := Lib.hid hv
  have HX := Lib.hid hx
  have HY := Lib.hid hy
  have HS := Lib.hid h
  have HS' := Lib.hid h'
  rw [show sv false xs + sv true ys = sg true (val ys - val xs) by simp [sv, sg]; omega]
  clear hx hy h h' hv hcv hle hlt
  go_enter Try.func30, Try.ntmps30
  go_wp2_with fail
  generalize hW : (((w.alloc (.cells #[.bool false, .slice a n c] 26)).alloc (.cells #[.bool true, .slice b m d] 26)).alloc (.cells #[.bool false, .slice none 0 0] 26)) = W
  have k0 : Kept [] (((w.alloc (.cells #[.bool false, .slice a n c] 26)).alloc (.cells #[.bool true, .slice b m d] 26)).alloc (.cells #[.bool false, .slice none 0 0] 26)) W := by rw [hW]; exact Kept.refl _ _
  have c00 := (k0.peel.peel.top (g := w.heap.size) (by simp) (by simp) 0 (v := .bool false) rfl).1
  have c01 := (k0.peel.peel.top (g := w.heap.size) (by simp) (by simp) 1 (v := .slice a n c) rfl).1
  have c10 := (k0.peel.top (g := w.heap.size + 1) (by simp) (by simp) 0 (v := .bool true) rfl).1
  have c11 := (k0.peel.top (g := w.heap.size + 1) (by simp) (by simp) 1 (v := .slice b m d) rfl).1
  obtain ⟨rc0, rf0, hsz⟩ := k0.top (g := w.heap.size + 1 + 1) (by simp) (by simp) 0 (v := .bool false) rfl
  obtain ⟨rc1, rf1, hsz⟩ := k0.top (g := w.heap.size + 1 + 1) (by simp) (by simp) 1 (v := .slice none 0 0) rfl
  have K0 := Lib.hid k0.peel.peel.peel
  clear k0 hW
  refine (l1Compare_any _ _ _ _ _ _ _ _ _ (HS.out.rd.kept0 K0.out) (HS'.out.rd.kept0 K0.out) HX.out HY.out).mono ?_
  rintro e w0 ⟨rfl, hk⟩
  rw [← HC.out]
  have c00 := hk.cell (p := ⟨w.heap.size, 0, none⟩) c00 (by simp)
  have c01 := hk.cell (p := ⟨w.heap.size, 1, none⟩) c01 (by simp)
  have c10 := hk.cell (p := ⟨w.heap.size + 1, 0, none⟩) c10 (by simp)
  have c11 := hk.cell (p := ⟨w.heap.size + 1, 1, none⟩) c11 (by simp)
  have rf0 := hk.free' (p := ⟨w.heap.size + 1 + 1, 0, none⟩) rc0 rf0 (by simp)
  have rc0 := hk.cell (p := ⟨w.heap.size + 1 + 1, 0, none⟩) rc0 (by simp)
  have rf1 := hk.free' (p := ⟨w.heap.size + 1 + 1, 1, none⟩) rc1 rf1 (by simp)
  have rc1 := hk.cell (p := ⟨w.heap.size + 1 + 1, 1, none⟩) rc1 (by simp)
  have hsz : w.heap.size + 1 + 1 < w0.heap.size := Nat.lt_of_lt_of_le hsz hk.size
  have K0 := Lib.hid (K0.out.trans0 hk)
  clear hk
  go_wp2_with fail
  go_region_held3 (fun w' => w'.cell? ⟨w.heap.size, 0, none⟩ = some (.bool false) ∧ w'.cell? ⟨w.heap.size, 1, none⟩ = some (.slice a n c) ∧ w'.cell? ⟨w.heap.size + 1, 0, none⟩ = some (.bool true) ∧ w'.cell? ⟨w.heap.size + 1, 1, none⟩ = some (.slice b m d) ∧ Hid (Kept [w.heap.size + 1 + 1] w0 w'))
    ((go_split_ands; (try refine ⟨?_, ?_, ?_, ?_, ?_⟩) <;> with_reducible first | exact Lib.hid ((Kept.refl _ _).drew) | exact drew_cell (by assumption) | exact Kept.set2 (by assumption) | exact cell_set2 (by assumption) (by simp <;> omega) | exact Lib.hid (Kept.trans0 (Hid.out (by assumption)) (by assumption)) | exact Kept.cell (by assumption) (by assumption) (by simp)))
    (first
      | (go_at_call 52; go_split_ands; refine (l1Sub_any _ _ _ _ _ _ _ _ _ (HS'.out.rd.kept0 K0.out.drew) (HS.out.rd.kept0 K0.out.drew) HY.out.limb HX.out.limb hm40 hmn HLE.out).mono ?_; rintro e w1 ⟨v1, rfl, ho1, hk1⟩; obtain ⟨a1, x1, rfl, hs1, hf1⟩ := ho1.sl; clear ho1)
      | (go_at_call 39; go_split_ands; refine (l2Big_any _ _ _ _ _ _ HV.out rfl).mono ?_; rintro e w2 ⟨rfl, hk3⟩; have hk2 := hk1.trans0 hk3; have g0 := hk2.cell (p := ⟨w.heap.size + 1 + 1, 0, none⟩) rc0 (by simp); have g1 := hk2.cell (p := ⟨w.heap.size + 1 + 1, 1, none⟩) rc1 (by simp); have e0 := hk2.free' (p := ⟨w.heap.size + 1 + 1, 0, none⟩) rc0 rf0 (by simp); have e1 := hk2.free' (p := ⟨w.heap.size + 1 + 1, 1, none⟩) rc1 rf1 (by simp)))
  have HK2 := Lib.hid (K0.out.drew.trans0 hk2)
  have HS2 := Lib.hid (hs1.kept0 hk3)
  have HF2 := Lib.hid hf1
  have hm : digits (val ys - val xs) = mag (sg true (val ys - val xs)) := (mag_sg HV.out).symm
  rw [hm] at HS2 HF2 ⊢
  clear hm
  obtain ⟨z, hz⟩ : ∃ z, z = sg true (val ys - val xs) := ⟨_, rfl⟩
  rw [← hz] at HS2 HF2 ⊢
  have HR := Lib.hid hz
  clear hz
  obtain ⟨_, eb, ec⟩ := cells2 (.bool (isNeg z)) (.slice a1 (mag z).length x1) g0 g1
  clear hs1 hf1 hk1 hk2 hk3
  go_wp2_with fail
  exact bodyPost_ret (v := .agg #[.bool (isNeg z), .slice a1 (mag z).length x1]) (by simp [results, Try.results30, go_sem, eb, ec]) rfl (by rw [← HR.out]; exact bigV_fin (g := w.heap.size + 1 + 1) (by omega) HS2.out HF2.out (by simpa using hsz) HK2.out)

/-- The model's sum of two bigs, but that a 0 may be Neg. -/
theorem l2Add_any (p q : Bool) (a b : Option Addr) (n c m d : Nat) (xs ys : List Int) (w : World) (hx : Nat40 xs) (hy : Nat40 ys) (h : Sl w a n c xs) (h' : Sl w b m d ys) :
    Calls Try.prog 30 #[.agg #[.bool p, .slice a n c], .agg #[.bool q, .slice b m d]] w (BigV w.heap.size w (sv p xs + sv q ys)) := by
  by_cases hlt : val xs < val ys
  · cases p <;> cases q
    · exact l2Add_same _ _ _ _ _ _ _ _ _ _ hx hy h h'
    · exact l2Add_lt_false _ _ _ _ _ _ _ _ _ hx hy h h' hlt
    · exact l2Add_lt_true _ _ _ _ _ _ _ _ _ hx hy h h' hlt
    · exact l2Add_same _ _ _ _ _ _ _ _ _ _ hx hy h h'
  · cases p <;> cases q
    · exact l2Add_same _ _ _ _ _ _ _ _ _ _ hx hy h h'
    · exact l2Add_ge_false _ _ _ _ _ _ _ _ _ hx hy h h' (by omega)
    · exact l2Add_ge_true _ _ _ _ _ _ _ _ _ hx hy h h' (by omega)
    · exact l2Add_same _ _ _ _ _ _ _ _ _ _ hx hy h h'

end Go.Proofs.Ytlhiahhpmjiioaa
