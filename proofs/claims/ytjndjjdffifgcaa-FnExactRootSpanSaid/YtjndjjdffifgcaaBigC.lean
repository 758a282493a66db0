/-
  Contracts of sumOfBigs, AddBigs, SubBigs, the program's. Conditions: the limbs lie in blocks of numbers.
-/
import Derived.Test.YtjndjjdffifgcaaBigB
import Derived.Test.YtjndjjdffifgcaaSub
import Derived.Deep.RegionHeld3
import Derived.Deep.DrawnRows
namespace Go.Proofs.Ytjndjjdffifgcaa
open Go.RowKit
attribute [local go_sem ↓] Go.wp_at_zero Go.wp_at_succ

theorem fitB_of {b : Bool} {v : Int} (h : 0 ≤ v) (c : Int) (l : List Int) (hc : fitCode v = c) (hl : fitList v = l) : (c ≠ 0 → fitB (sg b v) = noBig c) ∧ (c = 0 → l = digits v ∧ fitB (sg b v) = ⟨0, isNeg (sg b v), mag (sg b v)⟩) := by
  unfold fitCode at hc
  unfold fitList at hl
  have hm := mag_sg (neg := b) h
  by_cases h40 : 40 < (digits v).length
  · rw [if_pos h40] at hc hl
    subst hc hl
    exact ⟨fun _ => fitB_many (by rw [hm]; exact h40), fun h => by omega⟩
  · rw [if_neg h40] at hc hl
    subst hc hl
    exact ⟨fun h => absurd rfl h, fun _ => ⟨rfl, fitB_ok (by rw [hm]; exact h40)⟩⟩

set_option maxHeartbeats 1000000 in
/-- bigResult of what a natural's sum or difference is. -/
theorem bigResult_fit (b : Bool) (a : Option Addr) (c : Nat) (v : Int) (w0 w : World) (hv : 0 ≤ v) (h : Sl w a (fitList v).length c (fitList v)) (hF : Fr w0.heap.size a (fitList v).length) (hk : Kept [] w0 w) :
    Calls Try.prog 112 #[.bool b, .agg #[.int .i64 (fitCode v), .slice a (fitList v).length c]] w fun e w' => BigR w0 (fitB (sg b v)) e w' ∧ Kept [] w w' := by
  obtain ⟨h1, h2⟩ := fitB_of (b := b) hv _ _ rfl rfl
  by_cases hc : fitCode v = 0
  · obtain ⟨e1, e2⟩ := h2 hc
    rw [hc, e2]
    rw [e1] at h hF ⊢
    refine (bigResult_ok b a _ c v w hv h).mono ?_
    rintro e w' ⟨b', c', rfl, hs, hb, hk'⟩
    exact ⟨⟨b', c', rfl, hs, fun hn x hx => by rw [hb hn] at hx; exact hF (by simpa [mag_sg hv] using hn) x hx, hk.trans0 hk'⟩, hk'⟩
  · rw [h1 hc]
    refine (bigResult_code b a _ c _ w hc).mono ?_
    rintro e w' ⟨b', c', rfl, hs, hb, hk'⟩
    exact ⟨⟨b', c', rfl, hs, hb.mono hk.size, hk.trans0 hk'⟩, hk'⟩

theorem sum_same {p : Bool} {x y : Int} : sg p x + sg p y = sg p (x + y) := by cases p <;> simp [sg] <;> omega
theorem Kept.free' {L : List Nat} {w w' : World} {p : Addr} {v : Value} (h : Kept L w w') (hc : w.cell? p = some v) (hf : w.frozen? p = false) (hg : p.block ∉ L) : w'.frozen? p = false :=
  h.free hf (World.block_lt_of_cell? w p hc) hg
theorem AddNats_fit (a b : Option Addr) (n c m c' : Nat) (xs ys : List Int) (w : World) (h : Rd w a n xs) (h' : Rd w b m ys) (hz : fault2 xs ys = 0) :
    Calls Try.prog 125 #[.slice a n c, .slice b m c'] w (NatR w (fitCode (val xs + val ys)) (fitList (val xs + val ys))) := by
  have := AddNats_any a b n c m c' xs ys w h h'
  rwa [if_pos hz, if_pos hz] at this
theorem Kept.set3 {W w2 : World} {g : Nat} {v1 v2 v3 : Value} (h : Hid (Kept [g] W w2)) : Hid (Kept [g] W (((w2.setCell ⟨g, 0, none⟩ v1).setCell ⟨g, 1, none⟩ v2).setCell ⟨g, 2, none⟩ v3)) :=
  Lib.hid (((h.out.setCell _ _ (by simp)).setCell _ _ (by simp)).setCell _ _ (by simp))
theorem cell_set3 {w2 : World} {g : Nat} {p : Addr} {v v1 v2 v3 : Value} (h : w2.cell? p = some v) (hg : p.block ≠ g) : (((w2.setCell ⟨g, 0, none⟩ v1).setCell ⟨g, 1, none⟩ v2).setCell ⟨g, 2, none⟩ v3).cell? p = some v :=
  ((((Kept.refl [g] w2).setCell _ _ (by simp)).setCell _ _ (by simp)).setCell _ _ (by simp)).cell h (by simpa using hg)
theorem cell_set2 {w2 : World} {g : Nat} {p : Addr} {v v1 v2 : Value} (h : w2.cell? p = some v) (hg : p.block ≠ g) : ((w2.setCell ⟨g, 0, none⟩ v1).setCell ⟨g, 1, none⟩ v2).cell? p = some v :=
  (((Kept.refl [g] w2).setCell _ _ (by simp)).setCell _ _ (by simp)).cell h (by simpa using hg)
theorem drew_cell {w : World} {p : Addr} {v : Value} (h : w.cell? p = some v) : w.drew.cell? p = some v := h
theorem Kept.set2 {W w2 : World} {g : Nat} {v1 v2 : Value} (h : Hid (Kept [g] W w2)) : Hid (Kept [g] W ((w2.setCell ⟨g, 0, none⟩ v1).setCell ⟨g, 1, none⟩ v2)) :=
  Lib.hid ((h.out.setCell _ _ (by simp)).setCell _ _ (by simp))
/-- A big answer, stored into the result's block. -/
theorem bigR_fin {w w0 w1 : World} {g : Nat} {r : BV} {a : Option Addr} {c : Nat} (hg : w.heap.size ≤ g) (hS : Sl w1 a r.limbs.length c r.limbs) (hF : Fr w0.heap.size a r.limbs.length) (hg0 : g < w0.heap.size) (hk : Kept [] w w1) :
    BigR w r (.returned (.agg #[.int .i64 r.code, .bool r.neg, .slice a r.limbs.length c])) (((w1.setCell ⟨g, 0, none⟩ (.int .i64 r.code)).setCell ⟨g, 1, none⟩ (.bool r.neg)).setCell ⟨g, 2, none⟩ (.slice a r.limbs.length c)) :=
  ⟨a, c, rfl, hS.kept ((((Kept.refl [g] w1).setCell _ _ (by simp)).setCell _ _ (by simp)).setCell _ _ (by simp)) (fun hn x hx => by have := hF hn x hx; simp; omega), hF.mono (by omega),
    ((hk.setCell _ _ (by simp; omega)).setCell _ _ (by simp; omega)).setCell _ _ (by simp; omega)⟩

theorem SubNats_fit (a b : Option Addr) (n c m c' : Nat) (xs ys : List Int) (w : World) (h : Sl w a n c xs) (h' : Rd w b m ys) (hz : fault2 xs ys = 0) (hle : val ys ≤ val xs) :
    Calls Try.prog 126 #[.slice a n c, .slice b m c'] w (NatR w (fitCode (val xs - val ys)) (fitList (val xs - val ys))) := by
  have hx := natFault_zero (fault2_zero hz).1
  have hy := natFault_zero (fault2_zero hz).2
  have h1 := (show AllLimbs xs from hx.limb).val
  have h2 := val_nonneg hy
  obtain ⟨e1, e2⟩ := fit_small (v := val xs - val ys) (n := xs.length) (by omega) hx.len
  have := SubNats_any a b n c m c' xs ys w h h'
  unfold subCode subList at this
  rw [if_pos hz, if_pos hz, if_neg (by omega), if_neg (by omega)] at this
  rw [e1, e2]
  exact this

set_option maxHeartbeats 3200000 in
theorem sumOfBigs_same (p : Bool) (a b : Option Addr) (n c m d : Nat) (xs ys : List Int) (w : World) (hx : Nat40 xs) (hy : Nat40 ys) (h : Sl w a n c xs) (h' : Sl w b m d ys) :
    Calls Try.prog 100 #[.agg #[.bool p, .slice a n c], .agg #[.bool p, .slice b m d]] w (BigR w (fitB (sv p xs + sv p ys))) := by
  have hv : 0 ≤ val xs + val ys := by have := (canon_nonneg hx.canon).1; have := (canon_nonneg hy.canon).1; omega
  have hz : fault2 xs ys = 0 := by rw [fault2_second (nat40_fault hx)]; exact nat40_fault hy
  have HZ := Lib.hid hz
  have HV := Lib.hid hv
  have HX := Lib.hid hx
  have HY := Lib.hid hy
  have HS := Lib.hid h
  have HS' := Lib.hid h'
  rw [show sv p xs + sv p ys = sg p (val xs + val ys) from sum_same]
  clear hx hy h h' hv hz
  have Q : (p == p) = true := by cases p <;> rfl
  go_enter Try.func100, Try.ntmps100
  go_wp2_with fail
  generalize hW : (((w.alloc (.cells #[.bool p, .slice a n c] 29)).alloc (.cells #[.bool p, .slice b m d] 29)).alloc (.cells #[.int .i64 0, .bool false, .slice none 0 0] 61)) = W
  have k0 : Kept [] (((w.alloc (.cells #[.bool p, .slice a n c] 29)).alloc (.cells #[.bool p, .slice b m d] 29)).alloc (.cells #[.int .i64 0, .bool false, .slice none 0 0] 61)) W := by rw [hW]; exact Kept.refl _ _
  have c00 := (k0.peel.peel.top (g := w.heap.size) (by simp) (by simp) 0 (v := .bool p) rfl).1
  have c01 := (k0.peel.peel.top (g := w.heap.size) (by simp) (by simp) 1 (v := .slice a n c) rfl).1
  have c10 := (k0.peel.top (g := w.heap.size + 1) (by simp) (by simp) 0 (v := .bool p) rfl).1
  have c11 := (k0.peel.top (g := w.heap.size + 1) (by simp) (by simp) 1 (v := .slice b m d) rfl).1
  obtain ⟨rc0, rf0, hsz⟩ := k0.top (g := w.heap.size + 1 + 1) (by simp) (by simp) 0 (v := .int .i64 0) rfl
  obtain ⟨rc1, rf1, hsz⟩ := k0.top (g := w.heap.size + 1 + 1) (by simp) (by simp) 1 (v := .bool false) rfl
  obtain ⟨rc2, rf2, hsz⟩ := k0.top (g := w.heap.size + 1 + 1) (by simp) (by simp) 2 (v := .slice none 0 0) rfl
  have K0 := Lib.hid k0.peel.peel.peel
  clear k0 hW
  go_region_held3 (fun w' => w'.cell? ⟨w.heap.size, 0, none⟩ = some (.bool p) ∧ w'.cell? ⟨w.heap.size, 1, none⟩ = some (.slice a n c) ∧ w'.cell? ⟨w.heap.size + 1, 0, none⟩ = some (.bool p) ∧ w'.cell? ⟨w.heap.size + 1, 1, none⟩ = some (.slice b m d) ∧ Hid (Kept [w.heap.size + 1 + 1] W w'))
    ((go_split_ands; (try refine ⟨?_, ?_, ?_, ?_, ?_⟩) <;> with_reducible first | exact Lib.hid ((Kept.refl _ _).drew) | exact drew_cell (by assumption) | exact Kept.set3 (by assumption) | exact cell_set3 (by assumption) (by simp <;> omega) | exact Lib.hid (Kept.trans0 (Hid.out (by assumption)) (by assumption)) | exact Kept.cell (by assumption) (by assumption) (by simp)))
    (first
      | (go_at_call 125; go_split_ands; refine (AddNats_fit _ _ _ _ _ _ _ _ _ (HS.out.rd.kept0 K0.out.drew) (HS'.out.rd.kept0 K0.out.drew) HZ.out).mono ?_; rintro e w1 ⟨a1, x1, rfl, hs1, hf1, hk1⟩)
      | (go_at_call 112; go_split_ands; refine (bigResult_fit _ _ _ _ _ _ HV.out hs1 hf1 hk1).mono ?_; rintro e w2 ⟨⟨a2, x2, rfl, hs2, hf2, hk2⟩, hk3⟩; have g0 := hk2.cell (p := ⟨w.heap.size + 1 + 1, 0, none⟩) rc0 (by simp); have g1 := hk2.cell (p := ⟨w.heap.size + 1 + 1, 1, none⟩) rc1 (by simp); have g2 := hk2.cell (p := ⟨w.heap.size + 1 + 1, 2, none⟩) rc2 (by simp); have e0 := hk2.free' (p := ⟨w.heap.size + 1 + 1, 0, none⟩) rc0 rf0 (by simp); have e1 := hk2.free' (p := ⟨w.heap.size + 1 + 1, 1, none⟩) rc1 rf1 (by simp); have e2 := hk2.free' (p := ⟨w.heap.size + 1 + 1, 2, none⟩) rc2 rf2 (by simp)))
  have HK2 := Lib.hid (K0.out.drew.trans0 hk2)
  have HS2 := Lib.hid hs2
  have HF2 := Lib.hid hf2
  obtain ⟨r, hr⟩ : ∃ r, r = fitB (sg p (val xs + val ys)) := ⟨_, rfl⟩
  rw [← hr] at HS2 HF2 ⊢
  have HR := Lib.hid hr
  clear hr
  obtain ⟨ea, eb, ec⟩ := cells3' (.int .i64 r.code) (.bool r.neg) (.slice a2 r.limbs.length x2) g0 g1 g2
  clear hs2 hf2 hk2 hs1 hf1 hk1 hk3
  go_wp2_with fail
  exact bodyPost_ret (v := .agg #[.int .i64 r.code, .bool r.neg, .slice a2 r.limbs.length x2]) (by simp [results, Try.results100, go_sem, ea, eb, ec]) rfl (by rw [← HR.out]; exact bigR_fin (g := w.heap.size + 1 + 1) (by omega) HS2.out HF2.out (by simpa using hsz) HK2.out)

set_option maxHeartbeats 3200000 in
theorem sumOfBigs_lt_true (a b : Option Addr) (n c m d : Nat) (xs ys : List Int) (w : World) (hx : Nat40 xs) (hy : Nat40 ys) (h : Sl w a n c xs) (h' : Sl w b m d ys) (hlt : val xs < val ys) :
    Calls Try.prog 100 #[.agg #[.bool true, .slice a n c], .agg #[.bool false, .slice b m d]] w (BigR w (fitB (sv true xs + sv false ys))) := by
  have hv : 0 ≤ val ys - val xs := by omega
  have hz : fault2 ys xs = 0 := by rw [fault2_second (nat40_fault hy)]; exact nat40_fault hx
  have HZ := Lib.hid hz
  have hz0 : fault2 xs ys = 0 := by rw [fault2_second (nat40_fault hx)]; exact nat40_fault hy
  have hc : (if fault2 xs ys = 0 then cmpV (val xs) (val ys) else 0) = -1 := by rw [if_pos hz0, cmpV_lt hlt]
  have HC := Lib.hid hc
  have hle : val xs ≤ val ys := by omega
  have HLE := Lib.hid hle
  have HV := Lib.hid hv
  have HX := Lib.hid hx
  have HY := Lib.hid hy
  have HS := Lib.hid h
  have HS' := Lib.hid h'
  rw [show sv true xs + sv false ys = sg false (val ys - val xs) by simp [sv, sg]; omega]
  clear hx hy h h' hv hz hz0 hc hlt hle
  go_enter Try.func100, Try.ntmps100
  go_wp2_with fail
  generalize hW : (((w.alloc (.cells #[.bool true, .slice a n c] 29)).alloc (.cells #[.bool false, .slice b m d] 29)).alloc (.cells #[.int .i64 0, .bool false, .slice none 0 0] 61)) = W
  have k0 : Kept [] (((w.alloc (.cells #[.bool true, .slice a n c] 29)).alloc (.cells #[.bool false, .slice b m d] 29)).alloc (.cells #[.int .i64 0, .bool false, .slice none 0 0] 61)) W := by rw [hW]; exact Kept.refl _ _
  have c00 := (k0.peel.peel.top (g := w.heap.size) (by simp) (by simp) 0 (v := .bool true) rfl).1
  have c01 := (k0.peel.peel.top (g := w.heap.size) (by simp) (by simp) 1 (v := .slice a n c) rfl).1
  have c10 := (k0.peel.top (g := w.heap.size + 1) (by simp) (by simp) 0 (v := .bool false) rfl).1
  have c11 := (k0.peel.top (g := w.heap.size + 1) (by simp) (by simp) 1 (v := .slice b m d) rfl).1
  obtain ⟨rc0, rf0, hsz⟩ := k0.top (g := w.heap.size + 1 + 1) (by simp) (by simp) 0 (v := .int .i64 0) rfl
  obtain ⟨rc1, rf1, hsz⟩ := k0.top (g := w.heap.size + 1 + 1) (by simp) (by simp) 1 (v := .bool false) rfl
  obtain ⟨rc2, rf2, hsz⟩ := k0.top (g := w.heap.size + 1 + 1) (by simp) (by simp) 2 (v := .slice none 0 0) rfl
  have K0 := Lib.hid k0.peel.peel.peel
  clear k0 hW
  refine (CompareNats_any _ _ _ _ _ _ _ _ _ (HS.out.rd.kept0 K0.out) (HS'.out.rd.kept0 K0.out)).mono ?_
  rintro e w0 ⟨rfl, hk⟩
  rw [HC.out]
  have c00 := hk.cell (p := ⟨w.heap.size, 0, none⟩) c00 (by simp)
  have c01 := hk.cell (p := ⟨w.heap.size, 1, none⟩) c01 (by simp)
  have c10 := hk.cell (p := ⟨w.heap.size + 1, 0, none⟩) c10 (by simp)
  have c11 := hk.cell (p := ⟨w.heap.size + 1, 1, none⟩) c11 (by simp)
  have rf0 := hk.free' (p := ⟨w.heap.size + 1 + 1, 0, none⟩) rc0 rf0 (by simp)
  have rc0 := hk.cell (p := ⟨w.heap.size + 1 + 1, 0, none⟩) rc0 (by simp)
  have rf1 := hk.free' (p := ⟨w.heap.size + 1 + 1, 1, none⟩) rc1 rf1 (by simp)
  have rc1 := hk.cell (p := ⟨w.heap.size + 1 + 1, 1, none⟩) rc1 (by simp)
  have rf2 := hk.free' (p := ⟨w.heap.size + 1 + 1, 2, none⟩) rc2 rf2 (by simp)
  have rc2 := hk.cell (p := ⟨w.heap.size + 1 + 1, 2, none⟩) rc2 (by simp)
  have hsz : w.heap.size + 1 + 1 < w0.heap.size := Nat.lt_of_lt_of_le hsz hk.size
  have K0 := Lib.hid (K0.out.trans0 hk)
  clear hk
  go_wp2_with fail
  go_region_held3 (fun w' => w'.cell? ⟨w.heap.size, 0, none⟩ = some (.bool true) ∧ w'.cell? ⟨w.heap.size, 1, none⟩ = some (.slice a n c) ∧ w'.cell? ⟨w.heap.size + 1, 0, none⟩ = some (.bool false) ∧ w'.cell? ⟨w.heap.size + 1, 1, none⟩ = some (.slice b m d) ∧ Hid (Kept [w.heap.size + 1 + 1] w0 w'))
    ((go_split_ands; (try refine ⟨?_, ?_, ?_, ?_, ?_⟩) <;> with_reducible first | exact Lib.hid ((Kept.refl _ _).drew) | exact drew_cell (by assumption) | exact Kept.set3 (by assumption) | exact cell_set3 (by assumption) (by simp <;> omega) | exact Lib.hid (Kept.trans0 (Hid.out (by assumption)) (by assumption)) | exact Kept.cell (by assumption) (by assumption) (by simp)))
    (first
      | (go_at_call 126; go_split_ands; refine (SubNats_fit _ _ _ _ _ _ _ _ _ (HS'.out.kept0 K0.out.drew) (HS.out.rd.kept0 K0.out.drew) HZ.out HLE.out).mono ?_; rintro e w1 ⟨a1, x1, rfl, hs1, hf1, hk1⟩)
      | (go_at_call 112; go_split_ands; refine (bigResult_fit _ _ _ _ _ _ HV.out hs1 hf1 hk1).mono ?_; rintro e w2 ⟨⟨a2, x2, rfl, hs2, hf2, hk2⟩, hk3⟩; have g0 := hk2.cell (p := ⟨w.heap.size + 1 + 1, 0, none⟩) rc0 (by simp); have g1 := hk2.cell (p := ⟨w.heap.size + 1 + 1, 1, none⟩) rc1 (by simp); have g2 := hk2.cell (p := ⟨w.heap.size + 1 + 1, 2, none⟩) rc2 (by simp); have e0 := hk2.free' (p := ⟨w.heap.size + 1 + 1, 0, none⟩) rc0 rf0 (by simp); have e1 := hk2.free' (p := ⟨w.heap.size + 1 + 1, 1, none⟩) rc1 rf1 (by simp); have e2 := hk2.free' (p := ⟨w.heap.size + 1 + 1, 2, none⟩) rc2 rf2 (by simp)))
  have HK2 := Lib.hid (K0.out.drew.trans0 hk2)
  have HS2 := Lib.hid hs2
  have HF2 := Lib.hid hf2
  obtain ⟨r, hr⟩ : ∃ r, r = fitB (sg false (val ys - val xs)) := ⟨_, rfl⟩
  rw [← hr] at HS2 HF2 ⊢
  have HR := Lib.hid hr
  clear hr
  obtain ⟨ea, eb, ec⟩ := cells3' (.int .i64 r.code) (.bool r.neg) (.slice a2 r.limbs.length x2) g0 g1 g2
  clear hs2 hf2 hk2 hs1 hf1 hk1 hk3
  go_wp2_with fail
  exact bodyPost_ret (v := .agg #[.int .i64 r.code, .bool r.neg, .slice a2 r.limbs.length x2]) (by simp [results, Try.results100, go_sem, ea, eb, ec]) rfl (by rw [← HR.out]; exact bigR_fin (g := w.heap.size + 1 + 1) (by omega) HS2.out HF2.out (by simpa using hsz) HK2.out)

set_option maxHeartbeats 3200000 in
theorem sumOfBigs_ge_true (a b : Option Addr) (n c m d : Nat) (xs ys : List Int) (w : World) (hx : Nat40 xs) (hy : Nat40 ys) (h : Sl w a n c xs) (h' : Sl w b m d ys) (hle : val ys ≤ val xs) :
    Calls Try.prog 100 #[.agg #[.bool true, .slice a n c], .agg #[.bool false, .slice b m d]] w (BigR w (fitB (sv true xs + sv false ys))) := by
  have hv : 0 ≤ val xs - val ys := by omega
  have hz : fault2 xs ys = 0 := by rw [fault2_second (nat40_fault hx)]; exact nat40_fault hy
  have HZ := Lib.hid hz
  obtain ⟨cv, hcv⟩ : ∃ cv, cv = cmpV (val xs) (val ys) := ⟨_, rfl⟩
  have hcn : decide (cv < 0) = false := decide_eq_false (by rw [hcv]; unfold cmpV; rw [if_neg (by omega)]; split <;> omega)
  have hc0 : (if fault2 xs ys = 0 then cmpV (val xs) (val ys) else 0) = cv := by rw [if_pos hz, hcv]
  have HC := Lib.hid hc0
  have HLE := Lib.hid hle
  have HV := Lib.hid hv
  have HX := Lib.hid hx
  have HY := Lib.hid hy
  have HS := Lib.hid h
  have HS' := Lib.hid h'
  rw [show sv true xs + sv false ys = sg true (val xs - val ys) by simp [sv, sg]; omega]
  clear hx hy h h' hv hz hc0 hcv hle
  go_enter Try.func100, Try.ntmps100
  go_wp2_with fail
  generalize hW : (((w.alloc (.cells #[.bool true, .slice a n c] 29)).alloc (.cells #[.bool false, .slice b m d] 29)).alloc (.cells #[.int .i64 0, .bool false, .slice none 0 0] 61)) = W
  have k0 : Kept [] (((w.alloc (.cells #[.bool true, .slice a n c] 29)).alloc (.cells #[.bool false, .slice b m d] 29)).alloc (.cells #[.int .i64 0, .bool false, .slice none 0 0] 61)) W := by rw [hW]; exact Kept.refl _ _
  have c00 := (k0.peel.peel.top (g := w.heap.size) (by simp) (by simp) 0 (v := .bool true) rfl).1
  have c01 := (k0.peel.peel.top (g := w.heap.size) (by simp) (by simp) 1 (v := .slice a n c) rfl).1
  have c10 := (k0.peel.top (g := w.heap.size + 1) (by simp) (by simp) 0 (v := .bool false) rfl).1
  have c11 := (k0.peel.top (g := w.heap.size + 1) (by simp) (by simp) 1 (v := .slice b m d) rfl).1
  obtain ⟨rc0, rf0, hsz⟩ := k0.top (g := w.heap.size + 1 + 1) (by simp) (by simp) 0 (v := .int .i64 0) rfl
  obtain ⟨rc1, rf1, hsz⟩ := k0.top (g := w.heap.size + 1 + 1) (by simp) (by simp) 1 (v := .bool false) rfl
  obtain ⟨rc2, rf2, hsz⟩ := k0.top (g := w.heap.size + 1 + 1) (by simp) (by simp) 2 (v := .slice none 0 0) rfl
  have K0 := Lib.hid k0.peel.peel.peel
  clear k0 hW
  refine (CompareNats_any _ _ _ _ _ _ _ _ _ (HS.out.rd.kept0 K0.out) (HS'.out.rd.kept0 K0.out)).mono ?_
  rintro e w0 ⟨rfl, hk⟩
  rw [HC.out]
  have c00 := hk.cell (p := ⟨w.heap.size, 0, none⟩) c00 (by simp)
  have c01 := hk.cell (p := ⟨w.heap.size, 1, none⟩) c01 (by simp)
  have c10 := hk.cell (p := ⟨w.heap.size + 1, 0, none⟩) c10 (by simp)
  have c11 := hk.cell (p := ⟨w.heap.size + 1, 1, none⟩) c11 (by simp)
  have rf0 := hk.free' (p := ⟨w.heap.size + 1 + 1, 0, none⟩) rc0 rf0 (by simp)
  have rc0 := hk.cell (p := ⟨w.heap.size + 1 + 1, 0, none⟩) rc0 (by simp)
  have rf1 := hk.free' (p := ⟨w.heap.size + 1 + 1, 1, none⟩) rc1 rf1 (by simp)
  have rc1 := hk.cell (p := ⟨w.heap.size + 1 + 1, 1, none⟩) rc1 (by simp)
  have rf2 := hk.free' (p := ⟨w.heap.size + 1 + 1, 2, none⟩) rc2 rf2 (by simp)
  have rc2 := hk.cell (p := ⟨w.heap.size + 1 + 1, 2, none⟩) rc2 (by simp)
  have hsz : w.heap.size + 1 + 1 < w0.heap.size := Nat.lt_of_lt_of_le hsz hk.size
  have K0 := Lib.hid (K0.out.trans0 hk)
  clear hk
  go_wp2_with fail
  go_region_held3 (fun w' => w'.cell? ⟨w.heap.size, 0, none⟩ = some (.bool true) ∧ w'.cell? ⟨w.heap.size, 1, none⟩ = some (.slice a n c) ∧ w'.cell? ⟨w.heap.size + 1, 0, none⟩ = some (.bool false) ∧ w'.cell? ⟨w.heap.size + 1, 1, none⟩ = some (.slice b m d) ∧ Hid (Kept [w.heap.size + 1 + 1] w0 w'))
    ((go_split_ands; (try refine ⟨?_, ?_, ?_, ?_, ?_⟩) <;> with_reducible first | exact Lib.hid ((Kept.refl _ _).drew) | exact drew_cell (by assumption) | exact Kept.set3 (by assumption) | exact cell_set3 (by assumption) (by simp <;> omega) | exact Lib.hid (Kept.trans0 (Hid.out (by assumption)) (by assumption)) | exact Kept.cell (by assumption) (by assumption) (by simp)))
    (first
      | (go_at_call 126; go_split_ands; refine (SubNats_fit _ _ _ _ _ _ _ _ _ (HS.out.kept0 K0.out.drew) (HS'.out.rd.kept0 K0.out.drew) HZ.out HLE.out).mono ?_; rintro e w1 ⟨a1, x1, rfl, hs1, hf1, hk1⟩)
      | (go_at_call 112; go_split_ands; refine (bigResult_fit _ _ _ _ _ _ HV.out hs1 hf1 hk1).mono ?_; rintro e w2 ⟨⟨a2, x2, rfl, hs2, hf2, hk2⟩, hk3⟩; have g0 := hk2.cell (p := ⟨w.heap.size + 1 + 1, 0, none⟩) rc0 (by simp); have g1 := hk2.cell (p := ⟨w.heap.size + 1 + 1, 1, none⟩) rc1 (by simp); have g2 := hk2.cell (p := ⟨w.heap.size + 1 + 1, 2, none⟩) rc2 (by simp); have e0 := hk2.free' (p := ⟨w.heap.size + 1 + 1, 0, none⟩) rc0 rf0 (by simp); have e1 := hk2.free' (p := ⟨w.heap.size + 1 + 1, 1, none⟩) rc1 rf1 (by simp); have e2 := hk2.free' (p := ⟨w.heap.size + 1 + 1, 2, none⟩) rc2 rf2 (by simp)))
  have HK2 := Lib.hid (K0.out.drew.trans0 hk2)
  have HS2 := Lib.hid hs2
  have HF2 := Lib.hid hf2
  obtain ⟨r, hr⟩ : ∃ r, r = fitB (sg true (val xs - val ys)) := ⟨_, rfl⟩
  rw [← hr] at HS2 HF2 ⊢
  have HR := Lib.hid hr
  clear hr
  obtain ⟨ea, eb, ec⟩ := cells3' (.int .i64 r.code) (.bool r.neg) (.slice a2 r.limbs.length x2) g0 g1 g2
  clear hs2 hf2 hk2 hs1 hf1 hk1 hk3
  go_wp2_with fail
  exact bodyPost_ret (v := .agg #[.int .i64 r.code, .bool r.neg, .slice a2 r.limbs.length x2]) (by simp [results, Try.results100, go_sem, ea, eb, ec]) rfl (by rw [← HR.out]; exact bigR_fin (g := w.heap.size + 1 + 1) (by omega) HS2.out HF2.out (by simpa using hsz) HK2.out)

set_option maxHeartbeats 3200000 in
theorem sumOfBigs_lt_false (a b : Option Addr) (n c m d : Nat) (xs ys : List Int) (w : World) (hx : Nat40 xs) (hy : Nat40 ys) (h : Sl w a n c xs) (h' : Sl w b m d ys) (hlt : val xs < val ys) :
    Calls Try.prog 100 #[.agg #[.bool false, .slice a n c], .agg #[.bool true, .slice b m d]] w (BigR w (fitB (sv false xs + sv true ys))) := by
  have hv : 0 ≤ val ys - val xs := by omega
  have hz : fault2 ys xs = 0 := by rw [fault2_second (nat40_fault hy)]; exact nat40_fault hx
  have HZ := Lib.hid hz
  have hz0 : fault2 xs ys = 0 := by rw [fault2_second (nat40_fault hx)]; exact nat40_fault hy
  have hc : (if fault2 xs ys = 0 then cmpV (val xs) (val ys) else 0) = -1 := by rw [if_pos hz0, cmpV_lt hlt]
  have HC := Lib.hid hc
  have hle : val xs ≤ val ys := by omega
  have HLE := Lib.hid hle
  have HV := Lib.hid hv
  have HX := Lib.hid hx
  have HY := Lib.hid hy
  have HS := Lib.hid h
  have HS' := Lib.hid h'
  rw [show sv false xs + sv true ys = sg true (val ys - val xs) by simp [sv, sg]; omega]
  clear hx hy h h' hv hz hz0 hc hlt hle
  go_enter Try.func100, Try.ntmps100
  go_wp2_with fail
  generalize hW : (((w.alloc (.cells #[.bool false, .slice a n c] 29)).alloc (.cells #[.bool true, .slice b m d] 29)).alloc (.cells #[.int .i64 0, .bool false, .slice none 0 0] 61)) = W
  have k0 : Kept [] (((w.alloc (.cells #[.bool false, .slice a n c] 29)).alloc (.cells #[.bool true, .slice b m d] 29)).alloc (.cells #[.int .i64 0, .bool false, .slice none 0 0] 61)) W := by rw [hW]; exact Kept.refl _ _
  have c00 := (k0.peel.peel.top (g := w.heap.size) (by simp) (by simp) 0 (v := .bool false) rfl).1
  have c01 := (k0.peel.peel.top (g := w.heap.size) (by simp) (by simp) 1 (v := .slice a n c) rfl).1
  have c10 := (k0.peel.top (g := w.heap.size + 1) (by simp) (by simp) 0 (v := .bool true) rfl).1
  have c11 := (k0.peel.top (g := w.heap.size + 1) (by simp) (by simp) 1 (v := .slice b m d) rfl).1
  obtain ⟨rc0, rf0, hsz⟩ := k0.top (g := w.heap.size + 1 + 1) (by simp) (by simp) 0 (v := .int .i64 0) rfl
  obtain ⟨rc1, rf1, hsz⟩ := k0.top (g := w.heap.size + 1 + 1) (by simp) (by simp) 1 (v := .bool false) rfl
  obtain ⟨rc2, rf2, hsz⟩ := k0.top (g := w.heap.size + 1 + 1) (by simp) (by simp) 2 (v := .slice none 0 0) rfl
  have K0 := Lib.hid k0.peel.peel.peel
  clear k0 hW
  refine (CompareNats_any _ _ _ _ _ _ _ _ _ (HS.out.rd.kept0 K0.out) (HS'.out.rd.kept0 K0.out)).mono ?_
  rintro e w0 ⟨rfl, hk⟩
  rw [HC.out]
  have c00 := hk.cell (p := ⟨w.heap.size, 0, none⟩) c00 (by simp)
  have c01 := hk.cell (p := ⟨w.heap.size, 1, none⟩) c01 (by simp)
  have c10 := hk.cell (p := ⟨w.heap.size + 1, 0, none⟩) c10 (by simp)
  have c11 := hk.cell (p := ⟨w.heap.size + 1, 1, none⟩) c11 (by simp)
  have rf0 := hk.free' (p := ⟨w.heap.size + 1 + 1, 0, none⟩) rc0 rf0 (by simp)
  have rc0 := hk.cell (p := ⟨w.heap.size + 1 + 1, 0, none⟩) rc0 (by simp)
  have rf1 := hk.free' (p := ⟨w.heap.size + 1 + 1, 1, none⟩) rc1 rf1 (by simp)
  have rc1 := hk.cell (p := ⟨w.heap.size + 1 + 1, 1, none⟩) rc1 (by simp)
  have rf2 := hk.free' (p := ⟨w.heap.size + 1 + 1, 2, none⟩) rc2 rf2 (by simp)
  have rc2 := hk.cell (p := ⟨w.heap.size + 1 + 1, 2, none⟩) rc2 (by simp)
  have hsz : w.heap.size + 1 + 1 < w0.heap.size := Nat.lt_of_lt_of_le hsz hk.size
  have K0 := Lib.hid (K0.out.trans0 hk)
  clear hk
  go_wp2_with fail
  go_region_held3 (fun w' => w'.cell? ⟨w.heap.size, 0, none⟩ = some (.bool false) ∧ w'.cell? ⟨w.heap.size, 1, none⟩ = some (.slice a n c) ∧ w'.cell? ⟨w.heap.size + 1, 0, none⟩ = some (.bool true) ∧ w'.cell? ⟨w.heap.size + 1, 1, none⟩ = some (.slice b m d) ∧ Hid (Kept [w.heap.size + 1 + 1] w0 w'))
    ((go_split_ands; (try refine ⟨?_, ?_, ?_, ?_, ?_⟩) <;> with_reducible first | exact Lib.hid ((Kept.refl _ _).drew) | exact drew_cell (by assumption) | exact Kept.set3 (by assumption) | exact cell_set3 (by assumption) (by simp <;> omega) | exact Lib.hid (Kept.trans0 (Hid.out (by assumption)) (by assumption)) | exact Kept.cell (by assumption) (by assumption) (by simp)))
    (first
      | (go_at_call 126; go_split_ands; refine (SubNats_fit _ _ _ _ _ _ _ _ _ (HS'.out.kept0 K0.out.drew) (HS.out.rd.kept0 K0.out.drew) HZ.out HLE.out).mono ?_; rintro e w1 ⟨a1, x1, rfl, hs1, hf1, hk1⟩)
      | (go_at_call 112; go_split_ands; refine (bigResult_fit _ _ _ _ _ _ HV.out hs1 hf1 hk1).mono ?_; rintro e w2 ⟨⟨a2, x2, rfl, hs2, hf2, hk2⟩, hk3⟩; have g0 := hk2.cell (p := ⟨w.heap.size + 1 + 1, 0, none⟩) rc0 (by simp); have g1 := hk2.cell (p := ⟨w.heap.size + 1 + 1, 1, none⟩) rc1 (by simp); have g2 := hk2.cell (p := ⟨w.heap.size + 1 + 1, 2, none⟩) rc2 (by simp); have e0 := hk2.free' (p := ⟨w.heap.size + 1 + 1, 0, none⟩) rc0 rf0 (by simp); have e1 := hk2.free' (p := ⟨w.heap.size + 1 + 1, 1, none⟩) rc1 rf1 (by simp); have e2 := hk2.free' (p := ⟨w.heap.size + 1 + 1, 2, none⟩) rc2 rf2 (by simp)))
  have HK2 := Lib.hid (K0.out.drew.trans0 hk2)
  have HS2 := Lib.hid hs2
  have HF2 := Lib.hid hf2
  obtain ⟨r, hr⟩ : ∃ r, r = fitB (sg true (val ys - val xs)) := ⟨_, rfl⟩
  rw [← hr] at HS2 HF2 ⊢
  have HR := Lib.hid hr
  clear hr
  obtain ⟨ea, eb, ec⟩ := cells3' (.int .i64 r.code) (.bool r.neg) (.slice a2 r.limbs.length x2) g0 g1 g2
  clear hs2 hf2 hk2 hs1 hf1 hk1 hk3
  go_wp2_with fail
  exact bodyPost_ret (v := .agg #[.int .i64 r.code, .bool r.neg, .slice a2 r.limbs.length x2]) (by simp [results, Try.results100, go_sem, ea, eb, ec]) rfl (by rw [← HR.out]; exact bigR_fin (g := w.heap.size + 1 + 1) (by omega) HS2.out HF2.out (by simpa using hsz) HK2.out)

set_option maxHeartbeats 3200000 in
theorem sumOfBigs_ge_false (a b : Option Addr) (n c m d : Nat) (xs ys : List Int) (w : World) (hx : Nat40 xs) (hy : Nat40 ys) (h : Sl w a n c xs) (h' : Sl w b m d ys) (hle : val ys ≤ val xs) :
    Calls Try.prog 100 #[.agg #[.bool false, .slice a n c], .agg #[.bool true, .slice b m d]] w (BigR w (fitB (sv false xs + sv true ys))) := by
  have hv : 0 ≤ val xs - val ys := by omega
  have hz : fault2 xs ys = 0 := by rw [fault2_second (nat40_fault hx)]; exact nat40_fault hy
  have HZ := Lib.hid hz
  obtain ⟨cv, hcv⟩ : ∃ cv, cv = cmpV (val xs) (val ys) := ⟨_, rfl⟩
  have hcn : decide (cv < 0) = false := decide_eq_false (by rw [hcv]; unfold cmpV; rw [if_neg (by omega)]; split <;> omega)
  have hc0 : (if fault2 xs ys = 0 then cmpV (val xs) (val ys) else 0) = cv := by rw [if_pos hz, hcv]
  have HC := Lib.hid hc0
  have HLE := Lib.hid hle
  have HV := Lib.hid hv
  have HX := Lib.hid hx
  have HY := Lib.hid hy
  have HS := Lib.hid h
  have HS' := Lib.hid h'
  rw [show sv false xs + sv true ys = sg false (val xs - val ys) by simp [sv, sg]; omega]
  clear hx hy h h' hv hz hc0 hcv hle
  go_enter Try.func100, Try.ntmps100
  go_wp2_with fail
  generalize hW : (((w.alloc (.cells #[.bool false, .slice a n c] 29)).alloc (.cells #[.bool true, .slice b m d] 29)).alloc (.cells #[.int .i64 0, .bool false, .slice none 0 0] 61)) = W
  have k0 : Kept [] (((w.alloc (.cells #[.bool false, .slice a n c] 29)).alloc (.cells #[.bool true, .slice b m d] 29)).alloc (.cells #[.int .i64 0, .bool false, .slice none 0 0] 61)) W := by rw [hW]; exact Kept.refl _ _
  have c00 := (k0.peel.peel.top (g := w.heap.size) (by simp) (by simp) 0 (v := .bool false) rfl).1
  have c01 := (k0.peel.peel.top (g := w.heap.size) (by simp) (by simp) 1 (v := .slice a n c) rfl).1
  have c10 := (k0.peel.top (g := w.heap.size + 1) (by simp) (by simp) 0 (v := .bool true) rfl).1
  have c11 := (k0.peel.top (g := w.heap.size + 1) (by simp) (by simp) 1 (v := .slice b m d) rfl).1
  obtain ⟨rc0, rf0, hsz⟩ := k0.top (g := w.heap.size + 1 + 1) (by simp) (by simp) 0 (v := .int .i64 0) rfl
  obtain ⟨rc1, rf1, hsz⟩ := k0.top (g := w.heap.size + 1 + 1) (by simp) (by simp) 1 (v := .bool false) rfl
  obtain ⟨rc2, rf2, hsz⟩ := k0.top (g := w.heap.size + 1 + 1) (by simp) (by simp) 2 (v := .slice none 0 0) rfl
  have K0 := Lib.hid k0.peel.peel.peel
  clear k0 hW
  refine (CompareNats_any _ _ _ _ _ _ _ _ _ (HS.out.rd.kept0 K0.out) (HS'.out.rd.kept0 K0.out)).mono ?_
  rintro e w0 ⟨rfl, hk⟩
  rw [HC.out]
  have c00 := hk.cell (p := ⟨w.heap.size, 0, none⟩) c00 (by simp)
  have c01 := hk.cell (p := ⟨w.heap.size, 1, none⟩) c01 (by simp)
  have c10 := hk.cell (p := ⟨w.heap.size + 1, 0, none⟩) c10 (by simp)
  have c11 := hk.cell (p := ⟨w.heap.size + 1, 1, none⟩) c11 (by simp)
  have rf0 := hk.free' (p := ⟨w.heap.size + 1 + 1, 0, none⟩) rc0 rf0 (by simp)
  have rc0 := hk.cell (p := ⟨w.heap.size + 1 + 1, 0, none⟩) rc0 (by simp)
  have rf1 := hk.free' (p := ⟨w.heap.size + 1 + 1, 1, none⟩) rc1 rf1 (by simp)
  have rc1 := hk.cell (p := ⟨w.heap.size + 1 + 1, 1, none⟩) rc1 (by simp)
  have rf2 := hk.free' (p := ⟨w.heap.size + 1 + 1, 2, none⟩) rc2 rf2 (by simp)
  have rc2 := hk.cell (p := ⟨w.heap.size + 1 + 1, 2, none⟩) rc2 (by simp)
  have hsz : w.heap.size + 1 + 1 < w0.heap.size := Nat.lt_of_lt_of_le hsz hk.size
  have K0 := Lib.hid (K0.out.trans0 hk)
  clear hk
  go_wp2_with fail
  go_region_held3 (fun w' => w'.cell? ⟨w.heap.size, 0, none⟩ = some (.bool false) ∧ w'.cell? ⟨w.heap.size, 1, none⟩ = some (.slice a n c) ∧ w'.cell? ⟨w.heap.size + 1, 0, none⟩ = some (.bool true) ∧ w'.cell? ⟨w.heap.size + 1, 1, none⟩ = some (.slice b m d) ∧ Hid (Kept [w.heap.size + 1 + 1] w0 w'))
    ((go_split_ands; (try refine ⟨?_, ?_, ?_, ?_, ?_⟩) <;> with_reducible first | exact Lib.hid ((Kept.refl _ _).drew) | exact drew_cell (by assumption) | exact Kept.set3 (by assumption) | exact cell_set3 (by assumption) (by simp <;> omega) | exact Lib.hid (Kept.trans0 (Hid.out (by assumption)) (by assumption)) | exact Kept.cell (by assumption) (by assumption) (by simp)))
    (first
      | (go_at_call 126; go_split_ands; refine (SubNats_fit _ _ _ _ _ _ _ _ _ (HS.out.kept0 K0.out.drew) (HS'.out.rd.kept0 K0.out.drew) HZ.out HLE.out).mono ?_; rintro e w1 ⟨a1, x1, rfl, hs1, hf1, hk1⟩)
      | (go_at_call 112; go_split_ands; refine (bigResult_fit _ _ _ _ _ _ HV.out hs1 hf1 hk1).mono ?_; rintro e w2 ⟨⟨a2, x2, rfl, hs2, hf2, hk2⟩, hk3⟩; have g0 := hk2.cell (p := ⟨w.heap.size + 1 + 1, 0, none⟩) rc0 (by simp); have g1 := hk2.cell (p := ⟨w.heap.size + 1 + 1, 1, none⟩) rc1 (by simp); have g2 := hk2.cell (p := ⟨w.heap.size + 1 + 1, 2, none⟩) rc2 (by simp); have e0 := hk2.free' (p := ⟨w.heap.size + 1 + 1, 0, none⟩) rc0 rf0 (by simp); have e1 := hk2.free' (p := ⟨w.heap.size + 1 + 1, 1, none⟩) rc1 rf1 (by simp); have e2 := hk2.free' (p := ⟨w.heap.size + 1 + 1, 2, none⟩) rc2 rf2 (by simp)))
  have HK2 := Lib.hid (K0.out.drew.trans0 hk2)
  have HS2 := Lib.hid hs2
  have HF2 := Lib.hid hf2
  obtain ⟨r, hr⟩ : ∃ r, r = fitB (sg false (val xs - val ys)) := ⟨_, rfl⟩
  rw [← hr] at HS2 HF2 ⊢
  have HR := Lib.hid hr
  clear hr
  obtain ⟨ea, eb, ec⟩ := cells3' (.int .i64 r.code) (.bool r.neg) (.slice a2 r.limbs.length x2) g0 g1 g2
  clear hs2 hf2 hk2 hs1 hf1 hk1 hk3
  go_wp2_with fail
  exact bodyPost_ret (v := .agg #[.int .i64 r.code, .bool r.neg, .slice a2 r.limbs.length x2]) (by simp [results, Try.results100, go_sem, ea, eb, ec]) rfl (by rw [← HR.out]; exact bigR_fin (g := w.heap.size + 1 + 1) (by omega) HS2.out HF2.out (by simpa using hsz) HK2.out)

/-- The sum of two bigs that have no fault, but that a 0 may be Neg. -/
theorem sumOfBigs_any (p q : Bool) (a b : Option Addr) (n c m d : Nat) (xs ys : List Int) (w : World) (hx : Nat40 xs) (hy : Nat40 ys) (h : Sl w a n c xs) (h' : Sl w b m d ys) :
    Calls Try.prog 100 #[.agg #[.bool p, .slice a n c], .agg #[.bool q, .slice b m d]] w (BigR w (fitB (sv p xs + sv q ys))) := by
  by_cases hlt : val xs < val ys
  · cases p <;> cases q
    · exact sumOfBigs_same _ _ _ _ _ _ _ _ _ _ hx hy h h'
    · exact sumOfBigs_lt_false _ _ _ _ _ _ _ _ _ hx hy h h' hlt
    · exact sumOfBigs_lt_true _ _ _ _ _ _ _ _ _ hx hy h h' hlt
    · exact sumOfBigs_same _ _ _ _ _ _ _ _ _ _ hx hy h h'
  · cases p <;> cases q
    · exact sumOfBigs_same _ _ _ _ _ _ _ _ _ _ hx hy h h'
    · exact sumOfBigs_ge_false _ _ _ _ _ _ _ _ _ hx hy h h' (by omega)
    · exact sumOfBigs_ge_true _ _ _ _ _ _ _ _ _ hx hy h h' (by omega)
    · exact sumOfBigs_same _ _ _ _ _ _ _ _ _ _ hx hy h h'

end Go.Proofs.Ytjndjjdffifgcaa
