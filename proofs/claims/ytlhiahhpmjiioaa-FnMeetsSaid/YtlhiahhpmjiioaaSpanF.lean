/-
  Contracts of spanResult. Conditions: the limbs read as lists of numbers.
-/
import Derived.Deep.RegionHeld3
import Derived.Deep.DrawnRows
import Derived.Deep.DeepCutAuto
import Derived.Test.YtlhiahhpmjiioaaJ3
namespace Go.Proofs.Ytlhiahhpmjiioaa
open Go.RowKit

set_option maxHeartbeats 8000000 in
set_option maxRecDepth 20000 in
theorem spanResult_any (a b : Option Addr) (n c m d : Nat) (lo hi : Int) (w : World) (h : Sl w a n c (mag lo)) (h' : Sl w b m d (mag hi)) :
    Calls Try.prog 28 #[.agg #[.bool (isNeg lo), .slice a n c], .agg #[.bool (isNeg hi), .slice b m d]] w (SpanR w (fitS lo hi)) := by
  have hL : (mag lo).length = n := h.1
  have hM : (mag hi).length = m := h'.1
  have HS := Lib.hid h
  have HS' := Lib.hid h'
  have FS := Lib.hid h.lt
  have FS' := Lib.hid h'.lt
  clear h h'
  obtain ⟨p, hp⟩ : ∃ p, p = isNeg lo := ⟨_, rfl⟩
  obtain ⟨q, hq⟩ : ∃ q, q = isNeg hi := ⟨_, rfl⟩
  rw [← hp, ← hq]
  have HP := Lib.hid hp
  have HQ := Lib.hid hq
  clear hp hq
  by_cases h20 : 20 < n
  · skip
    rw [fitS_many (Or.inl (by omega))]
    clear hL hM
    go_enter Try.func28, Try.ntmps28
    go_wp2_with fail
    generalize hW : (((w.alloc (.cells #[.bool p, .slice a n c] 26)).alloc (.cells #[.bool q, .slice b m d] 26)).alloc (.cells #[.int .i64 0, .bool false, .slice none 0 0, .bool false, .slice none 0 0] 32)) = ww0
    have hkk : Kept [] (((w.alloc (.cells #[.bool p, .slice a n c] 26)).alloc (.cells #[.bool q, .slice b m d] 26)).alloc (.cells #[.int .i64 0, .bool false, .slice none 0 0, .bool false, .slice none 0 0] 32)) ww0 := by rw [hW]; exact Kept.refl _ _
    have zzA : w.heap.size + 1 + 1 + 1 = ww0.heap.size := by rw [← hW]; simp
    obtain ⟨⟨nA0, nA1⟩, _⟩ := tp2 hkk.peel.peel (g := w.heap.size) (by simp) (by simp)
    obtain ⟨⟨nB0, nB1⟩, _⟩ := tp2 hkk.peel (g := w.heap.size + 1) (by simp) (by simp)
    obtain ⟨⟨nR0, nR1, nR2, nR3, nR4⟩, fR0, fR1, fR2, fR3, fR4⟩ := tp5 hkk (g := w.heap.size + 1 + 1) (by simp) (by simp)
    have hk := hkk.peel.peel.peel
    clear hkk hW
    have z0 := hk.size
    have KT := Lib.hid hk
    clear hk
    replace HS := Lib.hid (HS.out.kept0 KT.out)
    replace HS' := Lib.hid (HS'.out.kept0 KT.out)
    refine (isTooLong_yes _ _ _ _ _ h20).mono ?_
    rintro e ww1 ⟨rfl, hk⟩
    have z1 := hk.size
    replace fR0 := kf hk nR0 fR0
    replace fR1 := kf hk nR1 fR1
    replace fR2 := kf hk nR2 fR2
    replace fR3 := kf hk nR3 fR3
    replace fR4 := kf hk nR4 fR4
    replace nA0 := kc hk nA0
    replace nA1 := kc hk nA1
    replace nB0 := kc hk nB0
    replace nB1 := kc hk nB1
    replace nR0 := kc hk nR0
    replace nR1 := kc hk nR1
    replace nR2 := kc hk nR2
    replace nR3 := kc hk nR3
    replace nR4 := kc hk nR4
    replace HS := Lib.hid (HS.out.kept0 hk)
    replace HS' := Lib.hid (HS'.out.kept0 hk)
    replace KT := Lib.hid (KT.out.trans0 hk)
    clear hk
    have tR0 := nR0.out
    have tR1 := nR1.out
    have tR2 := nR2.out
    have tR3 := nR3.out
    have tR4 := nR4.out
    have uR0 := fR0.out
    have uR1 := fR1.out
    have uR2 := fR2.out
    have uR3 := fR3.out
    have uR4 := fR4.out
    go_wp2_with fail
    clear tR0 tR1 tR2 tR3 tR4 uR0 uR1 uR2 uR3 uR4
    generalize hW : (((((ww1.setCell ⟨w.heap.size + 1 + 1, 0, none⟩ (.int .i64 7)).setCell ⟨w.heap.size + 1 + 1, 1, none⟩ (.bool false)).setCell ⟨w.heap.size + 1 + 1, 2, none⟩ (.slice none 0 0)).setCell ⟨w.heap.size + 1 + 1, 3, none⟩ (.bool false)).setCell ⟨w.heap.size + 1 + 1, 4, none⟩ (.slice none 0 0)) = ww2
    have hk : Kept [w.heap.size + 1 + 1] ww1 ww2 := by rw [← hW]; exact (((((Kept.refl _ _).setCell _ _ (by simp)).setCell _ _ (by simp)).setCell _ _ (by simp)).setCell _ _ (by simp)).setCell _ _ (by simp)
    have hfz : ∀ x, ww2.frozen? x = ww1.frozen? x := by rw [← hW]; intro x; simp only [World.frozen?_setCell]
    obtain ⟨e0, e1, e2, e3, e4⟩ := st5 hW.symm nR0.out nR1.out nR2.out nR3.out nR4.out
    have z2 := hk.size
    replace fR0 := kz hfz fR0
    replace fR1 := kz hfz fR1
    replace fR2 := kz hfz fR2
    replace fR3 := kz hfz fR3
    replace fR4 := kz hfz fR4
    replace nA0 := kd hk nA0 (by simp <;> omega)
    replace nA1 := kd hk nA1 (by simp <;> omega)
    replace nB0 := kd hk nB0 (by simp <;> omega)
    replace nB1 := kd hk nB1 (by simp <;> omega)
    replace HS := Lib.hid (HS.out.kept hk (fun hn y hy hm => by have h9 := FS.out hn y hy; simp at hm; omega))
    replace HS' := Lib.hid (HS'.out.kept hk (fun hn y hy hm => by have h9 := FS'.out hn y hy; simp at hm; omega))
    replace nR0 := Lib.hid e0
    replace nR1 := Lib.hid e1
    replace nR2 := Lib.hid e2
    replace nR3 := Lib.hid e3
    replace nR4 := Lib.hid e4
    replace KT := Lib.hid (KT.out.trans hk (fun x hx hlt => by simp at hx; omega))
    clear hk hfz hW e0 e1 e2 e3 e4
    have e0 := nR0.out
    have e1 := nR1.out
    have e2 := nR2.out
    have e3 := nR3.out
    have e4 := nR4.out
    refine bodyPost_ret (v := .agg #[.int .i64 7, .bool false, .slice none 0 0, .bool false, .slice none 0 0]) (by simp [results, Try.results28, go_sem, e0, e1, e2, e3, e4]) rfl ?_
    exact spanR_no KT.out
  have g20 := h20
  clear h20
  by_cases h20 : 20 < m
  · skip
    rw [fitS_many (Or.inr (by omega))]
    clear hL hM
    go_enter Try.func28, Try.ntmps28
    go_wp2_with fail
    generalize hW : (((w.alloc (.cells #[.bool p, .slice a n c] 26)).alloc (.cells #[.bool q, .slice b m d] 26)).alloc (.cells #[.int .i64 0, .bool false, .slice none 0 0, .bool false, .slice none 0 0] 32)) = ww0
    have hkk : Kept [] (((w.alloc (.cells #[.bool p, .slice a n c] 26)).alloc (.cells #[.bool q, .slice b m d] 26)).alloc (.cells #[.int .i64 0, .bool false, .slice none 0 0, .bool false, .slice none 0 0] 32)) ww0 := by rw [hW]; exact Kept.refl _ _
    have zzA : w.heap.size + 1 + 1 + 1 = ww0.heap.size := by rw [← hW]; simp
    obtain ⟨⟨nA0, nA1⟩, _⟩ := tp2 hkk.peel.peel (g := w.heap.size) (by simp) (by simp)
    obtain ⟨⟨nB0, nB1⟩, _⟩ := tp2 hkk.peel (g := w.heap.size + 1) (by simp) (by simp)
    obtain ⟨⟨nR0, nR1, nR2, nR3, nR4⟩, fR0, fR1, fR2, fR3, fR4⟩ := tp5 hkk (g := w.heap.size + 1 + 1) (by simp) (by simp)
    have hk := hkk.peel.peel.peel
    clear hkk hW
    have z0 := hk.size
    have KT := Lib.hid hk
    clear hk
    replace HS := Lib.hid (HS.out.kept0 KT.out)
    replace HS' := Lib.hid (HS'.out.kept0 KT.out)
    refine (isTooLong_no _ _ _ _ _ g20).mono ?_
    rintro e ww1 ⟨rfl, hk⟩
    have z1 := hk.size
    replace fR0 := kf hk nR0 fR0
    replace fR1 := kf hk nR1 fR1
    replace fR2 := kf hk nR2 fR2
    replace fR3 := kf hk nR3 fR3
    replace fR4 := kf hk nR4 fR4
    replace nA0 := kc hk nA0
    replace nA1 := kc hk nA1
    replace nB0 := kc hk nB0
    replace nB1 := kc hk nB1
    replace nR0 := kc hk nR0
    replace nR1 := kc hk nR1
    replace nR2 := kc hk nR2
    replace nR3 := kc hk nR3
    replace nR4 := kc hk nR4
    replace HS := Lib.hid (HS.out.kept0 hk)
    replace HS' := Lib.hid (HS'.out.kept0 hk)
    replace KT := Lib.hid (KT.out.trans0 hk)
    clear hk
    have tB0 := nB0.out
    have tB1 := nB1.out
    go_wp2_with fail
    clear tB0 tB1
    refine (isTooLong_yes _ _ _ _ _ h20).mono ?_
    rintro e ww2 ⟨rfl, hk⟩
    have z2 := hk.size
    replace fR0 := kf hk nR0 fR0
    replace fR1 := kf hk nR1 fR1
    replace fR2 := kf hk nR2 fR2
    replace fR3 := kf hk nR3 fR3
    replace fR4 := kf hk nR4 fR4
    replace nA0 := kc hk nA0
    replace nA1 := kc hk nA1
    replace nB0 := kc hk nB0
    replace nB1 := kc hk nB1
    replace nR0 := kc hk nR0
    replace nR1 := kc hk nR1
    replace nR2 := kc hk nR2
    replace nR3 := kc hk nR3
    replace nR4 := kc hk nR4
    replace HS := Lib.hid (HS.out.kept0 hk)
    replace HS' := Lib.hid (HS'.out.kept0 hk)
    replace KT := Lib.hid (KT.out.trans0 hk)
    clear hk
    have tR0 := nR0.out
    have tR1 := nR1.out
    have tR2 := nR2.out
    have tR3 := nR3.out
    have tR4 := nR4.out
    have uR0 := fR0.out
    have uR1 := fR1.out
    have uR2 := fR2.out
    have uR3 := fR3.out
    have uR4 := fR4.out
    go_wp2_with fail
    clear tR0 tR1 tR2 tR3 tR4 uR0 uR1 uR2 uR3 uR4
    generalize hW : (((((ww2.setCell ⟨w.heap.size + 1 + 1, 0, none⟩ (.int .i64 7)).setCell ⟨w.heap.size + 1 + 1, 1, none⟩ (.bool false)).setCell ⟨w.heap.size + 1 + 1, 2, none⟩ (.slice none 0 0)).setCell ⟨w.heap.size + 1 + 1, 3, none⟩ (.bool false)).setCell ⟨w.heap.size + 1 + 1, 4, none⟩ (.slice none 0 0)) = ww3
    have hk : Kept [w.heap.size + 1 + 1] ww2 ww3 := by rw [← hW]; exact (((((Kept.refl _ _).setCell _ _ (by simp)).setCell _ _ (by simp)).setCell _ _ (by simp)).setCell _ _ (by simp)).setCell _ _ (by simp)
    have hfz : ∀ x, ww3.frozen? x = ww2.frozen? x := by rw [← hW]; intro x; simp only [World.frozen?_setCell]
    obtain ⟨e0, e1, e2, e3, e4⟩ := st5 hW.symm nR0.out nR1.out nR2.out nR3.out nR4.out
    have z3 := hk.size
    replace fR0 := kz hfz fR0
    replace fR1 := kz hfz fR1
    replace fR2 := kz hfz fR2
    replace fR3 := kz hfz fR3
    replace fR4 := kz hfz fR4
    replace nA0 := kd hk nA0 (by simp <;> omega)
    replace nA1 := kd hk nA1 (by simp <;> omega)
    replace nB0 := kd hk nB0 (by simp <;> omega)
    replace nB1 := kd hk nB1 (by simp <;> omega)
    replace HS := Lib.hid (HS.out.kept hk (fun hn y hy hm => by have h9 := FS.out hn y hy; simp at hm; omega))
    replace HS' := Lib.hid (HS'.out.kept hk (fun hn y hy hm => by have h9 := FS'.out hn y hy; simp at hm; omega))
    replace nR0 := Lib.hid e0
    replace nR1 := Lib.hid e1
    replace nR2 := Lib.hid e2
    replace nR3 := Lib.hid e3
    replace nR4 := Lib.hid e4
    replace KT := Lib.hid (KT.out.trans hk (fun x hx hlt => by simp at hx; omega))
    clear hk hfz hW e0 e1 e2 e3 e4
    have e0 := nR0.out
    have e1 := nR1.out
    have e2 := nR2.out
    have e3 := nR3.out
    have e4 := nR4.out
    refine bodyPost_ret (v := .agg #[.int .i64 7, .bool false, .slice none 0 0, .bool false, .slice none 0 0]) (by simp [results, Try.results28, go_sem, e0, e1, e2, e3, e4]) rfl ?_
    exact spanR_no KT.out
  rw [fitS_ok (by omega) (by omega)]
  have HL := Lib.hid hL
  have HM := Lib.hid hM
  clear hL hM
  go_enter Try.func28, Try.ntmps28
  go_wp2_with fail
  generalize hW : (((w.alloc (.cells #[.bool p, .slice a n c] 26)).alloc (.cells #[.bool q, .slice b m d] 26)).alloc (.cells #[.int .i64 0, .bool false, .slice none 0 0, .bool false, .slice none 0 0] 32)) = ww0
  have hkk : Kept [] (((w.alloc (.cells #[.bool p, .slice a n c] 26)).alloc (.cells #[.bool q, .slice b m d] 26)).alloc (.cells #[.int .i64 0, .bool false, .slice none 0 0, .bool false, .slice none 0 0] 32)) ww0 := by rw [hW]; exact Kept.refl _ _
  have zzA : w.heap.size + 1 + 1 + 1 = ww0.heap.size := by rw [← hW]; simp
  obtain ⟨⟨nA0, nA1⟩, _⟩ := tp2 hkk.peel.peel (g := w.heap.size) (by simp) (by simp)
  obtain ⟨⟨nB0, nB1⟩, _⟩ := tp2 hkk.peel (g := w.heap.size + 1) (by simp) (by simp)
  obtain ⟨⟨nR0, nR1, nR2, nR3, nR4⟩, fR0, fR1, fR2, fR3, fR4⟩ := tp5 hkk (g := w.heap.size + 1 + 1) (by simp) (by simp)
  have hk := hkk.peel.peel.peel
  clear hkk hW
  have z0 := hk.size
  have KT := Lib.hid hk
  clear hk
  replace HS := Lib.hid (HS.out.kept0 KT.out)
  replace HS' := Lib.hid (HS'.out.kept0 KT.out)
  refine (isTooLong_no _ _ _ _ _ g20).mono ?_
  rintro e ww1 ⟨rfl, hk⟩
  have z1 := hk.size
  replace fR0 := kf hk nR0 fR0
  replace fR1 := kf hk nR1 fR1
  replace fR2 := kf hk nR2 fR2
  replace fR3 := kf hk nR3 fR3
  replace fR4 := kf hk nR4 fR4
  replace nA0 := kc hk nA0
  replace nA1 := kc hk nA1
  replace nB0 := kc hk nB0
  replace nB1 := kc hk nB1
  replace nR0 := kc hk nR0
  replace nR1 := kc hk nR1
  replace nR2 := kc hk nR2
  replace nR3 := kc hk nR3
  replace nR4 := kc hk nR4
  replace HS := Lib.hid (HS.out.kept0 hk)
  replace HS' := Lib.hid (HS'.out.kept0 hk)
  replace KT := Lib.hid (KT.out.trans0 hk)
  clear hk
  have tB0 := nB0.out
  have tB1 := nB1.out
  go_wp2_with fail
  clear tB0 tB1
  refine (isTooLong_no _ _ _ _ _ h20).mono ?_
  rintro e ww2 ⟨rfl, hk⟩
  have z2 := hk.size
  replace fR0 := kf hk nR0 fR0
  replace fR1 := kf hk nR1 fR1
  replace fR2 := kf hk nR2 fR2
  replace fR3 := kf hk nR3 fR3
  replace fR4 := kf hk nR4 fR4
  replace nA0 := kc hk nA0
  replace nA1 := kc hk nA1
  replace nB0 := kc hk nB0
  replace nB1 := kc hk nB1
  replace nR0 := kc hk nR0
  replace nR1 := kc hk nR1
  replace nR2 := kc hk nR2
  replace nR3 := kc hk nR3
  replace nR4 := kc hk nR4
  replace HS := Lib.hid (HS.out.kept0 hk)
  replace HS' := Lib.hid (HS'.out.kept0 hk)
  replace KT := Lib.hid (KT.out.trans0 hk)
  clear hk
  have tA0 := nA0.out
  have tA1 := nA1.out
  have tB0 := nB0.out
  have tB1 := nB1.out
  go_wp2_with fail
  clear tA0 tA1 tB0 tB1
  have tA0 := nA0.out
  have tA1 := nA1.out
  have tB0 := nB0.out
  have tB1 := nB1.out
  go_region_held3 (fun w' => w'.cell? ⟨w.heap.size, 0, none⟩ = some (.bool p) ∧ w'.cell? ⟨w.heap.size, 1, none⟩ = some (.slice a n c) ∧ w'.cell? ⟨w.heap.size + 1, 0, none⟩ = some (.bool q) ∧ w'.cell? ⟨w.heap.size + 1, 1, none⟩ = some (.slice b m d) ∧ Hid (Kept [w.heap.size + 1 + 1] ww2 w'))
    ((go_split_ands; (try refine ⟨?_, ?_, ?_, ?_, ?_⟩) <;> with_reducible first | exact Kept.set5 (by assumption) | exact cell_set5 (by assumption) (by simp <;> omega) | exact Lib.hid ((Kept.refl _ _).drew) | exact drew_cell (by assumption) | exact Kept.allocH (by assumption) | exact alloc_cell (by assumption) | exact Lib.hid (Kept.trans0 (Hid.out (by assumption)) (by assumption)) | exact Kept.cell (by assumption) (by assumption) (by simp)))
    (first
      | (go_at_call_of 49 (Value.agg #[Value.bool p, Value.slice a n c]); go_split_ands; refine (copyOfEnd_any _ _ _ _ _ _ (HS.out.kept0 (Kept.refl [] _).drew) (by omega)).mono ?_; rintro e v1 ⟨g1, rfl, hs1, hg1, hl1, hk1⟩)
      | (go_at_call_of 49 (Value.agg #[Value.bool q, Value.slice b m d]); go_split_ands; refine (copyOfEnd_any _ _ _ _ _ _ (HS'.out.kept0 ((Kept.refl [] _).drew.trans0 hk1)) (by omega)).mono ?_; rintro e v2 ⟨g2, rfl, hs2, hg2, hl2, hk2⟩; have hkr := ((Kept.refl [] ww2).drew.trans0 hk1).trans0 hk2; have rg0 := hkr.cell (p := ⟨w.heap.size + 1 + 1, 0, none⟩) nR0.out (by simp); have rg1 := hkr.cell (p := ⟨w.heap.size + 1 + 1, 1, none⟩) nR1.out (by simp); have rg2 := hkr.cell (p := ⟨w.heap.size + 1 + 1, 2, none⟩) nR2.out (by simp); have rg3 := hkr.cell (p := ⟨w.heap.size + 1 + 1, 3, none⟩) nR3.out (by simp); have rg4 := hkr.cell (p := ⟨w.heap.size + 1 + 1, 4, none⟩) nR4.out (by simp); have ru0 := hkr.free' (p := ⟨w.heap.size + 1 + 1, 0, none⟩) nR0.out fR0.out (by simp); have ru1 := hkr.free' (p := ⟨w.heap.size + 1 + 1, 1, none⟩) nR1.out fR1.out (by simp); have ru2 := hkr.free' (p := ⟨w.heap.size + 1 + 1, 2, none⟩) nR2.out fR2.out (by simp); have ru3 := hkr.free' (p := ⟨w.heap.size + 1 + 1, 3, none⟩) nR3.out fR3.out (by simp); have ru4 := hkr.free' (p := ⟨w.heap.size + 1 + 1, 4, none⟩) nR4.out fR4.out (by simp)))
  clear tA0 tA1 tB0 tB1
  have hs1 := hs1.kept0 hk2
  clear hkr 
  have hk := ((Kept.refl [] ww2).drew.trans0 hk1).trans0 hk2
  have hz1 := hk1.size
  simp only [World.size_drew] at hg1 hz1
  clear hk1 hk2
  have z3 := hk.size
  replace fR0 := kf hk nR0 fR0
  replace fR1 := kf hk nR1 fR1
  replace fR2 := kf hk nR2 fR2
  replace fR3 := kf hk nR3 fR3
  replace fR4 := kf hk nR4 fR4
  replace nA0 := kc hk nA0
  replace nA1 := kc hk nA1
  replace nB0 := kc hk nB0
  replace nB1 := kc hk nB1
  replace nR0 := kc hk nR0
  replace nR1 := kc hk nR1
  replace nR2 := kc hk nR2
  replace nR3 := kc hk nR3
  replace nR4 := kc hk nR4
  replace HS := Lib.hid (HS.out.kept0 hk)
  replace HS' := Lib.hid (HS'.out.kept0 hk)
  replace KT := Lib.hid (KT.out.trans0 hk)
  clear hk
  have hs1 := Lib.hid hs1
  have hs2 := Lib.hid hs2
  generalize hW : (((((v2.setCell ⟨w.heap.size + 1 + 1, 0, none⟩ (.int .i64 0)).setCell ⟨w.heap.size + 1 + 1, 1, none⟩ (.bool p)).setCell ⟨w.heap.size + 1 + 1, 2, none⟩ (.slice (some ⟨g1, 0, none⟩) n 20)).setCell ⟨w.heap.size + 1 + 1, 3, none⟩ (.bool q)).setCell ⟨w.heap.size + 1 + 1, 4, none⟩ (.slice (some ⟨g2, 0, none⟩) m 20)) = ww4
  have hk : Kept [w.heap.size + 1 + 1] v2 ww4 := by rw [← hW]; exact (((((Kept.refl _ _).setCell _ _ (by simp)).setCell _ _ (by simp)).setCell _ _ (by simp)).setCell _ _ (by simp)).setCell _ _ (by simp)
  have hfz : ∀ x, ww4.frozen? x = v2.frozen? x := by rw [← hW]; intro x; simp only [World.frozen?_setCell]
  obtain ⟨e0, e1, e2, e3, e4⟩ := st5 hW.symm nR0.out nR1.out nR2.out nR3.out nR4.out
  have z4 := hk.size
  replace fR0 := kz hfz fR0
  replace fR1 := kz hfz fR1
  replace fR2 := kz hfz fR2
  replace fR3 := kz hfz fR3
  replace fR4 := kz hfz fR4
  replace nA0 := kd hk nA0 (by simp <;> omega)
  replace nA1 := kd hk nA1 (by simp <;> omega)
  replace nB0 := kd hk nB0 (by simp <;> omega)
  replace nB1 := kd hk nB1 (by simp <;> omega)
  replace HS := Lib.hid (HS.out.kept hk (fun hn y hy hm => by have h9 := FS.out hn y hy; simp at hm; omega))
  replace HS' := Lib.hid (HS'.out.kept hk (fun hn y hy hm => by have h9 := FS'.out hn y hy; simp at hm; omega))
  replace hs1 := Lib.hid (hs1.out.kept hk (fun hn y hy hm => by cases hy; simp at hm; omega))
  replace hs2 := Lib.hid (hs2.out.kept hk (fun hn y hy hm => by cases hy; simp at hm; omega))
  replace nR0 := Lib.hid e0
  replace nR1 := Lib.hid e1
  replace nR2 := Lib.hid e2
  replace nR3 := Lib.hid e3
  replace nR4 := Lib.hid e4
  replace KT := Lib.hid (KT.out.trans hk (fun x hx hlt => by simp at hx; omega))
  clear hk hfz hW e0 e1 e2 e3 e4
  go_wp2_with fail
  have e0 := nR0.out
  have e1 := nR1.out
  have e2 := nR2.out
  have e3 := nR3.out
  have e4 := nR4.out
  refine bodyPost_ret (v := .agg #[.int .i64 0, .bool p, .slice (some ⟨g1, 0, none⟩) n 20, .bool q, .slice (some ⟨g2, 0, none⟩) m 20]) (by simp [results, Try.results28, go_sem, e0, e1, e2, e3, e4]) rfl ?_
  exact spanR_fin HP.out HQ.out HL.out HM.out hs1.out hs2.out (fun _ x hx => by cases hx; dsimp only; omega) (fun _ x hx => by cases hx; dsimp only; omega) (fun x y _ _ hx hy => by cases hx; cases hy; dsimp only; omega) KT.out

end Go.Proofs.Ytlhiahhpmjiioaa
