/-
 Contracts of the model's l3Down and l3Up. Conditions: the precision is one; the number has 40 limbs at most.
-/
import Derived.Deep.RegionHeld3
import Derived.Deep.DrawnRows
import Derived.Deep.DeepCutAuto
import Derived.Test.YtfafjijoeanbhaaSpanV
import Derived.Test.YtfafjijoeanbhaaSpanR
import Derived.Test.YtfafjijoeanbhaaJ1
namespace Go.Proofs.Ytfafjijoeanbhaa
open Go.RowKit

set_option maxHeartbeats 4000000 in
set_option maxRecDepth 20000 in
theorem l3Down_any (P : Int) (a : Option Addr) (n c : Nat) (z t : Int) (w : World) (hP : isP P = true) (h : Sl w a n c (mag z)) (hl : (mag z).length ≤ 40) (ht : t = outZ false z P.toNat) :
  Calls Try.prog 38 #[.int .i64 P, .agg #[.bool (isNeg z), .slice a n c]] w (BigV w.heap.size w t) := by
 obtain ⟨X, hX⟩ : ∃ X, X = val (mag z) := ⟨_, rfl⟩
 have hv9 : val (digits (p2 P.toNat)) = p2 P.toNat := val_digits' (by have := p2_pos P.toNat; omega)
 have hx0 : 0 ≤ X := by rw [hX]; exact val_mag_nonneg z
 have hd0 : 0 ≤ X / p2 P.toNat := Int.ediv_nonneg hx0 (by have := p2_pos P.toNat; omega)
 have hd1 : X / p2 P.toNat ≤ X := Int.ediv_le_self _ hx0
 have hXl : (digits X).length ≤ 40 := by rw [hX, digits_val (mag_canon z)]; exact hl
 have HS := Lib.hid h
 have FS := Lib.hid h.lt
 have HP := Lib.hid hP
 have HN := Lib.hid (bigOk_of hl).n40
 have HX := Lib.hid hX.symm
 clear h hP hl hx0
 by_cases hneg : isNeg z = true
 ·by_cases hr : X % p2 P.toNat ≠ 0
  ·skip
   rw [hneg]
   obtain ⟨q9, hq9⟩ : ∃ q9, q9 = X / p2 P.toNat + 1 := ⟨_, rfl⟩
   have HT := Lib.hid (show t = sg true q9 by rw [ht, hq9]; unfold outZ divZ; rw [hneg, hv9, ← hX, if_pos ⟨hr, by simp⟩]; rfl)
   have HQ := Lib.hid (show 0 ≤ q9 by rw [hq9]; omega)
   have HL := Lib.hid (show decide (X % p2 P.toNat ≠ 0) = true from decide_eq_true hr)
   have hq8 : q9 = val (digits (X / p2 P.toNat)) + val [1] := by rw [val_digits' hd0, hq9]; rfl
   have HQ8 := Lib.hid hq8
   have HAL := Lib.hid (canon_digits' (X / p2 P.toNat))
   have hdl : (digits (X / p2 P.toNat)).length ≤ 40 := Nat.le_trans (digits_len_mono hd1) hXl
   clear hq8
   clear hneg hq9 ht hv9 hd0 hd1 hX hr hXl
   go_enter Try.func38, Try.ntmps38
   go_wp2_with fail
   generalize hW : ((w.alloc (.cells #[.bool true, .slice a n c] 41)).alloc (.cells #[.bool false, .slice none 0 0] 41)) = ww0
   have hkk : Kept [] ((w.alloc (.cells #[.bool true, .slice a n c] 41)).alloc (.cells #[.bool false, .slice none 0 0] 41)) ww0 := by rw [hW]; exact Kept.refl _ _
   have zzA : w.heap.size + 1 + 1 = ww0.heap.size := by rw [← hW]; simp
   obtain ⟨⟨nA0, nA1⟩, _⟩ := tp2 hkk.peel (g := w.heap.size) (by simp) (by simp)
   obtain ⟨⟨nR0, nR1⟩, fR0, fR1⟩ := tp2 hkk (g := w.heap.size + 1) (by simp) (by simp)
   have hk := hkk.peel.peel
   clear hkk hW
   have z0 := hk.size
   have KT := Lib.hid hk
   clear hk
   replace HS := Lib.hid (HS.out.kept0 KT.out)
   refine (l3Drop_any P _ _ _ _ _ HP.out HS.out HN.out).mono ?_
   rintro e ww1 ⟨v9, rfl, ho, hk⟩
   rw [HX.out] at ho ⊢
   rw [HL.out]
   obtain ⟨a9, c9, rfl, hs9, hf9⟩ := ho.sl
   have S9 := Lib.hid hs9
   have G9 := Lib.hid (hf9.mono (B' := w.heap.size + 1 + 1) (by omega))
   clear ho hs9 hf9
   have z1 := hk.size
   replace fR0 := kf hk nR0 fR0
   replace fR1 := kf hk nR1 fR1
   replace nA0 := kc hk nA0
   replace nA1 := kc hk nA1
   replace nR0 := kc hk nR0
   replace nR1 := kc hk nR1
   replace HS := Lib.hid (HS.out.kept0 hk)
   replace KT := Lib.hid (KT.out.trans0 hk)
   clear hk
   have tA0 := nA0.out
   have tA1 := nA1.out
   go_wp2_with fail
   clear tA0 tA1
   refine (l1Add_any _ _ _ _ _ _ _ _ _ (S9.out.rd.kept0 ((Kept.refl [] _).alloc _)) (rd_row1 _ (by simp)) HAL.out (canon_of_get [1] (fun i hi => by have e9 : i = 0 := (by simpa using hi); subst e9; simp) (by simp)) (by omega) (by simp)).mono ?_
   rintro e ww2 ⟨v8, rfl, ho8, hk8⟩
   rw [← HQ8.out] at ho8
   have hk := Kept.trans0 ((Kept.refl [] _).alloc _) hk8
   obtain ⟨a8, c8, rfl, hs8, hf8⟩ := ho8.sl
   have S8 := Lib.hid hs8
   have G8 := Lib.hid (hf8.mono (B' := w.heap.size + 1 + 1) (by simp; omega))
   clear ho8 hs8 hf8 hk8
   have z2 := hk.size
   replace fR0 := kf hk nR0 fR0
   replace fR1 := kf hk nR1 fR1
   replace nA0 := kc hk nA0
   replace nA1 := kc hk nA1
   replace nR0 := kc hk nR0
   replace nR1 := kc hk nR1
   replace HS := Lib.hid (HS.out.kept0 hk)
   replace S9 := Lib.hid (S9.out.kept0 hk)
   replace KT := Lib.hid (KT.out.trans0 hk)
   clear hk
   have tA0 := nA0.out
   have tA1 := nA1.out
   go_wp2_with fail
   clear tA0 tA1
   refine (l2Big_u true _ _ _ q9 t _ (by have := HQ.out; omega) HT.out rfl).mono ?_
   rintro e ww3 ⟨rfl, hk⟩
   have z3 := hk.size
   replace fR0 := kf hk nR0 fR0
   replace fR1 := kf hk nR1 fR1
   replace nA0 := kc hk nA0
   replace nA1 := kc hk nA1
   replace nR0 := kc hk nR0
   replace nR1 := kc hk nR1
   replace HS := Lib.hid (HS.out.kept0 hk)
   replace S9 := Lib.hid (S9.out.kept0 hk)
   replace S8 := Lib.hid (S8.out.kept0 hk)
   replace KT := Lib.hid (KT.out.trans0 hk)
   clear hk
   have tR0 := nR0.out
   have tR1 := nR1.out
   have uR0 := fR0.out
   have uR1 := fR1.out
   go_wp2_with fail
   clear tR0 tR1 uR0 uR1
   generalize hW : ((ww3.setCell ⟨w.heap.size + 1, 0, none⟩ (.bool (isNeg t))).setCell ⟨w.heap.size + 1, 1, none⟩ (.slice a8 (digits q9).length c8)) = ww4
   have hk : Kept [w.heap.size + 1] ww3 ww4 := by rw [← hW]; exact ((Kept.refl _ _).setCell _ _ (by simp)).setCell _ _ (by simp)
   have hfz : ∀ x, ww4.frozen? x = ww3.frozen? x := by rw [← hW]; intro x; simp only [World.frozen?_setCell]
   obtain ⟨e0, e1⟩ := st2 hW.symm nR0.out nR1.out
   have z4 := hk.size
   replace fR0 := kz hfz fR0
   replace fR1 := kz hfz fR1
   replace nA0 := kd hk nA0 (by simp <;> omega)
   replace nA1 := kd hk nA1 (by simp <;> omega)
   replace HS := Lib.hid (HS.out.kept hk (fun hn y hy hm => by have h9 := FS.out hn y hy; simp at hm; omega))
   replace S9 := Lib.hid (S9.out.kept hk (fun hn y hy hm => by have h9 := G9.out hn y hy; simp at hm; omega))
   replace S8 := Lib.hid (S8.out.kept hk (fun hn y hy hm => by have h9 := G8.out hn y hy; simp at hm; omega))
   replace nR0 := Lib.hid e0
   replace nR1 := Lib.hid e1
   replace KT := Lib.hid (KT.out.trans hk (fun x hx hlt => by simp at hx; omega))
   clear hk hfz hW e0 e1
   have hm9 : mag t = digits q9 := by rw [HT.out]; exact mag_sg HQ.out
   have e0 := nR0.out
   have e1 := nR1.out
   refine bodyPost_ret (v := .agg #[.bool (isNeg t), .slice a8 (digits q9).length c8]) (by simp [results, Try.results38, go_sem, e0, e1]) rfl ?_
   exact ⟨a8, c8, by rw [hm9], by rw [hm9]; exact S8.out, by rw [hm9]; exact G8.out.mono (by omega), KT.out⟩
  ·skip
   rw [hneg]
   obtain ⟨q9, hq9⟩ : ∃ q9, q9 = X / p2 P.toNat := ⟨_, rfl⟩
   have HT := Lib.hid (show t = sg true q9 by rw [ht, hq9]; unfold outZ divZ; rw [hneg, hv9, ← hX, if_neg (fun h => h.1 (by simpa using hr))]; rfl)
   have HQ := Lib.hid (show 0 ≤ q9 by rw [hq9]; omega)
   have HL := Lib.hid (show decide (X % p2 P.toNat ≠ 0) = false from decide_eq_false hr)
   have HQ9 := Lib.hid hq9.symm
   clear hneg hq9 ht hv9 hd0 hd1 hX hr hXl
   go_enter Try.func38, Try.ntmps38
   go_wp2_with fail
   generalize hW : ((w.alloc (.cells #[.bool true, .slice a n c] 41)).alloc (.cells #[.bool false, .slice none 0 0] 41)) = ww0
   have hkk : Kept [] ((w.alloc (.cells #[.bool true, .slice a n c] 41)).alloc (.cells #[.bool false, .slice none 0 0] 41)) ww0 := by rw [hW]; exact Kept.refl _ _
   have zzA : w.heap.size + 1 + 1 = ww0.heap.size := by rw [← hW]; simp
   obtain ⟨⟨nA0, nA1⟩, _⟩ := tp2 hkk.peel (g := w.heap.size) (by simp) (by simp)
   obtain ⟨⟨nR0, nR1⟩, fR0, fR1⟩ := tp2 hkk (g := w.heap.size + 1) (by simp) (by simp)
   have hk := hkk.peel.peel
   clear hkk hW
   have z0 := hk.size
   have KT := Lib.hid hk
   clear hk
   replace HS := Lib.hid (HS.out.kept0 KT.out)
   refine (l3Drop_any P _ _ _ _ _ HP.out HS.out HN.out).mono ?_
   rintro e ww1 ⟨v9, rfl, ho, hk⟩
   rw [HX.out] at ho ⊢
   rw [HL.out]
   obtain ⟨a9, c9, rfl, hs9, hf9⟩ := ho.sl
   have S9 := Lib.hid hs9
   have G9 := Lib.hid (hf9.mono (B' := w.heap.size + 1 + 1) (by omega))
   clear ho hs9 hf9
   have z1 := hk.size
   replace fR0 := kf hk nR0 fR0
   replace fR1 := kf hk nR1 fR1
   replace nA0 := kc hk nA0
   replace nA1 := kc hk nA1
   replace nR0 := kc hk nR0
   replace nR1 := kc hk nR1
   replace HS := Lib.hid (HS.out.kept0 hk)
   replace KT := Lib.hid (KT.out.trans0 hk)
   clear hk
   rw [HQ9.out] at S9 G9 ⊢
   have tA0 := nA0.out
   have tA1 := nA1.out
   go_wp2_with fail
   clear tA0 tA1
   refine (l2Big_u true _ _ _ q9 t _ (by have := HQ.out; omega) HT.out rfl).mono ?_
   rintro e ww2 ⟨rfl, hk⟩
   have z2 := hk.size
   replace fR0 := kf hk nR0 fR0
   replace fR1 := kf hk nR1 fR1
   replace nA0 := kc hk nA0
   replace nA1 := kc hk nA1
   replace nR0 := kc hk nR0
   replace nR1 := kc hk nR1
   replace HS := Lib.hid (HS.out.kept0 hk)
   replace S9 := Lib.hid (S9.out.kept0 hk)
   replace KT := Lib.hid (KT.out.trans0 hk)
   clear hk
   have tR0 := nR0.out
   have tR1 := nR1.out
   have uR0 := fR0.out
   have uR1 := fR1.out
   go_wp2_with fail
   clear tR0 tR1 uR0 uR1
   generalize hW : ((ww2.setCell ⟨w.heap.size + 1, 0, none⟩ (.bool (isNeg t))).setCell ⟨w.heap.size + 1, 1, none⟩ (.slice a9 (digits q9).length c9)) = ww3
   have hk : Kept [w.heap.size + 1] ww2 ww3 := by rw [← hW]; exact ((Kept.refl _ _).setCell _ _ (by simp)).setCell _ _ (by simp)
   have hfz : ∀ x, ww3.frozen? x = ww2.frozen? x := by rw [← hW]; intro x; simp only [World.frozen?_setCell]
   obtain ⟨e0, e1⟩ := st2 hW.symm nR0.out nR1.out
   have z3 := hk.size
   replace fR0 := kz hfz fR0
   replace fR1 := kz hfz fR1
   replace nA0 := kd hk nA0 (by simp <;> omega)
   replace nA1 := kd hk nA1 (by simp <;> omega)
   replace HS := Lib.hid (HS.out.kept hk (fun hn y hy hm => by have h9 := FS.out hn y hy; simp at hm; omega))
   replace S9 := Lib.hid (S9.out.kept hk (fun hn y hy hm => by have h9 := G9.out hn y hy; simp at hm; omega))
   replace nR0 := Lib.hid e0
   replace nR1 := Lib.hid e1
   replace KT := Lib.hid (KT.out.trans hk (fun x hx hlt => by simp at hx; omega))
   clear hk hfz hW e0 e1
   have hm9 : mag t = digits q9 := by rw [HT.out]; exact mag_sg HQ.out
   have e0 := nR0.out
   have e1 := nR1.out
   refine bodyPost_ret (v := .agg #[.bool (isNeg t), .slice a9 (digits q9).length c9]) (by simp [results, Try.results38, go_sem, e0, e1]) rfl ?_
   exact ⟨a9, c9, by rw [hm9], by rw [hm9]; exact S9.out, by rw [hm9]; exact G9.out.mono (by omega), KT.out⟩
 ·have hneg' : isNeg z = false := by simpa using hneg
  rw [hneg']
  obtain ⟨q9, hq9⟩ : ∃ q9, q9 = X / p2 P.toNat := ⟨_, rfl⟩
  have HT := Lib.hid (show t = sg false q9 by rw [ht, hq9]; unfold outZ divZ; rw [hneg', hv9, ← hX, if_neg (fun h => h.2 rfl)]; rfl)
  have HQ := Lib.hid (show 0 ≤ q9 by rw [hq9]; omega)
  obtain ⟨l9, hl9⟩ : ∃ l, l = decide (X % p2 P.toNat ≠ 0) := ⟨_, rfl⟩
  have HL := Lib.hid hl9.symm
  clear hl9
  have HQ9 := Lib.hid hq9.symm
  clear hneg hq9 hneg' ht hv9 hd0 hd1 hX hXl
  go_enter Try.func38, Try.ntmps38
  go_wp2_with fail
  generalize hW : ((w.alloc (.cells #[.bool false, .slice a n c] 41)).alloc (.cells #[.bool false, .slice none 0 0] 41)) = ww0
  have hkk : Kept [] ((w.alloc (.cells #[.bool false, .slice a n c] 41)).alloc (.cells #[.bool false, .slice none 0 0] 41)) ww0 := by rw [hW]; exact Kept.refl _ _
  have zzA : w.heap.size + 1 + 1 = ww0.heap.size := by rw [← hW]; simp
  obtain ⟨⟨nA0, nA1⟩, _⟩ := tp2 hkk.peel (g := w.heap.size) (by simp) (by simp)
  obtain ⟨⟨nR0, nR1⟩, fR0, fR1⟩ := tp2 hkk (g := w.heap.size + 1) (by simp) (by simp)
  have hk := hkk.peel.peel
  clear hkk hW
  have z0 := hk.size
  have KT := Lib.hid hk
  clear hk
  replace HS := Lib.hid (HS.out.kept0 KT.out)
  refine (l3Drop_any P _ _ _ _ _ HP.out HS.out HN.out).mono ?_
  rintro e ww1 ⟨v9, rfl, ho, hk⟩
  rw [HX.out] at ho ⊢
  rw [HL.out]
  obtain ⟨a9, c9, rfl, hs9, hf9⟩ := ho.sl
  have S9 := Lib.hid hs9
  have G9 := Lib.hid (hf9.mono (B' := w.heap.size + 1 + 1) (by omega))
  clear ho hs9 hf9
  have z1 := hk.size
  replace fR0 := kf hk nR0 fR0
  replace fR1 := kf hk nR1 fR1
  replace nA0 := kc hk nA0
  replace nA1 := kc hk nA1
  replace nR0 := kc hk nR0
  replace nR1 := kc hk nR1
  replace HS := Lib.hid (HS.out.kept0 hk)
  replace KT := Lib.hid (KT.out.trans0 hk)
  clear hk
  rw [HQ9.out] at S9 G9 ⊢
  have tA0 := nA0.out
  have tA1 := nA1.out
  go_wp2_with fail
  clear tA0 tA1
  refine (l2Big_u false _ _ _ q9 t _ (by have := HQ.out; omega) HT.out rfl).mono ?_
  rintro e ww2 ⟨rfl, hk⟩
  have z2 := hk.size
  replace fR0 := kf hk nR0 fR0
  replace fR1 := kf hk nR1 fR1
  replace nA0 := kc hk nA0
  replace nA1 := kc hk nA1
  replace nR0 := kc hk nR0
  replace nR1 := kc hk nR1
  replace HS := Lib.hid (HS.out.kept0 hk)
  replace S9 := Lib.hid (S9.out.kept0 hk)
  replace KT := Lib.hid (KT.out.trans0 hk)
  clear hk
  have tR0 := nR0.out
  have tR1 := nR1.out
  have uR0 := fR0.out
  have uR1 := fR1.out
  go_wp2_with fail
  clear tR0 tR1 uR0 uR1
  generalize hW : ((ww2.setCell ⟨w.heap.size + 1, 0, none⟩ (.bool (isNeg t))).setCell ⟨w.heap.size + 1, 1, none⟩ (.slice a9 (digits q9).length c9)) = ww3
  have hk : Kept [w.heap.size + 1] ww2 ww3 := by rw [← hW]; exact ((Kept.refl _ _).setCell _ _ (by simp)).setCell _ _ (by simp)
  have hfz : ∀ x, ww3.frozen? x = ww2.frozen? x := by rw [← hW]; intro x; simp only [World.frozen?_setCell]
  obtain ⟨e0, e1⟩ := st2 hW.symm nR0.out nR1.out
  have z3 := hk.size
  replace fR0 := kz hfz fR0
  replace fR1 := kz hfz fR1
  replace nA0 := kd hk nA0 (by simp <;> omega)
  replace nA1 := kd hk nA1 (by simp <;> omega)
  replace HS := Lib.hid (HS.out.kept hk (fun hn y hy hm => by have h9 := FS.out hn y hy; simp at hm; omega))
  replace S9 := Lib.hid (S9.out.kept hk (fun hn y hy hm => by have h9 := G9.out hn y hy; simp at hm; omega))
  replace nR0 := Lib.hid e0
  replace nR1 := Lib.hid e1
  replace KT := Lib.hid (KT.out.trans hk (fun x hx hlt => by simp at hx; omega))
  clear hk hfz hW e0 e1
  have hm9 : mag t = digits q9 := by rw [HT.out]; exact mag_sg HQ.out
  have e0 := nR0.out
  have e1 := nR1.out
  refine bodyPost_ret (v := .agg #[.bool (isNeg t), .slice a9 (digits q9).length c9]) (by simp [results, Try.results38, go_sem, e0, e1]) rfl ?_
  exact ⟨a9, c9, by rw [hm9], by rw [hm9]; exact S9.out, by rw [hm9]; exact G9.out.mono (by omega), KT.out⟩

set_option maxHeartbeats 4000000 in
set_option maxRecDepth 20000 in
theorem l3Up_any (P : Int) (a : Option Addr) (n c : Nat) (z t : Int) (w : World) (hP : isP P = true) (h : Sl w a n c (mag z)) (hl : (mag z).length ≤ 40) (ht : t = outZ true z P.toNat) :
  Calls Try.prog 40 #[.int .i64 P, .agg #[.bool (isNeg z), .slice a n c]] w (BigV w.heap.size w t) := by
 have hz1 : sg (isNeg z) (val (mag z)) = z := sv_mag z
 have hmn : mag (-z) = mag z := mag_neg z
 obtain ⟨y, hy⟩ : ∃ y, y = -z := ⟨_, rfl⟩
 obtain ⟨t9, ht9⟩ : ∃ t9, t9 = outZ false y P.toNat := ⟨_, rfl⟩
 have htt : t = -t9 := by rw [ht, ht9, hy]; unfold outZ; rw [hmn]; have h9 := divZ_ceil (p := isNeg z) (q := false) (Y := val (digits (p2 P.toNat))) (mag_canon z); rw [sv_mag] at h9; exact h9.symm
 have HZ1 := Lib.hid hz1
 have HY := Lib.hid hy
 have HMY := Lib.hid (show mag y = mag z by rw [hy]; exact hmn)
 have HS := Lib.hid h
 have FS := Lib.hid h.lt
 have HP := Lib.hid hP
 have HT9 := Lib.hid ht9
 have HTT := Lib.hid htt
 have HLN := Lib.hid (show (mag z).length = n from h.1)
 clear h hP hz1 hmn hy ht9 htt ht
 go_enter Try.func40, Try.ntmps40
 go_wp2_with fail
 generalize hW : ((w.alloc (.cells #[.bool (isNeg z), .slice a n c] 41)).alloc (.cells #[.bool false, .slice none 0 0] 41)) = ww0
 have hkk : Kept [] ((w.alloc (.cells #[.bool (isNeg z), .slice a n c] 41)).alloc (.cells #[.bool false, .slice none 0 0] 41)) ww0 := by rw [hW]; exact Kept.refl _ _
 have zzA : w.heap.size + 1 + 1 = ww0.heap.size := by rw [← hW]; simp
 obtain ⟨⟨nA0, nA1⟩, _⟩ := tp2 hkk.peel (g := w.heap.size) (by simp) (by simp)
 obtain ⟨⟨nR0, nR1⟩, fR0, fR1⟩ := tp2 hkk (g := w.heap.size + 1) (by simp) (by simp)
 have hk := hkk.peel.peel
 clear hkk hW
 have z0 := hk.size
 have KT := Lib.hid hk
 clear hk
 replace HS := Lib.hid (HS.out.kept0 KT.out)
 refine (l2Neg_any _ _ _ z _ _ HZ1.out HLN.out).mono ?_
 rintro e ww1 ⟨rfl, hk⟩
 rw [← HY.out]
 have z1 := hk.size
 replace fR0 := kf hk nR0 fR0
 replace fR1 := kf hk nR1 fR1
 replace nA0 := kc hk nA0
 replace nA1 := kc hk nA1
 replace nR0 := kc hk nR0
 replace nR1 := kc hk nR1
 replace HS := Lib.hid (HS.out.kept0 hk)
 replace KT := Lib.hid (KT.out.trans0 hk)
 clear hk
 go_wp2_with fail
 refine (l3Down_any P _ _ _ y t9 _ HP.out (by rw [HMY.out]; exact HS.out) (by rw [HMY.out]; exact hl) HT9.out).mono ?_
 rintro e ww2 ⟨a9, c9, rfl, hs9, hf9, hk⟩
 have S9 := Lib.hid hs9
 have G9 := Lib.hid (hf9.mono (B' := w.heap.size + 1 + 1) (by omega))
 clear hs9 hf9
 have z2 := hk.size
 replace fR0 := kf hk nR0 fR0
 replace fR1 := kf hk nR1 fR1
 replace nA0 := kc hk nA0
 replace nA1 := kc hk nA1
 replace nR0 := kc hk nR0
 replace nR1 := kc hk nR1
 replace HS := Lib.hid (HS.out.kept0 hk)
 replace KT := Lib.hid (KT.out.trans0 hk)
 clear hk
 go_wp2_with fail
 refine (l2Neg_any _ _ _ t9 _ _ (sv_mag t9) rfl).mono ?_
 rintro e ww3 ⟨rfl, hk⟩
 rw [← HTT.out]
 have z3 := hk.size
 replace fR0 := kf hk nR0 fR0
 replace fR1 := kf hk nR1 fR1
 replace nA0 := kc hk nA0
 replace nA1 := kc hk nA1
 replace nR0 := kc hk nR0
 replace nR1 := kc hk nR1
 replace HS := Lib.hid (HS.out.kept0 hk)
 replace S9 := Lib.hid (S9.out.kept0 hk)
 replace KT := Lib.hid (KT.out.trans0 hk)
 clear hk
 have tR0 := nR0.out
 have tR1 := nR1.out
 have uR0 := fR0.out
 have uR1 := fR1.out
 go_wp2_with fail
 clear tR0 tR1 uR0 uR1
 generalize hW : ((ww3.setCell ⟨w.heap.size + 1, 0, none⟩ (.bool (isNeg t))).setCell ⟨w.heap.size + 1, 1, none⟩ (.slice a9 (mag t9).length c9)) = ww4
 have hk : Kept [w.heap.size + 1] ww3 ww4 := by rw [← hW]; exact ((Kept.refl _ _).setCell _ _ (by simp)).setCell _ _ (by simp)
 have hfz : ∀ x, ww4.frozen? x = ww3.frozen? x := by rw [← hW]; intro x; simp only [World.frozen?_setCell]
 obtain ⟨e0, e1⟩ := st2 hW.symm nR0.out nR1.out
 have z4 := hk.size
 replace fR0 := kz hfz fR0
 replace fR1 := kz hfz fR1
 replace nA0 := kd hk nA0 (by simp <;> omega)
 replace nA1 := kd hk nA1 (by simp <;> omega)
 replace HS := Lib.hid (HS.out.kept hk (fun hn y hy hm => by have h9 := FS.out hn y hy; simp at hm; omega))
 replace S9 := Lib.hid (S9.out.kept hk (fun hn y hy hm => by have h9 := G9.out hn y hy; simp at hm; omega))
 replace nR0 := Lib.hid e0
 replace nR1 := Lib.hid e1
 replace KT := Lib.hid (KT.out.trans hk (fun x hx hlt => by simp at hx; omega))
 clear hk hfz hW e0 e1
 have hm9 : mag t = mag t9 := by rw [HTT.out]; exact mag_neg t9
 have e0 := nR0.out
 have e1 := nR1.out
 refine bodyPost_ret (v := .agg #[.bool (isNeg t), .slice a9 (mag t9).length c9]) (by simp [results, Try.results40, go_sem, e0, e1]) rfl ?_
 exact ⟨a9, c9, by rw [hm9], by rw [hm9]; exact S9.out, by rw [hm9]; exact G9.out.mono (by omega), KT.out⟩

end Go.Proofs.Ytfafjijoeanbhaa
