/-
  Joined texts.
-/
import Derived.Test.YtfafjijoeanbhaaGreatJ5
import Derived.Test.YtfafjijoeanbhaaGreatJ2
import Derived.Handy
import Derived.Deep.RegionHeld3
import Derived.Deep.DrawnRows
import Derived.Deep.DeepCutAuto
import Derived.Test.YtfafjijoeanbhaaGreatMulA
import Derived.Test.YtfafjijoeanbhaaGreatSpanG
import Derived.Test.YtfafjijoeanbhaaGreatSpanF
import Derived.Test.YtfafjijoeanbhaaGreatPlainC
import Derived.Test.YtfafjijoeanbhaaGreatMulB
import Derived.Test.YtfafjijoeanbhaaGreatMulC
import Derived.Test.YtfafjijoeanbhaaGreatSpanI
namespace Go.Proofs.YtfafjijoeanbhaaGreat
open Go.RowKit

theorem digits_p2 (k : Nat) : digits (p2 k) = List.replicate (k / 16) 0 ++ [p2 (k % 16)] := by
 obtain ⟨q, hq⟩ : ∃ q, q = k / 16 := ⟨_, rfl⟩
 obtain ⟨r, hr⟩ : ∃ r, r = k % 16 := ⟨_, rfl⟩
 have h1 := p2_pos r
 have h2 := p2_mono r 15 (by omega)
 have h15 : p2 15 = 32768 := rfl
 rw [← hq, ← hr, ← digits_val (canon_pow q (y := p2 r) (by omega)), val_pow, pw_p2, ← p2_add, hq, hr, Nat.div_add_mod]

set_option maxHeartbeats 2000000 in
theorem l3Unit_any (k : Nat) (z : Int) (w : World) (hk : k ≤ 96) (hz : z = p2 k) :
  Calls Tryz.prog 185 #[.int .i64 (k : Int)] w (BigV w.heap.size w z) := by
 have hpos := p2_pos k
 have hm : mag z = List.replicate (k / 16) 0 ++ [p2 (k % 16)] := by rw [hz, mag_no (by omega)]; exact digits_p2 k
 have hn : isNeg z = false := by rw [hz]; exact isNeg_no (by omega)
 have HM := Lib.hid hm
 have HN := Lib.hid hn
 clear hm hn hz hpos
 go_enter Tryz.func185, Tryz.ntmps185
 go_wp2
 have k0 : Hid (Kept [] w (w.alloc (.cells #[.bool false, .slice none 0 0] 24))) := (Kept.refl [] w).alloc _
 go_loopw [0, 3] (fun p o wr => ∃ j : Nat, 16 * j ≤ k ∧ p = .int .i64 ((k : Int) - 16 * (j : Int)) ∧ Hid (Ow (w.heap.size + 1) wr o (List.replicate j 0)) ∧ Hid (Kept [] (w.alloc (.cells #[.bool false, .slice none 0 0] 24)) wr)) (fun p _ _ => (intOf p).toNat)
 case atStart => exact ⟨0, by omega, by congr 1 <;> omega, (by have h := Ow.empty (w.heap.size + 1) (w.alloc (.cells #[.bool false, .slice none 0 0] 24)) (by simp); simp only [World.size_alloc] at h; exact h), (Kept.refl [] _).alloc _⟩
 case round =>
  obtain ⟨j, hj, rfl, hO, hK⟩ := hrel
  by_cases hlt : 16 * (j + 1) ≤ k
  ·have hg : (16 : Int) ≤ (k : Int) - 16 * (j : Int) := by omega
   have e2 : IntKind.i64.wrap ((k : Int) - 16 * (j : Int) - 16) = (k : Int) - 16 * (j : Int) - 16 := IntWalk.i64_in _ (by omega)
   have hsz : w.heap.size + 1 ≤ wr.heap.size := by have := hK.out.size; simpa using this
   go_wp2_with (at_builtin; refine app1 rfl _ _ rfl (w.heap.size + 1) u3 (List.replicate j 0) rfl (hO.out.alloc _) wr.heap.size 0 rfl (by simp) (by simp; omega) (by simp; omega) ?_)
   intro v' w1 hO2 hG
   have HO2 := Lib.hid hO2
   have HK2 : Hid (Kept [] (w.alloc (.cells #[.bool false, .slice none 0 0] 24)) w1) := kept_grown (hK.out.alloc _) (hO.out.alloc _) hG (by simp)
   clear hO2 hG
   go_wp2
   go_roundw
   case rel => exact ⟨j + 1, by omega, by congr 1; omega, by rw [List.replicate_succ']; exact HO2.out, HK2⟩
   case measure => simp [intOf]; omega
  ·have hj2 : j = k / 16 := by omega
   have hg : ¬ (16 : Int) ≤ (k : Int) - 16 * (j : Int) := by omega
   obtain ⟨r, hr⟩ : ∃ r : Nat, r = k % 16 := ⟨_, rfl⟩
   have e3 : (k : Int) - 16 * (j : Int) = (r : Int) := by omega
   rw [e3] at hg ⊢
   have hr16 : r < 16 := by omega
   have HR := Lib.hid hr
   have HJ := Lib.hid hj2
   clear hr hj2 e3 hlt
   go_wp2
   go_loopw [0, 4] (fun p l wx => ∃ (i : Nat) (v : Int), i ≤ r ∧ p = .int .i64 ((r : Int) - (i : Int)) ∧ l = .int .i64 v ∧ 1 ≤ v ∧ v ≤ 32768 ∧ Hid (v = p2 i) ∧ wx = wr) (fun p _ _ => (intOf p).toNat)
   case atStart => exact ⟨0, 1, by omega, by congr 1 <;> omega, rfl, by omega, by omega, rfl, rfl⟩
   case round =>
    obtain ⟨i, v, hi, rfl, rfl, hv1, hv2, hv, rfl⟩ := hrel
    by_cases hlt : i < r
    ·have hv3 : v ≤ 16384 := by
      have h1 := p2_mono i 14 (by omega)
      have h2 : p2 14 = 16384 := rfl
      have := hv.out
      omega
     have e1 : IntKind.i64.wrap (v * 2) = v * 2 := IntWalk.i64_in _ (by omega)
     have e2 : IntKind.i64.wrap ((r : Int) - (i : Int) - 1) = (r : Int) - (i : Int) - 1 := IntWalk.i64_in _ (by omega)
     have HV2 : Hid (v * 2 = p2 (i + 1)) := by
      show v * 2 = 2 * p2 i
      rw [hv.out]; omega
     have hg2 : (0 : Int) < (r : Int) - (i : Int) := by omega
     go_wp2
     go_roundw
     case rel => exact ⟨i + 1, v * 2, by omega, by congr 1; omega, rfl, by omega, by omega, HV2, trivial⟩
     case measure => simp [intOf]; omega
    ·obtain rfl : i = r := by omega
     have hg2 : ¬ (0 : Int) < (i : Int) - (i : Int) := by omega
     have hsz : w.heap.size + 1 ≤ wr.heap.size := by have := hK.out.size; simpa using this
     go_wp2_with (at_builtin; refine app1 rfl _ _ rfl (w.heap.size + 1) u3 (List.replicate j 0) rfl (hO.out.alloc _) wr.heap.size v rfl (by simp) (by simp; omega) (by simp; omega) ?_)
     intro v' w1 hO2 hG
     have hK2 : Kept [] (w.alloc (.cells #[.bool false, .slice none 0 0] 24)) w1 := kept_grown (hK.out.alloc _) (hO.out.alloc _) hG (by simp)
     have hL : List.replicate j 0 ++ [v] = mag z := by rw [HM.out, HJ.out, hv.out, HR.out]
     rw [hL] at hO2
     obtain ⟨a1, c1, rfl, hs, hf⟩ := hO2.sl
     obtain ⟨d0, f0, _⟩ := hK2.top (g := w.heap.size) rfl (by simp) 0 (v := .bool false) rfl
     obtain ⟨d1, f1, _⟩ := hK2.top (g := w.heap.size) rfl (by simp) 1 (v := .slice none 0 0) rfl
     have HS := Lib.hid hs
     have HF := Lib.hid hf
     have HK := Lib.hid (hK2.peel)
     clear hs hf hO2 hG hK2 hL hO hK
     obtain ⟨_, eb, ec⟩ := cells2 (.bool false) (.slice a1 (mag z).length c1) d0 d1
     have hk9 : Kept [w.heap.size] w1 ((w1.setCell ⟨w.heap.size, 0, none⟩ (.bool false)).setCell ⟨w.heap.size, 1, none⟩ (.slice a1 (mag z).length c1)) := ((Kept.refl [w.heap.size] w1).setCell _ _ (by simp)).setCell _ _ (by simp)
     have HK9 := Lib.hid hk9
     clear hk9
     go_wp2_with fail
     refine bodyPost_ret (v := .agg #[.bool false, .slice a1 (mag z).length c1]) (by simp [results, Tryz.results185, go_sem, eb, ec]) rfl ?_
     exact ⟨a1, c1, by rw [HN.out], HS.out.kept HK9.out (fun hn x hx => by have := HF.out hn x hx; simp; omega), HF.out.mono (by omega), HK.out.trans HK9.out (fun x hx hlt => by simp at hx; omega)⟩

end Go.Proofs.YtfafjijoeanbhaaGreat
namespace Go.Proofs.YtfafjijoeanbhaaGreat
open Go.RowKit

/-- 1 alone, in units. -/
def oneS (P : Int) : SV := if isP P = true then ⟨0, p2 P.toNat, p2 P.toNat⟩ else noSpan 3
theorem p2_mag_len {k : Nat} (hk : k ≤ 96) : (mag (p2 k)).length ≤ 7 := by rw [mag_no (by have := p2_pos k; omega)]; exact p2_len hk
theorem oneInUnits_z (k : Nat) (z : Int) (w : World) (hk : k ≤ 96) (hz : z = p2 k) :
  Calls Tryz.prog 146 #[.int .i64 (k : Int)] w (BigV w.heap.size w z) := by
 refine (oneInUnits_any k w hk).mono fun e w' h => ?_
 obtain ⟨g, rfl, hg, hb, hk'⟩ := h
 have h0 := p2_pos k
 have hm : mag z = digits (p2 k) := by rw [hz, mag_no (by omega)]
 have hn : isNeg z = false := by rw [hz]; exact isNeg_no (by omega)
 have hl := p2_len hk
 exact ⟨some ⟨g, 0, none⟩, (digits (p2 k)).length, by rw [hm, hn], by rw [hm]; exact Sl.ofBlk hb (by omega), by rw [hm]; intro _ x hx; cases hx; exact hg, hk'⟩
theorem isPrecision_ans (P : Int) (w : World) : Calls Tryz.prog 46 #[.int .i64 P] w (Ans w (.bool (isP P))) := by
 refine (isPrecision_same P w).mono fun e w' h => ?_
 obtain ⟨rfl, rfl⟩ := h
 exact ⟨rfl, Kept.refl _ _⟩

set_option maxHeartbeats 2000000 in
set_option maxRecDepth 20000 in
theorem l4One_any (k : Nat) (z : Int) (w : World) (hk : k ≤ 96) (hz : z = p2 k) :
  Calls Tryz.prog 139 #[.int .i64 (k : Int)] w (SpanV w z z) := by
 have HZ := Lib.hid hz
 clear hz
 go_enter Tryz.func139, Tryz.ntmps139
 go_wp2_with fail
 generalize hW : (w.alloc (.cells #[.bool false, .slice none 0 0, .bool false, .slice none 0 0] 26)) = ww0
 have hkk : Kept [] (w.alloc (.cells #[.bool false, .slice none 0 0, .bool false, .slice none 0 0] 26)) ww0 := by rw [hW]; exact Kept.refl _ _
 have zzA : w.heap.size + 1 = ww0.heap.size := by rw [← hW]; simp
 obtain ⟨⟨nR0, nR1, nR2, nR3⟩, fR0, fR1, fR2, fR3⟩ := tp4 hkk (g := w.heap.size) (by simp) (by simp)
 have hk := hkk.peel
 clear hkk hW
 have z0 := hk.size
 have KT := Lib.hid hk
 clear hk
 refine (l3Unit_any k z _ hk HZ.out).mono ?_
 rintro e ww1 ⟨a1, c1, rfl, hs1, hf1, hk1⟩
 have S1 := Lib.hid hs1
 have G1 := Lib.hid hf1
 clear hs1 hf1
 replace G1 := Lib.hid (G1.out.mono (B' := w.heap.size + 1) (by omega))
 have z1 := hk1.size
 replace fR0 := kf hk1 nR0 fR0
 replace fR1 := kf hk1 nR1 fR1
 replace fR2 := kf hk1 nR2 fR2
 replace fR3 := kf hk1 nR3 fR3
 replace nR0 := kc hk1 nR0
 replace nR1 := kc hk1 nR1
 replace nR2 := kc hk1 nR2
 replace nR3 := kc hk1 nR3
 replace KT := Lib.hid (KT.out.trans0 hk1)
 clear hk1
 go_wp2_with fail
 refine (l3Unit_any k z _ hk HZ.out).mono ?_
 rintro e ww2 ⟨a2, c2, rfl, hs2, hf2, hk1⟩
 have S2 := Lib.hid hs2
 have G2 := Lib.hid hf2
 clear hs2 hf2
 replace G2 := Lib.hid (G2.out.mono (B' := w.heap.size + 1) (by omega))
 have z2 := hk1.size
 replace fR0 := kf hk1 nR0 fR0
 replace fR1 := kf hk1 nR1 fR1
 replace fR2 := kf hk1 nR2 fR2
 replace fR3 := kf hk1 nR3 fR3
 replace nR0 := kc hk1 nR0
 replace nR1 := kc hk1 nR1
 replace nR2 := kc hk1 nR2
 replace nR3 := kc hk1 nR3
 replace S1 := Lib.hid (S1.out.kept0 hk1)
 replace KT := Lib.hid (KT.out.trans0 hk1)
 clear hk1
 have tR0 := nR0.out
 have tR1 := nR1.out
 have tR2 := nR2.out
 have tR3 := nR3.out
 have uR0 := fR0.out
 have uR1 := fR1.out
 have uR2 := fR2.out
 have uR3 := fR3.out
 go_wp2_with fail
 clear tR0 tR1 tR2 tR3 uR0 uR1 uR2 uR3
 obtain ⟨p9, hp9⟩ : ∃ r, r = isNeg z := ⟨_, rfl⟩
 rw [← hp9]
 generalize hW : ((((ww2.setCell ⟨w.heap.size, 0, none⟩ (.bool p9)).setCell ⟨w.heap.size, 1, none⟩ (.slice a1 (mag z).length c1)).setCell ⟨w.heap.size, 2, none⟩ (.bool p9)).setCell ⟨w.heap.size, 3, none⟩ (.slice a2 (mag z).length c2)) = ww3
 have hk : Kept [w.heap.size] ww2 ww3 := by rw [← hW]; exact ((((Kept.refl _ _).setCell _ _ (by simp)).setCell _ _ (by simp)).setCell _ _ (by simp)).setCell _ _ (by simp)
 have hfz : ∀ x, ww3.frozen? x = ww2.frozen? x := by rw [← hW]; intro x; simp only [World.frozen?_setCell]
 obtain ⟨e0, e1, e2, e3⟩ := st4 hW.symm nR0.out nR1.out nR2.out nR3.out
 have z3 := hk.size
 replace fR0 := kz hfz fR0
 replace fR1 := kz hfz fR1
 replace fR2 := kz hfz fR2
 replace fR3 := kz hfz fR3
 replace S1 := Lib.hid (S1.out.kept hk (fun hn y hy hm => by have h9 := G1.out hn y hy; simp at hm; omega))
 replace S2 := Lib.hid (S2.out.kept hk (fun hn y hy hm => by have h9 := G2.out hn y hy; simp at hm; omega))
 replace nR0 := Lib.hid e0
 replace nR1 := Lib.hid e1
 replace nR2 := Lib.hid e2
 replace nR3 := Lib.hid e3
 replace KT := Lib.hid (KT.out.trans hk (fun x hx hlt => by simp at hx; omega))
 clear hk hfz hW e0 e1 e2 e3
 have HP9 := Lib.hid hp9
 clear hp9
 go_wp2_with fail
 have e0 := nR0.out
 have e1 := nR1.out
 have e2 := nR2.out
 have e3 := nR3.out
 refine bodyPost_ret (v := .agg #[.bool p9, .slice a1 (mag z).length c1, .bool p9, .slice a2 (mag z).length c2]) (by simp [results, Tryz.results139, go_sem, e0, e1, e2, e3]) rfl ?_
 exact spanV_fin HP9.out HP9.out S1.out S2.out (G1.out.mono (by omega)) (G2.out.mono (by omega)) KT.out

set_option maxHeartbeats 4000000 in
set_option maxRecDepth 20000 in
theorem OneSpan_any (P : Int) (w : World) :
  Calls Tryz.prog 80 #[.int .i64 P] w (SpanR w (oneS P)) := by
 by_cases hP : isP P = true
 ·skip
  have HP := Lib.hid hP
  obtain ⟨k, rfl⟩ : ∃ k : Nat, P = (k : Int) := ⟨P.toNat, by rcases isP_cases hP with h | h | h <;> omega⟩
  have hk96 : k ≤ 96 := by rcases isP_cases hP with h | h | h <;> omega
  obtain ⟨z, hz⟩ : ∃ z, z = p2 k := ⟨_, rfl⟩
  have hl7 : (mag z).length ≤ 7 := by rw [hz]; exact p2_mag_len hk96
  rw [show oneS (k : Int) = ⟨0, z, z⟩ from by unfold oneS; rw [if_pos hP, hz]; rfl]
  have HZ := Lib.hid hz
  clear hz
  have HR := Lib.hid (show (⟨0, z, z⟩ : SV) = fitS z z from (fitS_ok (by omega) (by omega)).symm)
  clear hP
  obtain ⟨r, hr⟩ : ∃ r : SV, r = ⟨0, z, z⟩ := ⟨_, rfl⟩
  rw [← hr] at HR ⊢
  clear hr
  go_enter Tryz.func80, Tryz.ntmps80
  go_wp2_with fail
  generalize hW : (w.alloc (.cells #[.int .i64 0, .bool false, .slice none 0 0, .bool false, .slice none 0 0] 28)) = ww0
  have hkk : Kept [] (w.alloc (.cells #[.int .i64 0, .bool false, .slice none 0 0, .bool false, .slice none 0 0] 28)) ww0 := by rw [hW]; exact Kept.refl _ _
  have zzA : w.heap.size + 1 = ww0.heap.size := by rw [← hW]; simp
  obtain ⟨⟨nR0, nR1, nR2, nR3, nR4⟩, fR0, fR1, fR2, fR3, fR4⟩ := tp5 hkk (g := w.heap.size) (by simp) (by simp)
  have hk := hkk.peel
  clear hkk hW
  have z0 := hk.size
  have KT := Lib.hid hk
  clear hk
  refine (isPrecision_ans _ _).mono ?_
  rintro e ww1 ⟨rfl, hk⟩
  rw [HP.out]
  have z1 := hk.size
  replace fR0 := kf hk nR0 fR0
  replace fR1 := kf hk nR1 fR1
  replace fR2 := kf hk nR2 fR2
  replace fR3 := kf hk nR3 fR3
  replace fR4 := kf hk nR4 fR4
  replace nR0 := kc hk nR0
  replace nR1 := kc hk nR1
  replace nR2 := kc hk nR2
  replace nR3 := kc hk nR3
  replace nR4 := kc hk nR4
  replace KT := Lib.hid (KT.out.trans0 hk)
  clear hk
  go_wp2_with fail
  refine (oneInUnits_z k z _ hk96 HZ.out).mono ?_
  rintro e ww2 ⟨a1, c1, rfl, hs1, hf1, hk⟩
  have S1 := Lib.hid hs1
  have G1 := Lib.hid hf1
  clear hs1 hf1
  have z2 := hk.size
  replace fR0 := kf hk nR0 fR0
  replace fR1 := kf hk nR1 fR1
  replace fR2 := kf hk nR2 fR2
  replace fR3 := kf hk nR3 fR3
  replace fR4 := kf hk nR4 fR4
  replace nR0 := kc hk nR0
  replace nR1 := kc hk nR1
  replace nR2 := kc hk nR2
  replace nR3 := kc hk nR3
  replace nR4 := kc hk nR4
  replace KT := Lib.hid (KT.out.trans0 hk)
  clear hk
  go_upto_region 5 with fail
  generalize hW : (ww2.alloc (.cells #[.bool (isNeg z), .slice a1 (mag z).length c1] 24)) = ww3
  have hk : Kept [] ww2 ww3 := by rw [← hW]; exact (Kept.refl [] _).alloc _
  have zzU : ww2.heap.size + 1 = ww3.heap.size := by rw [← hW]; simp
  have nU0 := Lib.hid (show ww3.cell? ⟨ww2.heap.size, 0, none⟩ = some (.bool (isNeg z)) by rw [← hW, World.cell?_alloc_new]; rfl)
  have nU1 := Lib.hid (show ww3.cell? ⟨ww2.heap.size, 1, none⟩ = some (.slice a1 (mag z).length c1) by rw [← hW, World.cell?_alloc_new]; rfl)
  clear hW
  have z3 := hk.size
  replace fR0 := kf hk nR0 fR0
  replace fR1 := kf hk nR1 fR1
  replace fR2 := kf hk nR2 fR2
  replace fR3 := kf hk nR3 fR3
  replace fR4 := kf hk nR4 fR4
  replace nR0 := kc hk nR0
  replace nR1 := kc hk nR1
  replace nR2 := kc hk nR2
  replace nR3 := kc hk nR3
  replace nR4 := kc hk nR4
  replace S1 := Lib.hid (S1.out.kept0 hk)
  replace KT := Lib.hid (KT.out.trans0 hk)
  clear hk
  have tU0 := nU0.out
  have tU1 := nU1.out
  go_wp2_with fail
  clear tU0 tU1
  refine (spanResult_any _ _ _ _ _ _ _ _ _ S1.out S1.out).mono ?_
  rintro e ww4 ⟨a3, c3, b3, d3, rfl, hs3, hs4, hf3, hf4, hne, hk⟩
  clear S1
  rw [← HR.out] at hs3 hs4 hf3 hf4 hne ⊢
  have G3 := Lib.hid (hf3.mono (B' := w.heap.size + 1) (by omega))
  have G4 := Lib.hid (hf4.mono (B' := w.heap.size + 1) (by omega))
  have z4 := hk.size
  replace fR0 := kf hk nR0 fR0
  replace fR1 := kf hk nR1 fR1
  replace fR2 := kf hk nR2 fR2
  replace fR3 := kf hk nR3 fR3
  replace fR4 := kf hk nR4 fR4
  replace nR0 := kc hk nR0
  replace nR1 := kc hk nR1
  replace nR2 := kc hk nR2
  replace nR3 := kc hk nR3
  replace nR4 := kc hk nR4
  replace nU0 := kc hk nU0
  replace nU1 := kc hk nU1
  replace KT := Lib.hid (KT.out.trans0 hk)
  clear hk
  have hs3 := Lib.hid hs3
  have hs4 := Lib.hid hs4
  have HNE := Lib.hid hne
  clear hf3 hf4 hne
  have tR0 := nR0.out
  have tR1 := nR1.out
  have tR2 := nR2.out
  have tR3 := nR3.out
  have tR4 := nR4.out
  have uR0 := fR0.out
  have uR1 := fR1.out
  have uR2 := fR2.out
  have uR3 := fR3.out
  have uR4 := fR4.out
  go_wp2_with fail
  clear tR0 tR1 tR2 tR3 tR4 uR0 uR1 uR2 uR3 uR4
  generalize hW : (((((ww4.setCell ⟨w.heap.size, 0, none⟩ (.int .i64 r.code)).setCell ⟨w.heap.size, 1, none⟩ (.bool (isNeg r.lo))).setCell ⟨w.heap.size, 2, none⟩ (.slice a3 (mag r.lo).length c3)).setCell ⟨w.heap.size, 3, none⟩ (.bool (isNeg r.hi))).setCell ⟨w.heap.size, 4, none⟩ (.slice b3 (mag r.hi).length d3)) = ww5
  have hk : Kept [w.heap.size] ww4 ww5 := by rw [← hW]; exact (((((Kept.refl _ _).setCell _ _ (by simp)).setCell _ _ (by simp)).setCell _ _ (by simp)).setCell _ _ (by simp)).setCell _ _ (by simp)
  have hfz : ∀ x, ww5.frozen? x = ww4.frozen? x := by rw [← hW]; intro x; simp only [World.frozen?_setCell]
  obtain ⟨e0, e1, e2, e3, e4⟩ := st5 hW.symm nR0.out nR1.out nR2.out nR3.out nR4.out
  have z5 := hk.size
  replace fR0 := kz hfz fR0
  replace fR1 := kz hfz fR1
  replace fR2 := kz hfz fR2
  replace fR3 := kz hfz fR3
  replace fR4 := kz hfz fR4
  replace nU0 := kd hk nU0 (by simp <;> omega)
  replace nU1 := kd hk nU1 (by simp <;> omega)
  replace hs3 := Lib.hid (hs3.out.kept hk (fun hn y hy hm => by have h9 := G3.out hn y hy; simp at hm; omega))
  replace hs4 := Lib.hid (hs4.out.kept hk (fun hn y hy hm => by have h9 := G4.out hn y hy; simp at hm; omega))
  replace nR0 := Lib.hid e0
  replace nR1 := Lib.hid e1
  replace nR2 := Lib.hid e2
  replace nR3 := Lib.hid e3
  replace nR4 := Lib.hid e4
  replace KT := Lib.hid (KT.out.trans hk (fun x hx hlt => by simp at hx; omega))
  clear hk hfz hW e0 e1 e2 e3 e4
  have e0 := nR0.out
  have e1 := nR1.out
  have e2 := nR2.out
  have e3 := nR3.out
  have e4 := nR4.out
  refine bodyPost_ret (v := .agg #[.int .i64 r.code, .bool (isNeg r.lo), .slice a3 (mag r.lo).length c3, .bool (isNeg r.hi), .slice b3 (mag r.hi).length d3]) (by simp [results, Tryz.results80, go_sem, e0, e1, e2, e3, e4]) rfl ?_
  exact ⟨a3, c3, b3, d3, rfl, hs3.out, hs4.out, G3.out.mono (by omega), G4.out.mono (by omega), HNE.out, KT.out⟩
 ·skip
  rw [show oneS P = noSpan 3 from by unfold oneS; rw [if_neg hP]]
  have HP := Lib.hid (show isP P = false by simpa using hP)
  clear hP
  go_enter Tryz.func80, Tryz.ntmps80
  go_wp2_with fail
  generalize hW : (w.alloc (.cells #[.int .i64 0, .bool false, .slice none 0 0, .bool false, .slice none 0 0] 28)) = ww0
  have hkk : Kept [] (w.alloc (.cells #[.int .i64 0, .bool false, .slice none 0 0, .bool false, .slice none 0 0] 28)) ww0 := by rw [hW]; exact Kept.refl _ _
  have zzA : w.heap.size + 1 = ww0.heap.size := by rw [← hW]; simp
  obtain ⟨⟨nR0, nR1, nR2, nR3, nR4⟩, fR0, fR1, fR2, fR3, fR4⟩ := tp5 hkk (g := w.heap.size) (by simp) (by simp)
  have hk := hkk.peel
  clear hkk hW
  have z0 := hk.size
  have KT := Lib.hid hk
  clear hk
  refine (isPrecision_ans _ _).mono ?_
  rintro e ww1 ⟨rfl, hk⟩
  rw [HP.out]
  have z1 := hk.size
  replace fR0 := kf hk nR0 fR0
  replace fR1 := kf hk nR1 fR1
  replace fR2 := kf hk nR2 fR2
  replace fR3 := kf hk nR3 fR3
  replace fR4 := kf hk nR4 fR4
  replace nR0 := kc hk nR0
  replace nR1 := kc hk nR1
  replace nR2 := kc hk nR2
  replace nR3 := kc hk nR3
  replace nR4 := kc hk nR4
  replace KT := Lib.hid (KT.out.trans0 hk)
  clear hk
  have tR0 := nR0.out
  have tR1 := nR1.out
  have tR2 := nR2.out
  have tR3 := nR3.out
  have tR4 := nR4.out
  have uR0 := fR0.out
  have uR1 := fR1.out
  have uR2 := fR2.out
  have uR3 := fR3.out
  have uR4 := fR4.out
  go_wp2_with fail
  clear tR0 tR1 tR2 tR3 tR4 uR0 uR1 uR2 uR3 uR4
  generalize hW : (((((ww1.setCell ⟨w.heap.size, 0, none⟩ (.int .i64 3)).setCell ⟨w.heap.size, 1, none⟩ (.bool false)).setCell ⟨w.heap.size, 2, none⟩ (.slice none 0 0)).setCell ⟨w.heap.size, 3, none⟩ (.bool false)).setCell ⟨w.heap.size, 4, none⟩ (.slice none 0 0)) = ww2
  have hk : Kept [w.heap.size] ww1 ww2 := by rw [← hW]; exact (((((Kept.refl _ _).setCell _ _ (by simp)).setCell _ _ (by simp)).setCell _ _ (by simp)).setCell _ _ (by simp)).setCell _ _ (by simp)
  have hfz : ∀ x, ww2.frozen? x = ww1.frozen? x := by rw [← hW]; intro x; simp only [World.frozen?_setCell]
  obtain ⟨e0, e1, e2, e3, e4⟩ := st5 hW.symm nR0.out nR1.out nR2.out nR3.out nR4.out
  have z2 := hk.size
  replace fR0 := kz hfz fR0
  replace fR1 := kz hfz fR1
  replace fR2 := kz hfz fR2
  replace fR3 := kz hfz fR3
  replace fR4 := kz hfz fR4
  replace nR0 := Lib.hid e0
  replace nR1 := Lib.hid e1
  replace nR2 := Lib.hid e2
  replace nR3 := Lib.hid e3
  replace nR4 := Lib.hid e4
  replace KT := Lib.hid (KT.out.trans hk (fun x hx hlt => by simp at hx; omega))
  clear hk hfz hW e0 e1 e2 e3 e4
  have e0 := nR0.out
  have e1 := nR1.out
  have e2 := nR2.out
  have e3 := nR3.out
  have e4 := nR4.out
  refine bodyPost_ret (v := .agg #[.int .i64 3, .bool false, .slice none 0 0, .bool false, .slice none 0 0]) (by simp [results, Tryz.results80, go_sem, e0, e1, e2, e3, e4]) rfl ?_
  exact spanR_no KT.out

end Go.Proofs.YtfafjijoeanbhaaGreat
namespace Go.Proofs.YtfafjijoeanbhaaGreat
open Go.RowKit

/-- A call that answers a span's result without a code, told by numbers, its ends in new memory. -/
def SpanRZ (w : World) (z1 z2 : Int) (e : Ending) (w' : World) : Prop :=
 ∃ a c b d, e = .returned (.agg #[.int .i64 0, .bool (isNeg z1), .slice a (mag z1).length c, .bool (isNeg z2), .slice b (mag z2).length d]) ∧ Sl w' a (mag z1).length c (mag z1) ∧ Sl w' b (mag z2).length d (mag z2) ∧
  Fr w.heap.size a (mag z1).length ∧ Fr w.heap.size b (mag z2).length ∧ Kept [] w w'
theorem spanRZ_of {w w' : World} {z1 z2 : Int} {e : Ending} (h : SpanR w ⟨0, z1, z2⟩ e w') : SpanRZ w z1 z2 e w' := by
 obtain ⟨a, c, b, d, he, s1, s2, f1, f2, _, hk⟩ := h
 exact ⟨a, c, b, d, he, s1, s2, f1, f2, hk⟩
theorem field_span (v0 v1 v2 v3 v4 : Value) (w : World) : Sem.run Tryz.prog (Instr.field 28 (.agg #[v0, v1, v2, v3, v4]) 1) w = .ok (.agg #[v1, v2, v3, v4]) w := by kernel_rfl
theorem field_end0 (v1 v2 v3 v4 : Value) (w : World) : Sem.run Tryz.prog (Instr.field 26 (.agg #[v1, v2, v3, v4]) 0) w = .ok (.agg #[v1, v2]) w := by kernel_rfl
theorem field_end1 (v1 v2 v3 v4 : Value) (w : World) : Sem.run Tryz.prog (Instr.field 26 (.agg #[v1, v2, v3, v4]) 1) w = .ok (.agg #[v3, v4]) w := by kernel_rfl
theorem toNat_of (k : Nat) : ((k : Int)).toNat = k := rfl
theorem mulS_zz {k : Nat} {x y z : Z2} (hP : isP (k : Int) = true) (fx : Fit2 x) (fy : Fit2 y) (fz : Fit2 z) (hz : z = mul2 k x y) :
  mulS (k : Int) (isNeg x.lo) (mag x.lo) (isNeg x.hi) (mag x.hi) (isNeg y.lo) (mag y.lo) (isNeg y.hi) (mag y.hi) = ⟨0, z.lo, z.hi⟩ := by
 unfold mulS mulLow mulHigh
 rw [askS_ok hP (fit_fault2 fx fy)]
 simp only [sv_mag, outZ_f, outZ_c, toNat_of]
 subst hz
 exact fit_S fz
theorem sq_low {x : Z2} : sqLow (isNeg x.lo) (mag x.lo) (isNeg x.hi) (mag x.hi) = sqL x := by
 unfold sqLow hasZ sqL
 simp only [sv_mag]
 by_cases h : x.lo ≤ 0 ∧ 0 ≤ x.hi
 ·rw [if_pos h, if_pos (by rw [isNeg_no h.2]; simpa using h.1)]
 ·rw [if_neg h, if_neg]
  intro e
  refine h ?_
  by_cases h2 : x.hi < 0
  ·rw [isNeg_yes h2] at e; simp at e
  ·rw [isNeg_no (by omega)] at e; exact ⟨by simpa using e, by omega⟩
theorem sqS_zz {k : Nat} {x z : Z2} (hP : isP (k : Int) = true) (fx : Fit2 x) (fz : Fit2 z) (hz : z = sq2 k x) :
  sqS (k : Int) (isNeg x.lo) (mag x.lo) (isNeg x.hi) (mag x.hi) = ⟨0, z.lo, z.hi⟩ := by
 unfold sqS sqHigh
 rw [askS_ok hP (fit_fault fx), sq_low]
 simp only [sv_mag, outZ_f, outZ_c, toNat_of]
 subst hz
 exact fit_S fz
theorem addS_zz {x y z : Z2} (fx : Fit2 x) (fy : Fit2 y) (fz : Fit2 z) (hz : z = add2 x y) :
  addS (isNeg x.lo) (mag x.lo) (isNeg x.hi) (mag x.hi) (isNeg y.lo) (mag y.lo) (isNeg y.hi) (mag y.hi) = ⟨0, z.lo, z.hi⟩ := by
 unfold addS
 rw [twoS_zero (fit_fault2 fx fy)]
 simp only [sv_mag]
 subst hz
 exact fit_S fz
theorem subS_zz {x y z : Z2} (fx : Fit2 x) (fy : Fit2 y) (fz : Fit2 z) (hz : z = sub2 x y) :
  subS (isNeg x.lo) (mag x.lo) (isNeg x.hi) (mag x.hi) (isNeg y.lo) (mag y.lo) (isNeg y.hi) (mag y.hi) = ⟨0, z.lo, z.hi⟩ := by
 unfold subS
 rw [twoS_zero (fit_fault2 fx fy)]
 simp only [sv_mag]
 subst hz
 exact fit_S fz
theorem fit_ok {x : Z2} (h : Fit2 x) : SpanOk (isNeg x.lo) (mag x.lo) (isNeg x.hi) (mag x.hi) := spanFault_zero (fit_fault h)
theorem MulSpan_zz (k : Nat) (x1 x2 : Int) (a b : Option Addr) (c d : Nat) (y1 y2 : Int) (a' b' : Option Addr) (c' d' : Nat) (z1 z2 : Int) (w : World) (h1 : Sl w a (mag x1).length c (mag x1)) (h2 : Sl w b (mag x2).length d (mag x2)) (h3 : Sl w a' (mag y1).length c' (mag y1)) (h4 : Sl w b' (mag y2).length d' (mag y2)) (hP : isP (k : Int) = true) (fx : Fit2 ⟨x1, x2⟩) (fy : Fit2 ⟨y1, y2⟩) (fz : Fit2 ⟨z1, z2⟩) (hz : (⟨z1, z2⟩ : Z2) = mul2 k ⟨x1, x2⟩ ⟨y1, y2⟩) :
  Calls Tryz.prog 94 #[.int .i64 (k : Int), .agg #[.bool (isNeg x1), .slice a (mag x1).length c, .bool (isNeg x2), .slice b (mag x2).length d], .agg #[.bool (isNeg y1), .slice a' (mag y1).length c', .bool (isNeg y2), .slice b' (mag y2).length d']] w (SpanRZ w z1 z2) := by
 have h := MulSpan_any (k : Int) (isNeg x1) (isNeg x2) a b _ c _ d (mag x1) (mag x2) (isNeg y1) (isNeg y2) a' b' _ c' _ d' (mag y1) (mag y2) w h1 h2 h3 h4
 rw [mulS_zz (x := ⟨x1, x2⟩) (y := ⟨y1, y2⟩) (z := ⟨z1, z2⟩) hP fx fy fz hz] at h
 exact h.mono fun e w' h => spanRZ_of h

theorem SquareSpan_zz (k : Nat) (x1 x2 : Int) (a b : Option Addr) (c d : Nat) (z1 z2 : Int) (w : World) (h1 : Sl w a (mag x1).length c (mag x1)) (h2 : Sl w b (mag x2).length d (mag x2)) (hP : isP (k : Int) = true) (fx : Fit2 ⟨x1, x2⟩) (fz : Fit2 ⟨z1, z2⟩) (hz : (⟨z1, z2⟩ : Z2) = sq2 k ⟨x1, x2⟩) :
  Calls Tryz.prog 120 #[.int .i64 (k : Int), .agg #[.bool (isNeg x1), .slice a (mag x1).length c, .bool (isNeg x2), .slice b (mag x2).length d]] w (SpanRZ w z1 z2) := by
 have h := SquareSpan_any (k : Int) (isNeg x1) (isNeg x2) a b _ c _ d (mag x1) (mag x2) w h1 h2
 rw [sqS_zz (x := ⟨x1, x2⟩) (z := ⟨z1, z2⟩) hP fx fz hz] at h
 exact h.mono fun e w' h => spanRZ_of h

theorem AddSpan_zz (x1 x2 : Int) (a b : Option Addr) (c d : Nat) (y1 y2 : Int) (a' b' : Option Addr) (c' d' : Nat) (z1 z2 : Int) (w : World) (h1 : Sl w a (mag x1).length c (mag x1)) (h2 : Sl w b (mag x2).length d (mag x2)) (h3 : Sl w a' (mag y1).length c' (mag y1)) (h4 : Sl w b' (mag y2).length d' (mag y2)) (fx : Fit2 ⟨x1, x2⟩) (fy : Fit2 ⟨y1, y2⟩) (fz : Fit2 ⟨z1, z2⟩) (hz : (⟨z1, z2⟩ : Z2) = add2 ⟨x1, x2⟩ ⟨y1, y2⟩) :
  Calls Tryz.prog 104 #[.agg #[.bool (isNeg x1), .slice a (mag x1).length c, .bool (isNeg x2), .slice b (mag x2).length d], .agg #[.bool (isNeg y1), .slice a' (mag y1).length c', .bool (isNeg y2), .slice b' (mag y2).length d']] w (SpanRZ w z1 z2) := by
 have h := AddSpan_any (isNeg x1) (isNeg x2) a b _ c _ d (mag x1) (mag x2) (isNeg y1) (isNeg y2) a' b' _ c' _ d' (mag y1) (mag y2) w h1 h2 h3 h4
 rw [addS_zz (x := ⟨x1, x2⟩) (y := ⟨y1, y2⟩) (z := ⟨z1, z2⟩) fx fy fz hz] at h
 exact h.mono fun e w' h => spanRZ_of h

theorem SubSpan_zz (x1 x2 : Int) (a b : Option Addr) (c d : Nat) (y1 y2 : Int) (a' b' : Option Addr) (c' d' : Nat) (z1 z2 : Int) (w : World) (h1 : Sl w a (mag x1).length c (mag x1)) (h2 : Sl w b (mag x2).length d (mag x2)) (h3 : Sl w a' (mag y1).length c' (mag y1)) (h4 : Sl w b' (mag y2).length d' (mag y2)) (fx : Fit2 ⟨x1, x2⟩) (fy : Fit2 ⟨y1, y2⟩) (fz : Fit2 ⟨z1, z2⟩) (hz : (⟨z1, z2⟩ : Z2) = sub2 ⟨x1, x2⟩ ⟨y1, y2⟩) :
  Calls Tryz.prog 65 #[.agg #[.bool (isNeg x1), .slice a (mag x1).length c, .bool (isNeg x2), .slice b (mag x2).length d], .agg #[.bool (isNeg y1), .slice a' (mag y1).length c', .bool (isNeg y2), .slice b' (mag y2).length d']] w (SpanRZ w z1 z2) := by
 have h := SubSpan_any (isNeg x1) (isNeg x2) a b _ c _ d (mag x1) (mag x2) (isNeg y1) (isNeg y2) a' b' _ c' _ d' (mag y1) (mag y2) w h1 h2 h3 h4
 rw [subS_zz (x := ⟨x1, x2⟩) (y := ⟨y1, y2⟩) (z := ⟨z1, z2⟩) fx fy fz hz] at h
 exact h.mono fun e w' h => spanRZ_of h

theorem OneSpan_zz (k : Nat) (u : Int) (w : World) (hP : isP (k : Int) = true) (hu : u = p2 k) : Calls Tryz.prog 80 #[.int .i64 (k : Int)] w (SpanRZ w u u) := by
 have h := OneSpan_any (k : Int) w
 rw [show oneS (k : Int) = ⟨0, u, u⟩ from by unfold oneS; rw [if_pos hP, hu]; rfl] at h
 exact h.mono fun e w' h => spanRZ_of h
theorem divs_n {n : Int} (hn : 0 < n) : isNeg n = false ∧ val (mag n) = n ∧ (mag n).length ≠ 0 := by
 refine ⟨isNeg_no (by omega), by rw [val_mag, if_neg (by omega)], fun e => ?_⟩
 have h1 : mag n = [] := List.eq_nil_of_length_eq_zero e
 have h2 : val (mag n) = n := by rw [val_mag, if_neg (by omega)]
 rw [h1] at h2; simp [val] at h2; omega
theorem FloorDiv_n (x n z : Int) (a b : Option Addr) (c d : Nat) (w : World) (h : Sl w a (mag x).length c (mag x)) (h' : Sl w b (mag n).length d (mag n)) (lx : (mag x).length ≤ 20) (ln : (mag n).length ≤ 20) (hn : 0 < n) (hz : z = x / n) :
  Calls Tryz.prog 111 #[.agg #[.bool (isNeg x), .slice a (mag x).length c], .agg #[.bool (isNeg n), .slice b (mag n).length d]] w (BigZ w z) := by
 obtain ⟨e1, e2, e3⟩ := divs_n hn
 refine FloorDiv_z _ _ _ _ _ _ _ _ _ _ z w h h' (bigOk_of (by omega)) (bigOk_of (by omega)) e3 (by omega) ?_
 rw [e1, e2, divZ_f hn]; exact hz
theorem CeilDiv_n (x n z : Int) (a b : Option Addr) (c d : Nat) (w : World) (h : Sl w a (mag x).length c (mag x)) (h' : Sl w b (mag n).length d (mag n)) (lx : (mag x).length ≤ 20) (ln : (mag n).length ≤ 20) (hn : 0 < n) (hz : z = cdiv x n) :
  Calls Tryz.prog 112 #[.agg #[.bool (isNeg x), .slice a (mag x).length c], .agg #[.bool (isNeg n), .slice b (mag n).length d]] w (BigZ w z) := by
 obtain ⟨e1, e2, e3⟩ := divs_n hn
 refine CeilDiv_z _ _ _ _ _ _ _ _ _ _ z w h h' (bigOk_of (by omega)) (bigOk_of (by omega)) e3 (by omega) ?_
 rw [e1, e2, divZ_c hn]; exact hz
theorem SubBigs_n (x y z : Int) (a b : Option Addr) (c d : Nat) (w : World) (h : Sl w a (mag x).length c (mag x)) (h' : Sl w b (mag y).length d (mag y)) (lx : (mag x).length ≤ 20) (ly : (mag y).length ≤ 20) (hz : z = x - y) :
  Calls Tryz.prog 118 #[.agg #[.bool (isNeg x), .slice a (mag x).length c], .agg #[.bool (isNeg y), .slice b (mag y).length d]] w (BigZ w z) :=
 SubBigs_z _ _ _ _ _ _ _ _ _ _ z w h h' (bigOk_of (by omega)) (bigOk_of (by omega)) lx ly (by rw [sv_mag, sv_mag]; exact hz)
theorem SubBigs_0 (y z : Int) (b : Option Addr) (d : Nat) (w : World) (h' : Sl w b (mag y).length d (mag y)) (ly : (mag y).length ≤ 20) (hz : z = -y) :
  Calls Tryz.prog 118 #[.agg #[.bool false, .slice none 0 0], .agg #[.bool (isNeg y), .slice b (mag y).length d]] w (BigZ w z) := by
 have h := SubBigs_n 0 y z none b 0 d w (by rw [mag_zero]; exact Sl.nil _) h' (by rw [mag_zero]; simp) ly (by omega)
 rw [isNeg_zero, mag_zero] at h; exact h
theorem small_len {n : Int} (h : -9223372036854775808 ≤ n) (h' : n ≤ 9223372036854775807) : (mag n).length ≤ 20 := len20 (M := 9223372036854775808) (by omega) (by omega) (by omega)
end Go.Proofs.YtfafjijoeanbhaaGreat
