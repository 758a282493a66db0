/-
  Contracts of l4One, OneSpan and its model. No condition but that the precision is an int64.
-/
import Derived.Deep.RegionHeld3
import Derived.Deep.DrawnRows
import Derived.Deep.DeepCutAuto
import Derived.Test.YtklgaclhpifdiaaOneA
import Derived.Test.YtklgaclhpifdiaaPrec
import Derived.Test.YtklgaclhpifdiaaSpanG
import Derived.Test.YtklgaclhpifdiaaSpanF
namespace Go.Proofs.Ytklgaclhpifdiaa
open Go.RowKit

/-- 1 alone, in units. -/
def oneS (P : Int) : SV := if isP P = true then ⟨0, p2 P.toNat, p2 P.toNat⟩ else noSpan 3
theorem p2_mag_len {k : Nat} (hk : k ≤ 96) : (mag (p2 k)).length ≤ 7 := by rw [mag_no (by have := p2_pos k; omega)]; exact p2_len hk
theorem oneS_short (P : Int) : Short (oneS P) := by
  unfold oneS; split
  · rename_i hP
    have := p2_mag_len (k := P.toNat) (by rcases isP_cases hP with h | h | h <;> omega)
    exact ⟨by show (mag (p2 P.toNat)).length ≤ 20; omega, by show (mag (p2 P.toNat)).length ≤ 20; omega⟩
  · exact noSpan_short 3
theorem oneInUnits_z (k : Nat) (z : Int) (w : World) (hk : k ≤ 96) (hz : z = p2 k) :
    Calls Try.prog 55 #[.int .i64 (k : Int)] w (BigV w.heap.size w z) := by
  refine (oneInUnits_any k w hk).mono fun e w' h => ?_
  obtain ⟨g, rfl, hg, hb, hk'⟩ := h
  have h0 := p2_pos k
  have hm : mag z = digits (p2 k) := by rw [hz, mag_no (by omega)]
  have hn : isNeg z = false := by rw [hz]; exact isNeg_no (by omega)
  have hl := p2_len hk
  exact ⟨some ⟨g, 0, none⟩, (digits (p2 k)).length, by rw [hm, hn], by rw [hm]; exact Sl.ofBlk hb (by omega), by rw [hm]; intro _ x hx; cases hx; exact hg, hk'⟩
set_option maxHeartbeats 1000000 in
theorem firstSpanFault_nil (w : World) : Calls Try.prog 31 #[.slice none 0 0] w (Ans w (.int .i64 0)) := by
  go_enter Try.func31, Try.ntmps31
  go_wp2
  refine wp_loop_rounds 1 ?_
  rw [rounds_succ]
  go_wp2
  go_ret
  exact ⟨rfl, Kept.refl _ _⟩
set_option maxHeartbeats 1000000 in
theorem precisionFault_nil (P : Int) (w : World) : Calls Try.prog 42 #[.int .i64 P, .slice none 0 0] w (Ans w (.int .i64 (precS P 0))) := by
  by_cases hP : isP P = true
  · rw [show precS P 0 = 0 from if_pos hP]
    have HP := Lib.hid hP
    clear hP
    go_enter Try.func42, Try.ntmps42
    go_wp2_with fail
    refine (isPrecision_same _ _).mono ?_
    rintro e w1 ⟨rfl, rfl⟩
    rw [HP.out]
    go_wp2_with fail
    refine (firstSpanFault_nil _).mono ?_
    rintro e w2 ⟨rfl, hk⟩
    have HK := Lib.hid hk
    clear hk
    go_wp2_with fail
    go_ret
    exact ⟨rfl, HK.out⟩
  · rw [show precS P 0 = 3 from if_neg hP]
    have HP := Lib.hid (show isP P = false by simpa using hP)
    clear hP
    go_enter Try.func42, Try.ntmps42
    go_wp2_with fail
    refine (isPrecision_same _ _).mono ?_
    rintro e w1 ⟨rfl, rfl⟩
    rw [HP.out]
    go_wp2_with fail
    go_ret
    exact ⟨rfl, Kept.refl _ _⟩

set_option maxHeartbeats 2000000 in
set_option maxRecDepth 20000 in
theorem l4One_any (k : Nat) (z : Int) (w : World) (hk : k ≤ 96) (hz : z = p2 k) :
    Calls Try.prog 54 #[.int .i64 (k : Int)] w (SpanV w z z) := by
  have HZ := Lib.hid hz
  clear hz
  go_enter Try.func54, Try.ntmps54
  go_wp2_with fail
  generalize hW : (w.alloc (.cells #[.bool false, .slice none 0 0, .bool false, .slice none 0 0] 30)) = ww0
  have hkk : Kept [] (w.alloc (.cells #[.bool false, .slice none 0 0, .bool false, .slice none 0 0] 30)) ww0 := by rw [hW]; exact Kept.refl _ _
  have zzA : w.heap.size + 1 = ww0.heap.size := by rw [← hW]; simp
  have nR0 := Lib.hid (hkk.top (g := w.heap.size) (by simp) (by simp) 0 (v := .bool false) rfl).1
  have fR0 := Lib.hid (hkk.top (g := w.heap.size) (by simp) (by simp) 0 (v := .bool false) rfl).2.1
  have nR1 := Lib.hid (hkk.top (g := w.heap.size) (by simp) (by simp) 1 (v := .slice none 0 0) rfl).1
  have fR1 := Lib.hid (hkk.top (g := w.heap.size) (by simp) (by simp) 1 (v := .slice none 0 0) rfl).2.1
  have nR2 := Lib.hid (hkk.top (g := w.heap.size) (by simp) (by simp) 2 (v := .bool false) rfl).1
  have fR2 := Lib.hid (hkk.top (g := w.heap.size) (by simp) (by simp) 2 (v := .bool false) rfl).2.1
  have nR3 := Lib.hid (hkk.top (g := w.heap.size) (by simp) (by simp) 3 (v := .slice none 0 0) rfl).1
  have fR3 := Lib.hid (hkk.top (g := w.heap.size) (by simp) (by simp) 3 (v := .slice none 0 0) rfl).2.1
  have hk := hkk.peel
  clear hkk hW
  have z0 := hk.size
  have KT := Lib.hid hk
  clear hk
  refine (l3Unit_any k z _ hk HZ.out).mono ?_
  rintro e ww1 ⟨a1, c1, rfl, hs1, hf1, hk1⟩
  have S1 := Lib.hid hs1
  have G1 := Lib.hid hf1
  clear hs1 hf1
  replace G1 := Lib.hid (G1.out.mono (B' := w.heap.size + 1) (by omega))
  have z1 := hk1.size
  replace fR0 := Lib.hid (hk1.free' (p := ⟨w.heap.size, 0, none⟩) nR0.out fR0.out (by simp))
  replace fR1 := Lib.hid (hk1.free' (p := ⟨w.heap.size, 1, none⟩) nR1.out fR1.out (by simp))
  replace fR2 := Lib.hid (hk1.free' (p := ⟨w.heap.size, 2, none⟩) nR2.out fR2.out (by simp))
  replace fR3 := Lib.hid (hk1.free' (p := ⟨w.heap.size, 3, none⟩) nR3.out fR3.out (by simp))
  replace nR0 := Lib.hid (hk1.cell (p := ⟨w.heap.size, 0, none⟩) nR0.out (by simp))
  replace nR1 := Lib.hid (hk1.cell (p := ⟨w.heap.size, 1, none⟩) nR1.out (by simp))
  replace nR2 := Lib.hid (hk1.cell (p := ⟨w.heap.size, 2, none⟩) nR2.out (by simp))
  replace nR3 := Lib.hid (hk1.cell (p := ⟨w.heap.size, 3, none⟩) nR3.out (by simp))
  replace KT := Lib.hid (KT.out.trans0 hk1)
  clear hk1
  go_wp2_with fail
  refine (l3Unit_any k z _ hk HZ.out).mono ?_
  rintro e ww2 ⟨a2, c2, rfl, hs2, hf2, hk1⟩
  have S2 := Lib.hid hs2
  have G2 := Lib.hid hf2
  clear hs2 hf2
  replace G2 := Lib.hid (G2.out.mono (B' := w.heap.size + 1) (by omega))
  have z2 := hk1.size
  replace fR0 := Lib.hid (hk1.free' (p := ⟨w.heap.size, 0, none⟩) nR0.out fR0.out (by simp))
  replace fR1 := Lib.hid (hk1.free' (p := ⟨w.heap.size, 1, none⟩) nR1.out fR1.out (by simp))
  replace fR2 := Lib.hid (hk1.free' (p := ⟨w.heap.size, 2, none⟩) nR2.out fR2.out (by simp))
  replace fR3 := Lib.hid (hk1.free' (p := ⟨w.heap.size, 3, none⟩) nR3.out fR3.out (by simp))
  replace nR0 := Lib.hid (hk1.cell (p := ⟨w.heap.size, 0, none⟩) nR0.out (by simp))
  replace nR1 := Lib.hid (hk1.cell (p := ⟨w.heap.size, 1, none⟩) nR1.out (by simp))
  replace nR2 := Lib.hid (hk1.cell (p := ⟨w.heap.size, 2, none⟩) nR2.out (by simp))
  replace nR3 := Lib.hid (hk1.cell (p := ⟨w.heap.size, 3, none⟩) nR3.out (by simp))
  replace S1 := Lib.hid (S1.out.kept0 hk1)
  replace KT := Lib.hid (KT.out.trans0 hk1)
  clear hk1
  have tR0 := nR0.out
  have tR1 := nR1.out
  have tR2 := nR2.out
  have tR3 := nR3.out
  have uR0 := fR0.out
  have uR1 := fR1.out
  have uR2 := fR2.out
  have uR3 := fR3.out
  go_wp2_with fail
  clear tR0 tR1 tR2 tR3 uR0 uR1 uR2 uR3
  obtain ⟨p9, hp9⟩ : ∃ r, r = isNeg z := ⟨_, rfl⟩
  rw [← hp9]
  generalize hW : ((((ww2.setCell ⟨w.heap.size, 0, none⟩ (.bool p9)).setCell ⟨w.heap.size, 1, none⟩ (.slice a1 (mag z).length c1)).setCell ⟨w.heap.size, 2, none⟩ (.bool p9)).setCell ⟨w.heap.size, 3, none⟩ (.slice a2 (mag z).length c2)) = ww3
  have hk : Kept [w.heap.size] ww2 ww3 := by rw [← hW]; exact ((((Kept.refl _ _).setCell _ _ (by simp)).setCell _ _ (by simp)).setCell _ _ (by simp)).setCell _ _ (by simp)
  have hfz : ∀ x, ww3.frozen? x = ww2.frozen? x := by rw [← hW]; intro x; simp only [World.frozen?_setCell]
  have e0 : ww3.cell? ⟨w.heap.size, 0, none⟩ = some (.bool p9) := by rw [← hW]; rw [World.cell?_setCell_other _ _ _ _ (by simp), World.cell?_setCell_other _ _ _ _ (by simp), World.cell?_setCell_other _ _ _ _ (by simp)]; exact World.cell?_setCell_same _ _ _ (by exact nR0.out)
  have e1 : ww3.cell? ⟨w.heap.size, 1, none⟩ = some (.slice a1 (mag z).length c1) := by rw [← hW]; rw [World.cell?_setCell_other _ _ _ _ (by simp), World.cell?_setCell_other _ _ _ _ (by simp)]; exact World.cell?_setCell_same _ _ _ (by rw [World.cell?_setCell_other _ _ _ _ (by simp)]; exact nR1.out)
  have e2 : ww3.cell? ⟨w.heap.size, 2, none⟩ = some (.bool p9) := by rw [← hW]; rw [World.cell?_setCell_other _ _ _ _ (by simp)]; exact World.cell?_setCell_same _ _ _ (by rw [World.cell?_setCell_other _ _ _ _ (by simp), World.cell?_setCell_other _ _ _ _ (by simp)]; exact nR2.out)
  have e3 : ww3.cell? ⟨w.heap.size, 3, none⟩ = some (.slice a2 (mag z).length c2) := by rw [← hW]; exact World.cell?_setCell_same _ _ _ (by rw [World.cell?_setCell_other _ _ _ _ (by simp), World.cell?_setCell_other _ _ _ _ (by simp), World.cell?_setCell_other _ _ _ _ (by simp)]; exact nR3.out)
  have z3 := hk.size
  replace fR0 := Lib.hid (show ww3.frozen? ⟨w.heap.size, 0, none⟩ = false by rw [hfz]; exact fR0.out)
  replace fR1 := Lib.hid (show ww3.frozen? ⟨w.heap.size, 1, none⟩ = false by rw [hfz]; exact fR1.out)
  replace fR2 := Lib.hid (show ww3.frozen? ⟨w.heap.size, 2, none⟩ = false by rw [hfz]; exact fR2.out)
  replace fR3 := Lib.hid (show ww3.frozen? ⟨w.heap.size, 3, none⟩ = false by rw [hfz]; exact fR3.out)
  replace S1 := Lib.hid (S1.out.kept hk (fun hn y hy hm => by have h9 := G1.out hn y hy; simp at hm; omega))
  replace S2 := Lib.hid (S2.out.kept hk (fun hn y hy hm => by have h9 := G2.out hn y hy; simp at hm; omega))
  replace nR0 := Lib.hid e0
  replace nR1 := Lib.hid e1
  replace nR2 := Lib.hid e2
  replace nR3 := Lib.hid e3
  replace KT := Lib.hid (KT.out.trans hk (fun x hx hlt => by simp at hx; omega))
  clear hk hfz hW e0 e1 e2 e3
  have HP9 := Lib.hid hp9
  clear hp9
  go_wp2_with fail
  have e0 := nR0.out
  have e1 := nR1.out
  have e2 := nR2.out
  have e3 := nR3.out
  refine bodyPost_ret (v := .agg #[.bool p9, .slice a1 (mag z).length c1, .bool p9, .slice a2 (mag z).length c2]) (by simp [results, Try.results54, go_sem, e0, e1, e2, e3]) rfl ?_
  exact spanV_fin HP9.out HP9.out S1.out S2.out (G1.out.mono (by omega)) (G2.out.mono (by omega)) KT.out

set_option maxHeartbeats 4000000 in
set_option maxRecDepth 20000 in
theorem sOneSpan_any (P : Int) (w : World) :
    Calls Try.prog 23 #[.int .i64 P] w (SpanM w (oneS P)) := by
  by_cases hP : isP P = true
  · skip
    obtain ⟨k, rfl⟩ : ∃ k : Nat, P = (k : Int) := ⟨P.toNat, by rcases isP_cases hP with h | h | h <;> omega⟩
    have hk96 : k ≤ 96 := by rcases isP_cases hP with h | h | h <;> omega
    obtain ⟨z, hz⟩ : ∃ z, z = p2 k := ⟨_, rfl⟩
    have hl7 : (mag z).length ≤ 7 := by rw [hz]; exact p2_mag_len hk96
    rw [show oneS (k : Int) = ⟨0, z, z⟩ from by unfold oneS; rw [if_pos hP, hz]; rfl]
    have HZ := Lib.hid hz
    clear hz
    have HP := Lib.hid hP
    clear hP
    go_enter Try.func23, Try.ntmps23
    go_wp2_with fail
    generalize hW : (w.alloc (.cells #[.int .i64 0, .bool false, .slice none 0 0, .bool false, .slice none 0 0] 32)) = ww0
    have hkk : Kept [] (w.alloc (.cells #[.int .i64 0, .bool false, .slice none 0 0, .bool false, .slice none 0 0] 32)) ww0 := by rw [hW]; exact Kept.refl _ _
    have zzA : w.heap.size + 1 = ww0.heap.size := by rw [← hW]; simp
    have nR0 := Lib.hid (hkk.top (g := w.heap.size) (by simp) (by simp) 0 (v := .int .i64 0) rfl).1
    have fR0 := Lib.hid (hkk.top (g := w.heap.size) (by simp) (by simp) 0 (v := .int .i64 0) rfl).2.1
    have nR1 := Lib.hid (hkk.top (g := w.heap.size) (by simp) (by simp) 1 (v := .bool false) rfl).1
    have fR1 := Lib.hid (hkk.top (g := w.heap.size) (by simp) (by simp) 1 (v := .bool false) rfl).2.1
    have nR2 := Lib.hid (hkk.top (g := w.heap.size) (by simp) (by simp) 2 (v := .slice none 0 0) rfl).1
    have fR2 := Lib.hid (hkk.top (g := w.heap.size) (by simp) (by simp) 2 (v := .slice none 0 0) rfl).2.1
    have nR3 := Lib.hid (hkk.top (g := w.heap.size) (by simp) (by simp) 3 (v := .bool false) rfl).1
    have fR3 := Lib.hid (hkk.top (g := w.heap.size) (by simp) (by simp) 3 (v := .bool false) rfl).2.1
    have nR4 := Lib.hid (hkk.top (g := w.heap.size) (by simp) (by simp) 4 (v := .slice none 0 0) rfl).1
    have fR4 := Lib.hid (hkk.top (g := w.heap.size) (by simp) (by simp) 4 (v := .slice none 0 0) rfl).2.1
    have hk := hkk.peel
    clear hkk hW
    have z0 := hk.size
    have KT := Lib.hid hk
    clear hk
    refine (l3Prec_any _ _).mono ?_
    rintro e ww1 ⟨rfl, hk⟩
    rw [HP.out]
    have z1 := hk.size
    replace fR0 := Lib.hid (hk.free' (p := ⟨w.heap.size, 0, none⟩) nR0.out fR0.out (by simp))
    replace fR1 := Lib.hid (hk.free' (p := ⟨w.heap.size, 1, none⟩) nR1.out fR1.out (by simp))
    replace fR2 := Lib.hid (hk.free' (p := ⟨w.heap.size, 2, none⟩) nR2.out fR2.out (by simp))
    replace fR3 := Lib.hid (hk.free' (p := ⟨w.heap.size, 3, none⟩) nR3.out fR3.out (by simp))
    replace fR4 := Lib.hid (hk.free' (p := ⟨w.heap.size, 4, none⟩) nR4.out fR4.out (by simp))
    replace nR0 := Lib.hid (hk.cell (p := ⟨w.heap.size, 0, none⟩) nR0.out (by simp))
    replace nR1 := Lib.hid (hk.cell (p := ⟨w.heap.size, 1, none⟩) nR1.out (by simp))
    replace nR2 := Lib.hid (hk.cell (p := ⟨w.heap.size, 2, none⟩) nR2.out (by simp))
    replace nR3 := Lib.hid (hk.cell (p := ⟨w.heap.size, 3, none⟩) nR3.out (by simp))
    replace nR4 := Lib.hid (hk.cell (p := ⟨w.heap.size, 4, none⟩) nR4.out (by simp))
    replace KT := Lib.hid (KT.out.trans0 hk)
    clear hk
    go_wp2_with fail
    refine (l4One_any k z _ hk96 HZ.out).mono ?_
    rintro e ww2 ⟨a1, c1, a2, c2, rfl, hs1, hs2, hf1, hf2, hk⟩
    have S1 := Lib.hid hs1
    have G1 := Lib.hid hf1
    clear hs1 hf1
    have S2 := Lib.hid hs2
    have G2 := Lib.hid hf2
    clear hs2 hf2
    replace G1 := Lib.hid (G1.out.mono (B' := w.heap.size + 1) (by omega))
    replace G2 := Lib.hid (G2.out.mono (B' := w.heap.size + 1) (by omega))
    have z2 := hk.size
    replace fR0 := Lib.hid (hk.free' (p := ⟨w.heap.size, 0, none⟩) nR0.out fR0.out (by simp))
    replace fR1 := Lib.hid (hk.free' (p := ⟨w.heap.size, 1, none⟩) nR1.out fR1.out (by simp))
    replace fR2 := Lib.hid (hk.free' (p := ⟨w.heap.size, 2, none⟩) nR2.out fR2.out (by simp))
    replace fR3 := Lib.hid (hk.free' (p := ⟨w.heap.size, 3, none⟩) nR3.out fR3.out (by simp))
    replace fR4 := Lib.hid (hk.free' (p := ⟨w.heap.size, 4, none⟩) nR4.out fR4.out (by simp))
    replace nR0 := Lib.hid (hk.cell (p := ⟨w.heap.size, 0, none⟩) nR0.out (by simp))
    replace nR1 := Lib.hid (hk.cell (p := ⟨w.heap.size, 1, none⟩) nR1.out (by simp))
    replace nR2 := Lib.hid (hk.cell (p := ⟨w.heap.size, 2, none⟩) nR2.out (by simp))
    replace nR3 := Lib.hid (hk.cell (p := ⟨w.heap.size, 3, none⟩) nR3.out (by simp))
    replace nR4 := Lib.hid (hk.cell (p := ⟨w.heap.size, 4, none⟩) nR4.out (by simp))
    replace KT := Lib.hid (KT.out.trans0 hk)
    clear hk
    have tR0 := nR0.out
    have tR1 := nR1.out
    have tR2 := nR2.out
    have tR3 := nR3.out
    have tR4 := nR4.out
    have uR0 := fR0.out
    have uR1 := fR1.out
    have uR2 := fR2.out
    have uR3 := fR3.out
    have uR4 := fR4.out
    go_wp2_with fail
    clear tR0 tR1 tR2 tR3 tR4 uR0 uR1 uR2 uR3 uR4
    generalize hW : (((((ww2.setCell ⟨w.heap.size, 0, none⟩ (.int .i64 0)).setCell ⟨w.heap.size, 1, none⟩ (.bool (isNeg z))).setCell ⟨w.heap.size, 2, none⟩ (.slice a1 (mag z).length c1)).setCell ⟨w.heap.size, 3, none⟩ (.bool (isNeg z))).setCell ⟨w.heap.size, 4, none⟩ (.slice a2 (mag z).length c2)) = ww3
    have hk : Kept [w.heap.size] ww2 ww3 := by rw [← hW]; exact (((((Kept.refl _ _).setCell _ _ (by simp)).setCell _ _ (by simp)).setCell _ _ (by simp)).setCell _ _ (by simp)).setCell _ _ (by simp)
    have hfz : ∀ x, ww3.frozen? x = ww2.frozen? x := by rw [← hW]; intro x; simp only [World.frozen?_setCell]
    have e0 : ww3.cell? ⟨w.heap.size, 0, none⟩ = some (.int .i64 0) := by rw [← hW]; rw [World.cell?_setCell_other _ _ _ _ (by simp), World.cell?_setCell_other _ _ _ _ (by simp), World.cell?_setCell_other _ _ _ _ (by simp), World.cell?_setCell_other _ _ _ _ (by simp)]; exact World.cell?_setCell_same _ _ _ (by exact nR0.out)
    have e1 : ww3.cell? ⟨w.heap.size, 1, none⟩ = some (.bool (isNeg z)) := by rw [← hW]; rw [World.cell?_setCell_other _ _ _ _ (by simp), World.cell?_setCell_other _ _ _ _ (by simp), World.cell?_setCell_other _ _ _ _ (by simp)]; exact World.cell?_setCell_same _ _ _ (by rw [World.cell?_setCell_other _ _ _ _ (by simp)]; exact nR1.out)
    have e2 : ww3.cell? ⟨w.heap.size, 2, none⟩ = some (.slice a1 (mag z).length c1) := by rw [← hW]; rw [World.cell?_setCell_other _ _ _ _ (by simp), World.cell?_setCell_other _ _ _ _ (by simp)]; exact World.cell?_setCell_same _ _ _ (by rw [World.cell?_setCell_other _ _ _ _ (by simp), World.cell?_setCell_other _ _ _ _ (by simp)]; exact nR2.out)
    have e3 : ww3.cell? ⟨w.heap.size, 3, none⟩ = some (.bool (isNeg z)) := by rw [← hW]; rw [World.cell?_setCell_other _ _ _ _ (by simp)]; exact World.cell?_setCell_same _ _ _ (by rw [World.cell?_setCell_other _ _ _ _ (by simp), World.cell?_setCell_other _ _ _ _ (by simp), World.cell?_setCell_other _ _ _ _ (by simp)]; exact nR3.out)
    have e4 : ww3.cell? ⟨w.heap.size, 4, none⟩ = some (.slice a2 (mag z).length c2) := by rw [← hW]; exact World.cell?_setCell_same _ _ _ (by rw [World.cell?_setCell_other _ _ _ _ (by simp), World.cell?_setCell_other _ _ _ _ (by simp), World.cell?_setCell_other _ _ _ _ (by simp), World.cell?_setCell_other _ _ _ _ (by simp)]; exact nR4.out)
    have z3 := hk.size
    replace fR0 := Lib.hid (show ww3.frozen? ⟨w.heap.size, 0, none⟩ = false by rw [hfz]; exact fR0.out)
    replace fR1 := Lib.hid (show ww3.frozen? ⟨w.heap.size, 1, none⟩ = false by rw [hfz]; exact fR1.out)
    replace fR2 := Lib.hid (show ww3.frozen? ⟨w.heap.size, 2, none⟩ = false by rw [hfz]; exact fR2.out)
    replace fR3 := Lib.hid (show ww3.frozen? ⟨w.heap.size, 3, none⟩ = false by rw [hfz]; exact fR3.out)
    replace fR4 := Lib.hid (show ww3.frozen? ⟨w.heap.size, 4, none⟩ = false by rw [hfz]; exact fR4.out)
    replace S1 := Lib.hid (S1.out.kept hk (fun hn y hy hm => by have h9 := G1.out hn y hy; simp at hm; omega))
    replace S2 := Lib.hid (S2.out.kept hk (fun hn y hy hm => by have h9 := G2.out hn y hy; simp at hm; omega))
    replace nR0 := Lib.hid e0
    replace nR1 := Lib.hid e1
    replace nR2 := Lib.hid e2
    replace nR3 := Lib.hid e3
    replace nR4 := Lib.hid e4
    replace KT := Lib.hid (KT.out.trans hk (fun x hx hlt => by simp at hx; omega))
    clear hk hfz hW e0 e1 e2 e3 e4
    have e0 := nR0.out
    have e1 := nR1.out
    have e2 := nR2.out
    have e3 := nR3.out
    have e4 := nR4.out
    refine bodyPost_ret (v := .agg #[.int .i64 0, .bool (isNeg z), .slice a1 (mag z).length c1, .bool (isNeg z), .slice a2 (mag z).length c2]) (by simp [results, Try.results23, go_sem, e0, e1, e2, e3, e4]) rfl ?_
    exact ⟨a1, c1, a2, c2, rfl, S1.out, S2.out, G1.out.mono (by omega), G2.out.mono (by omega), KT.out⟩
  · skip
    rw [show oneS P = noSpan 3 from by unfold oneS; rw [if_neg hP]]
    have HP := Lib.hid (show isP P = false by simpa using hP)
    clear hP
    go_enter Try.func23, Try.ntmps23
    go_wp2_with fail
    generalize hW : (w.alloc (.cells #[.int .i64 0, .bool false, .slice none 0 0, .bool false, .slice none 0 0] 32)) = ww0
    have hkk : Kept [] (w.alloc (.cells #[.int .i64 0, .bool false, .slice none 0 0, .bool false, .slice none 0 0] 32)) ww0 := by rw [hW]; exact Kept.refl _ _
    have zzA : w.heap.size + 1 = ww0.heap.size := by rw [← hW]; simp
    have nR0 := Lib.hid (hkk.top (g := w.heap.size) (by simp) (by simp) 0 (v := .int .i64 0) rfl).1
    have fR0 := Lib.hid (hkk.top (g := w.heap.size) (by simp) (by simp) 0 (v := .int .i64 0) rfl).2.1
    have nR1 := Lib.hid (hkk.top (g := w.heap.size) (by simp) (by simp) 1 (v := .bool false) rfl).1
    have fR1 := Lib.hid (hkk.top (g := w.heap.size) (by simp) (by simp) 1 (v := .bool false) rfl).2.1
    have nR2 := Lib.hid (hkk.top (g := w.heap.size) (by simp) (by simp) 2 (v := .slice none 0 0) rfl).1
    have fR2 := Lib.hid (hkk.top (g := w.heap.size) (by simp) (by simp) 2 (v := .slice none 0 0) rfl).2.1
    have nR3 := Lib.hid (hkk.top (g := w.heap.size) (by simp) (by simp) 3 (v := .bool false) rfl).1
    have fR3 := Lib.hid (hkk.top (g := w.heap.size) (by simp) (by simp) 3 (v := .bool false) rfl).2.1
    have nR4 := Lib.hid (hkk.top (g := w.heap.size) (by simp) (by simp) 4 (v := .slice none 0 0) rfl).1
    have fR4 := Lib.hid (hkk.top (g := w.heap.size) (by simp) (by simp) 4 (v := .slice none 0 0) rfl).2.1
    have hk := hkk.peel
    clear hkk hW
    have z0 := hk.size
    have KT := Lib.hid hk
    clear hk
    refine (l3Prec_any _ _).mono ?_
    rintro e ww1 ⟨rfl, hk⟩
    rw [HP.out]
    have z1 := hk.size
    replace fR0 := Lib.hid (hk.free' (p := ⟨w.heap.size, 0, none⟩) nR0.out fR0.out (by simp))
    replace fR1 := Lib.hid (hk.free' (p := ⟨w.heap.size, 1, none⟩) nR1.out fR1.out (by simp))
    replace fR2 := Lib.hid (hk.free' (p := ⟨w.heap.size, 2, none⟩) nR2.out fR2.out (by simp))
    replace fR3 := Lib.hid (hk.free' (p := ⟨w.heap.size, 3, none⟩) nR3.out fR3.out (by simp))
    replace fR4 := Lib.hid (hk.free' (p := ⟨w.heap.size, 4, none⟩) nR4.out fR4.out (by simp))
    replace nR0 := Lib.hid (hk.cell (p := ⟨w.heap.size, 0, none⟩) nR0.out (by simp))
    replace nR1 := Lib.hid (hk.cell (p := ⟨w.heap.size, 1, none⟩) nR1.out (by simp))
    replace nR2 := Lib.hid (hk.cell (p := ⟨w.heap.size, 2, none⟩) nR2.out (by simp))
    replace nR3 := Lib.hid (hk.cell (p := ⟨w.heap.size, 3, none⟩) nR3.out (by simp))
    replace nR4 := Lib.hid (hk.cell (p := ⟨w.heap.size, 4, none⟩) nR4.out (by simp))
    replace KT := Lib.hid (KT.out.trans0 hk)
    clear hk
    have tR0 := nR0.out
    have tR1 := nR1.out
    have tR2 := nR2.out
    have tR3 := nR3.out
    have tR4 := nR4.out
    have uR0 := fR0.out
    have uR1 := fR1.out
    have uR2 := fR2.out
    have uR3 := fR3.out
    have uR4 := fR4.out
    go_wp2_with fail
    clear tR0 tR1 tR2 tR3 tR4 uR0 uR1 uR2 uR3 uR4
    generalize hW : (((((ww1.setCell ⟨w.heap.size, 0, none⟩ (.int .i64 3)).setCell ⟨w.heap.size, 1, none⟩ (.bool false)).setCell ⟨w.heap.size, 2, none⟩ (.slice none 0 0)).setCell ⟨w.heap.size, 3, none⟩ (.bool false)).setCell ⟨w.heap.size, 4, none⟩ (.slice none 0 0)) = ww2
    have hk : Kept [w.heap.size] ww1 ww2 := by rw [← hW]; exact (((((Kept.refl _ _).setCell _ _ (by simp)).setCell _ _ (by simp)).setCell _ _ (by simp)).setCell _ _ (by simp)).setCell _ _ (by simp)
    have hfz : ∀ x, ww2.frozen? x = ww1.frozen? x := by rw [← hW]; intro x; simp only [World.frozen?_setCell]
    have e0 : ww2.cell? ⟨w.heap.size, 0, none⟩ = some (.int .i64 3) := by rw [← hW]; rw [World.cell?_setCell_other _ _ _ _ (by simp), World.cell?_setCell_other _ _ _ _ (by simp), World.cell?_setCell_other _ _ _ _ (by simp), World.cell?_setCell_other _ _ _ _ (by simp)]; exact World.cell?_setCell_same _ _ _ (by exact nR0.out)
    have e1 : ww2.cell? ⟨w.heap.size, 1, none⟩ = some (.bool false) := by rw [← hW]; rw [World.cell?_setCell_other _ _ _ _ (by simp), World.cell?_setCell_other _ _ _ _ (by simp), World.cell?_setCell_other _ _ _ _ (by simp)]; exact World.cell?_setCell_same _ _ _ (by rw [World.cell?_setCell_other _ _ _ _ (by simp)]; exact nR1.out)
    have e2 : ww2.cell? ⟨w.heap.size, 2, none⟩ = some (.slice none 0 0) := by rw [← hW]; rw [World.cell?_setCell_other _ _ _ _ (by simp), World.cell?_setCell_other _ _ _ _ (by simp)]; exact World.cell?_setCell_same _ _ _ (by rw [World.cell?_setCell_other _ _ _ _ (by simp), World.cell?_setCell_other _ _ _ _ (by simp)]; exact nR2.out)
    have e3 : ww2.cell? ⟨w.heap.size, 3, none⟩ = some (.bool false) := by rw [← hW]; rw [World.cell?_setCell_other _ _ _ _ (by simp)]; exact World.cell?_setCell_same _ _ _ (by rw [World.cell?_setCell_other _ _ _ _ (by simp), World.cell?_setCell_other _ _ _ _ (by simp), World.cell?_setCell_other _ _ _ _ (by simp)]; exact nR3.out)
    have e4 : ww2.cell? ⟨w.heap.size, 4, none⟩ = some (.slice none 0 0) := by rw [← hW]; exact World.cell?_setCell_same _ _ _ (by rw [World.cell?_setCell_other _ _ _ _ (by simp), World.cell?_setCell_other _ _ _ _ (by simp), World.cell?_setCell_other _ _ _ _ (by simp), World.cell?_setCell_other _ _ _ _ (by simp)]; exact nR4.out)
    have z2 := hk.size
    replace fR0 := Lib.hid (show ww2.frozen? ⟨w.heap.size, 0, none⟩ = false by rw [hfz]; exact fR0.out)
    replace fR1 := Lib.hid (show ww2.frozen? ⟨w.heap.size, 1, none⟩ = false by rw [hfz]; exact fR1.out)
    replace fR2 := Lib.hid (show ww2.frozen? ⟨w.heap.size, 2, none⟩ = false by rw [hfz]; exact fR2.out)
    replace fR3 := Lib.hid (show ww2.frozen? ⟨w.heap.size, 3, none⟩ = false by rw [hfz]; exact fR3.out)
    replace fR4 := Lib.hid (show ww2.frozen? ⟨w.heap.size, 4, none⟩ = false by rw [hfz]; exact fR4.out)
    replace nR0 := Lib.hid e0
    replace nR1 := Lib.hid e1
    replace nR2 := Lib.hid e2
    replace nR3 := Lib.hid e3
    replace nR4 := Lib.hid e4
    replace KT := Lib.hid (KT.out.trans hk (fun x hx hlt => by simp at hx; omega))
    clear hk hfz hW e0 e1 e2 e3 e4
    have e0 := nR0.out
    have e1 := nR1.out
    have e2 := nR2.out
    have e3 := nR3.out
    have e4 := nR4.out
    refine bodyPost_ret (v := .agg #[.int .i64 3, .bool false, .slice none 0 0, .bool false, .slice none 0 0]) (by simp [results, Try.results23, go_sem, e0, e1, e2, e3, e4]) rfl ?_
    exact spanM_no KT.out

set_option maxHeartbeats 4000000 in
set_option maxRecDepth 20000 in
theorem OneSpan_any (P : Int) (w : World) :
    Calls Try.prog 24 #[.int .i64 P] w (SpanR w (oneS P)) := by
  by_cases hP : isP P = true
  · skip
    have HP := Lib.hid (show precS P 0 = 0 from if_pos hP)
    obtain ⟨k, rfl⟩ : ∃ k : Nat, P = (k : Int) := ⟨P.toNat, by rcases isP_cases hP with h | h | h <;> omega⟩
    have hk96 : k ≤ 96 := by rcases isP_cases hP with h | h | h <;> omega
    obtain ⟨z, hz⟩ : ∃ z, z = p2 k := ⟨_, rfl⟩
    have hl7 : (mag z).length ≤ 7 := by rw [hz]; exact p2_mag_len hk96
    rw [show oneS (k : Int) = ⟨0, z, z⟩ from by unfold oneS; rw [if_pos hP, hz]; rfl]
    have HZ := Lib.hid hz
    clear hz
    have HR := Lib.hid (show (⟨0, z, z⟩ : SV) = fitS z z from (fitS_ok (by omega) (by omega)).symm)
    clear hP
    obtain ⟨r, hr⟩ : ∃ r : SV, r = ⟨0, z, z⟩ := ⟨_, rfl⟩
    rw [← hr] at HR ⊢
    clear hr
    go_enter Try.func24, Try.ntmps24
    go_wp2_with fail
    generalize hW : (w.alloc (.cells #[.int .i64 0, .bool false, .slice none 0 0, .bool false, .slice none 0 0] 32)) = ww0
    have hkk : Kept [] (w.alloc (.cells #[.int .i64 0, .bool false, .slice none 0 0, .bool false, .slice none 0 0] 32)) ww0 := by rw [hW]; exact Kept.refl _ _
    have zzA : w.heap.size + 1 = ww0.heap.size := by rw [← hW]; simp
    have nR0 := Lib.hid (hkk.top (g := w.heap.size) (by simp) (by simp) 0 (v := .int .i64 0) rfl).1
    have fR0 := Lib.hid (hkk.top (g := w.heap.size) (by simp) (by simp) 0 (v := .int .i64 0) rfl).2.1
    have nR1 := Lib.hid (hkk.top (g := w.heap.size) (by simp) (by simp) 1 (v := .bool false) rfl).1
    have fR1 := Lib.hid (hkk.top (g := w.heap.size) (by simp) (by simp) 1 (v := .bool false) rfl).2.1
    have nR2 := Lib.hid (hkk.top (g := w.heap.size) (by simp) (by simp) 2 (v := .slice none 0 0) rfl).1
    have fR2 := Lib.hid (hkk.top (g := w.heap.size) (by simp) (by simp) 2 (v := .slice none 0 0) rfl).2.1
    have nR3 := Lib.hid (hkk.top (g := w.heap.size) (by simp) (by simp) 3 (v := .bool false) rfl).1
    have fR3 := Lib.hid (hkk.top (g := w.heap.size) (by simp) (by simp) 3 (v := .bool false) rfl).2.1
    have nR4 := Lib.hid (hkk.top (g := w.heap.size) (by simp) (by simp) 4 (v := .slice none 0 0) rfl).1
    have fR4 := Lib.hid (hkk.top (g := w.heap.size) (by simp) (by simp) 4 (v := .slice none 0 0) rfl).2.1
    have hk := hkk.peel
    clear hkk hW
    have z0 := hk.size
    have KT := Lib.hid hk
    clear hk
    refine (precisionFault_nil _ _).mono ?_
    rintro e ww1 ⟨rfl, hk⟩
    rw [HP.out]
    have z1 := hk.size
    replace fR0 := Lib.hid (hk.free' (p := ⟨w.heap.size, 0, none⟩) nR0.out fR0.out (by simp))
    replace fR1 := Lib.hid (hk.free' (p := ⟨w.heap.size, 1, none⟩) nR1.out fR1.out (by simp))
    replace fR2 := Lib.hid (hk.free' (p := ⟨w.heap.size, 2, none⟩) nR2.out fR2.out (by simp))
    replace fR3 := Lib.hid (hk.free' (p := ⟨w.heap.size, 3, none⟩) nR3.out fR3.out (by simp))
    replace fR4 := Lib.hid (hk.free' (p := ⟨w.heap.size, 4, none⟩) nR4.out fR4.out (by simp))
    replace nR0 := Lib.hid (hk.cell (p := ⟨w.heap.size, 0, none⟩) nR0.out (by simp))
    replace nR1 := Lib.hid (hk.cell (p := ⟨w.heap.size, 1, none⟩) nR1.out (by simp))
    replace nR2 := Lib.hid (hk.cell (p := ⟨w.heap.size, 2, none⟩) nR2.out (by simp))
    replace nR3 := Lib.hid (hk.cell (p := ⟨w.heap.size, 3, none⟩) nR3.out (by simp))
    replace nR4 := Lib.hid (hk.cell (p := ⟨w.heap.size, 4, none⟩) nR4.out (by simp))
    replace KT := Lib.hid (KT.out.trans0 hk)
    clear hk
    go_wp2_with fail
    refine (oneInUnits_z k z _ hk96 HZ.out).mono ?_
    rintro e ww2 ⟨a1, c1, rfl, hs1, hf1, hk⟩
    have S1 := Lib.hid hs1
    have G1 := Lib.hid hf1
    clear hs1 hf1
    have z2 := hk.size
    replace fR0 := Lib.hid (hk.free' (p := ⟨w.heap.size, 0, none⟩) nR0.out fR0.out (by simp))
    replace fR1 := Lib.hid (hk.free' (p := ⟨w.heap.size, 1, none⟩) nR1.out fR1.out (by simp))
    replace fR2 := Lib.hid (hk.free' (p := ⟨w.heap.size, 2, none⟩) nR2.out fR2.out (by simp))
    replace fR3 := Lib.hid (hk.free' (p := ⟨w.heap.size, 3, none⟩) nR3.out fR3.out (by simp))
    replace fR4 := Lib.hid (hk.free' (p := ⟨w.heap.size, 4, none⟩) nR4.out fR4.out (by simp))
    replace nR0 := Lib.hid (hk.cell (p := ⟨w.heap.size, 0, none⟩) nR0.out (by simp))
    replace nR1 := Lib.hid (hk.cell (p := ⟨w.heap.size, 1, none⟩) nR1.out (by simp))
    replace nR2 := Lib.hid (hk.cell (p := ⟨w.heap.size, 2, none⟩) nR2.out (by simp))
    replace nR3 := Lib.hid (hk.cell (p := ⟨w.heap.size, 3, none⟩) nR3.out (by simp))
    replace nR4 := Lib.hid (hk.cell (p := ⟨w.heap.size, 4, none⟩) nR4.out (by simp))
    replace KT := Lib.hid (KT.out.trans0 hk)
    clear hk
    go_upto_region 5 with fail
    generalize hW : (ww2.alloc (.cells #[.bool (isNeg z), .slice a1 (mag z).length c1] 28)) = ww3
    have hk : Kept [] ww2 ww3 := by rw [← hW]; exact (Kept.refl [] _).alloc _
    have zzU : ww2.heap.size + 1 = ww3.heap.size := by rw [← hW]; simp
    have nU0 := Lib.hid (show ww3.cell? ⟨ww2.heap.size, 0, none⟩ = some (.bool (isNeg z)) by rw [← hW, World.cell?_alloc_new]; rfl)
    have nU1 := Lib.hid (show ww3.cell? ⟨ww2.heap.size, 1, none⟩ = some (.slice a1 (mag z).length c1) by rw [← hW, World.cell?_alloc_new]; rfl)
    clear hW
    have z3 := hk.size
    replace fR0 := Lib.hid (hk.free' (p := ⟨w.heap.size, 0, none⟩) nR0.out fR0.out (by simp))
    replace fR1 := Lib.hid (hk.free' (p := ⟨w.heap.size, 1, none⟩) nR1.out fR1.out (by simp))
    replace fR2 := Lib.hid (hk.free' (p := ⟨w.heap.size, 2, none⟩) nR2.out fR2.out (by simp))
    replace fR3 := Lib.hid (hk.free' (p := ⟨w.heap.size, 3, none⟩) nR3.out fR3.out (by simp))
    replace fR4 := Lib.hid (hk.free' (p := ⟨w.heap.size, 4, none⟩) nR4.out fR4.out (by simp))
    replace nR0 := Lib.hid (hk.cell (p := ⟨w.heap.size, 0, none⟩) nR0.out (by simp))
    replace nR1 := Lib.hid (hk.cell (p := ⟨w.heap.size, 1, none⟩) nR1.out (by simp))
    replace nR2 := Lib.hid (hk.cell (p := ⟨w.heap.size, 2, none⟩) nR2.out (by simp))
    replace nR3 := Lib.hid (hk.cell (p := ⟨w.heap.size, 3, none⟩) nR3.out (by simp))
    replace nR4 := Lib.hid (hk.cell (p := ⟨w.heap.size, 4, none⟩) nR4.out (by simp))
    replace S1 := Lib.hid (S1.out.kept0 hk)
    replace KT := Lib.hid (KT.out.trans0 hk)
    clear hk
    have tU0 := nU0.out
    have tU1 := nU1.out
    go_wp2_with fail
    clear tU0 tU1
    refine (spanResult_any _ _ _ _ _ _ _ _ _ S1.out S1.out).mono ?_
    rintro e ww4 ⟨a3, c3, b3, d3, rfl, hs3, hs4, hf3, hf4, hne, hk⟩
    clear S1
    rw [← HR.out] at hs3 hs4 hf3 hf4 hne ⊢
    have G3 := Lib.hid (hf3.mono (B' := w.heap.size + 1) (by omega))
    have G4 := Lib.hid (hf4.mono (B' := w.heap.size + 1) (by omega))
    have z4 := hk.size
    replace fR0 := Lib.hid (hk.free' (p := ⟨w.heap.size, 0, none⟩) nR0.out fR0.out (by simp))
    replace fR1 := Lib.hid (hk.free' (p := ⟨w.heap.size, 1, none⟩) nR1.out fR1.out (by simp))
    replace fR2 := Lib.hid (hk.free' (p := ⟨w.heap.size, 2, none⟩) nR2.out fR2.out (by simp))
    replace fR3 := Lib.hid (hk.free' (p := ⟨w.heap.size, 3, none⟩) nR3.out fR3.out (by simp))
    replace fR4 := Lib.hid (hk.free' (p := ⟨w.heap.size, 4, none⟩) nR4.out fR4.out (by simp))
    replace nR0 := Lib.hid (hk.cell (p := ⟨w.heap.size, 0, none⟩) nR0.out (by simp))
    replace nR1 := Lib.hid (hk.cell (p := ⟨w.heap.size, 1, none⟩) nR1.out (by simp))
    replace nR2 := Lib.hid (hk.cell (p := ⟨w.heap.size, 2, none⟩) nR2.out (by simp))
    replace nR3 := Lib.hid (hk.cell (p := ⟨w.heap.size, 3, none⟩) nR3.out (by simp))
    replace nR4 := Lib.hid (hk.cell (p := ⟨w.heap.size, 4, none⟩) nR4.out (by simp))
    replace nU0 := Lib.hid (hk.cell (p := ⟨ww2.heap.size, 0, none⟩) nU0.out (by simp))
    replace nU1 := Lib.hid (hk.cell (p := ⟨ww2.heap.size, 1, none⟩) nU1.out (by simp))
    replace KT := Lib.hid (KT.out.trans0 hk)
    clear hk
    have hs3 := Lib.hid hs3
    have hs4 := Lib.hid hs4
    have HNE := Lib.hid hne
    clear hf3 hf4 hne
    have tR0 := nR0.out
    have tR1 := nR1.out
    have tR2 := nR2.out
    have tR3 := nR3.out
    have tR4 := nR4.out
    have uR0 := fR0.out
    have uR1 := fR1.out
    have uR2 := fR2.out
    have uR3 := fR3.out
    have uR4 := fR4.out
    go_wp2_with fail
    clear tR0 tR1 tR2 tR3 tR4 uR0 uR1 uR2 uR3 uR4
    generalize hW : (((((ww4.setCell ⟨w.heap.size, 0, none⟩ (.int .i64 r.code)).setCell ⟨w.heap.size, 1, none⟩ (.bool (isNeg r.lo))).setCell ⟨w.heap.size, 2, none⟩ (.slice a3 (mag r.lo).length c3)).setCell ⟨w.heap.size, 3, none⟩ (.bool (isNeg r.hi))).setCell ⟨w.heap.size, 4, none⟩ (.slice b3 (mag r.hi).length d3)) = ww5
    have hk : Kept [w.heap.size] ww4 ww5 := by rw [← hW]; exact (((((Kept.refl _ _).setCell _ _ (by simp)).setCell _ _ (by simp)).setCell _ _ (by simp)).setCell _ _ (by simp)).setCell _ _ (by simp)
    have hfz : ∀ x, ww5.frozen? x = ww4.frozen? x := by rw [← hW]; intro x; simp only [World.frozen?_setCell]
    have e0 : ww5.cell? ⟨w.heap.size, 0, none⟩ = some (.int .i64 r.code) := by rw [← hW]; rw [World.cell?_setCell_other _ _ _ _ (by simp), World.cell?_setCell_other _ _ _ _ (by simp), World.cell?_setCell_other _ _ _ _ (by simp), World.cell?_setCell_other _ _ _ _ (by simp)]; exact World.cell?_setCell_same _ _ _ (by exact nR0.out)
    have e1 : ww5.cell? ⟨w.heap.size, 1, none⟩ = some (.bool (isNeg r.lo)) := by rw [← hW]; rw [World.cell?_setCell_other _ _ _ _ (by simp), World.cell?_setCell_other _ _ _ _ (by simp), World.cell?_setCell_other _ _ _ _ (by simp)]; exact World.cell?_setCell_same _ _ _ (by rw [World.cell?_setCell_other _ _ _ _ (by simp)]; exact nR1.out)
    have e2 : ww5.cell? ⟨w.heap.size, 2, none⟩ = some (.slice a3 (mag r.lo).length c3) := by rw [← hW]; rw [World.cell?_setCell_other _ _ _ _ (by simp), World.cell?_setCell_other _ _ _ _ (by simp)]; exact World.cell?_setCell_same _ _ _ (by rw [World.cell?_setCell_other _ _ _ _ (by simp), World.cell?_setCell_other _ _ _ _ (by simp)]; exact nR2.out)
    have e3 : ww5.cell? ⟨w.heap.size, 3, none⟩ = some (.bool (isNeg r.hi)) := by rw [← hW]; rw [World.cell?_setCell_other _ _ _ _ (by simp)]; exact World.cell?_setCell_same _ _ _ (by rw [World.cell?_setCell_other _ _ _ _ (by simp), World.cell?_setCell_other _ _ _ _ (by simp), World.cell?_setCell_other _ _ _ _ (by simp)]; exact nR3.out)
    have e4 : ww5.cell? ⟨w.heap.size, 4, none⟩ = some (.slice b3 (mag r.hi).length d3) := by rw [← hW]; exact World.cell?_setCell_same _ _ _ (by rw [World.cell?_setCell_other _ _ _ _ (by simp), World.cell?_setCell_other _ _ _ _ (by simp), World.cell?_setCell_other _ _ _ _ (by simp), World.cell?_setCell_other _ _ _ _ (by simp)]; exact nR4.out)
    have z5 := hk.size
    replace fR0 := Lib.hid (show ww5.frozen? ⟨w.heap.size, 0, none⟩ = false by rw [hfz]; exact fR0.out)
    replace fR1 := Lib.hid (show ww5.frozen? ⟨w.heap.size, 1, none⟩ = false by rw [hfz]; exact fR1.out)
    replace fR2 := Lib.hid (show ww5.frozen? ⟨w.heap.size, 2, none⟩ = false by rw [hfz]; exact fR2.out)
    replace fR3 := Lib.hid (show ww5.frozen? ⟨w.heap.size, 3, none⟩ = false by rw [hfz]; exact fR3.out)
    replace fR4 := Lib.hid (show ww5.frozen? ⟨w.heap.size, 4, none⟩ = false by rw [hfz]; exact fR4.out)
    replace nU0 := Lib.hid (hk.cell (p := ⟨ww2.heap.size, 0, none⟩) nU0.out (by simp <;> omega))
    replace nU1 := Lib.hid (hk.cell (p := ⟨ww2.heap.size, 1, none⟩) nU1.out (by simp <;> omega))
    replace hs3 := Lib.hid (hs3.out.kept hk (fun hn y hy hm => by have h9 := G3.out hn y hy; simp at hm; omega))
    replace hs4 := Lib.hid (hs4.out.kept hk (fun hn y hy hm => by have h9 := G4.out hn y hy; simp at hm; omega))
    replace nR0 := Lib.hid e0
    replace nR1 := Lib.hid e1
    replace nR2 := Lib.hid e2
    replace nR3 := Lib.hid e3
    replace nR4 := Lib.hid e4
    replace KT := Lib.hid (KT.out.trans hk (fun x hx hlt => by simp at hx; omega))
    clear hk hfz hW e0 e1 e2 e3 e4
    have e0 := nR0.out
    have e1 := nR1.out
    have e2 := nR2.out
    have e3 := nR3.out
    have e4 := nR4.out
    refine bodyPost_ret (v := .agg #[.int .i64 r.code, .bool (isNeg r.lo), .slice a3 (mag r.lo).length c3, .bool (isNeg r.hi), .slice b3 (mag r.hi).length d3]) (by simp [results, Try.results24, go_sem, e0, e1, e2, e3, e4]) rfl ?_
    exact ⟨a3, c3, b3, d3, rfl, hs3.out, hs4.out, G3.out.mono (by omega), G4.out.mono (by omega), HNE.out, KT.out⟩
  · skip
    rw [show oneS P = noSpan 3 from by unfold oneS; rw [if_neg hP]]
    have HP := Lib.hid (show precS P 0 = 3 from if_neg hP)
    clear hP
    go_enter Try.func24, Try.ntmps24
    go_wp2_with fail
    generalize hW : (w.alloc (.cells #[.int .i64 0, .bool false, .slice none 0 0, .bool false, .slice none 0 0] 32)) = ww0
    have hkk : Kept [] (w.alloc (.cells #[.int .i64 0, .bool false, .slice none 0 0, .bool false, .slice none 0 0] 32)) ww0 := by rw [hW]; exact Kept.refl _ _
    have zzA : w.heap.size + 1 = ww0.heap.size := by rw [← hW]; simp
    have nR0 := Lib.hid (hkk.top (g := w.heap.size) (by simp) (by simp) 0 (v := .int .i64 0) rfl).1
    have fR0 := Lib.hid (hkk.top (g := w.heap.size) (by simp) (by simp) 0 (v := .int .i64 0) rfl).2.1
    have nR1 := Lib.hid (hkk.top (g := w.heap.size) (by simp) (by simp) 1 (v := .bool false) rfl).1
    have fR1 := Lib.hid (hkk.top (g := w.heap.size) (by simp) (by simp) 1 (v := .bool false) rfl).2.1
    have nR2 := Lib.hid (hkk.top (g := w.heap.size) (by simp) (by simp) 2 (v := .slice none 0 0) rfl).1
    have fR2 := Lib.hid (hkk.top (g := w.heap.size) (by simp) (by simp) 2 (v := .slice none 0 0) rfl).2.1
    have nR3 := Lib.hid (hkk.top (g := w.heap.size) (by simp) (by simp) 3 (v := .bool false) rfl).1
    have fR3 := Lib.hid (hkk.top (g := w.heap.size) (by simp) (by simp) 3 (v := .bool false) rfl).2.1
    have nR4 := Lib.hid (hkk.top (g := w.heap.size) (by simp) (by simp) 4 (v := .slice none 0 0) rfl).1
    have fR4 := Lib.hid (hkk.top (g := w.heap.size) (by simp) (by simp) 4 (v := .slice none 0 0) rfl).2.1
    have hk := hkk.peel
    clear hkk hW
    have z0 := hk.size
    have KT := Lib.hid hk
    clear hk
    refine (precisionFault_nil _ _).mono ?_
    rintro e ww1 ⟨rfl, hk⟩
    rw [HP.out]
    have z1 := hk.size
    replace fR0 := Lib.hid (hk.free' (p := ⟨w.heap.size, 0, none⟩) nR0.out fR0.out (by simp))
    replace fR1 := Lib.hid (hk.free' (p := ⟨w.heap.size, 1, none⟩) nR1.out fR1.out (by simp))
    replace fR2 := Lib.hid (hk.free' (p := ⟨w.heap.size, 2, none⟩) nR2.out fR2.out (by simp))
    replace fR3 := Lib.hid (hk.free' (p := ⟨w.heap.size, 3, none⟩) nR3.out fR3.out (by simp))
    replace fR4 := Lib.hid (hk.free' (p := ⟨w.heap.size, 4, none⟩) nR4.out fR4.out (by simp))
    replace nR0 := Lib.hid (hk.cell (p := ⟨w.heap.size, 0, none⟩) nR0.out (by simp))
    replace nR1 := Lib.hid (hk.cell (p := ⟨w.heap.size, 1, none⟩) nR1.out (by simp))
    replace nR2 := Lib.hid (hk.cell (p := ⟨w.heap.size, 2, none⟩) nR2.out (by simp))
    replace nR3 := Lib.hid (hk.cell (p := ⟨w.heap.size, 3, none⟩) nR3.out (by simp))
    replace nR4 := Lib.hid (hk.cell (p := ⟨w.heap.size, 4, none⟩) nR4.out (by simp))
    replace KT := Lib.hid (KT.out.trans0 hk)
    clear hk
    have tR0 := nR0.out
    have tR1 := nR1.out
    have tR2 := nR2.out
    have tR3 := nR3.out
    have tR4 := nR4.out
    have uR0 := fR0.out
    have uR1 := fR1.out
    have uR2 := fR2.out
    have uR3 := fR3.out
    have uR4 := fR4.out
    go_wp2_with fail
    clear tR0 tR1 tR2 tR3 tR4 uR0 uR1 uR2 uR3 uR4
    generalize hW : (((((ww1.setCell ⟨w.heap.size, 0, none⟩ (.int .i64 3)).setCell ⟨w.heap.size, 1, none⟩ (.bool false)).setCell ⟨w.heap.size, 2, none⟩ (.slice none 0 0)).setCell ⟨w.heap.size, 3, none⟩ (.bool false)).setCell ⟨w.heap.size, 4, none⟩ (.slice none 0 0)) = ww2
    have hk : Kept [w.heap.size] ww1 ww2 := by rw [← hW]; exact (((((Kept.refl _ _).setCell _ _ (by simp)).setCell _ _ (by simp)).setCell _ _ (by simp)).setCell _ _ (by simp)).setCell _ _ (by simp)
    have hfz : ∀ x, ww2.frozen? x = ww1.frozen? x := by rw [← hW]; intro x; simp only [World.frozen?_setCell]
    have e0 : ww2.cell? ⟨w.heap.size, 0, none⟩ = some (.int .i64 3) := by rw [← hW]; rw [World.cell?_setCell_other _ _ _ _ (by simp), World.cell?_setCell_other _ _ _ _ (by simp), World.cell?_setCell_other _ _ _ _ (by simp), World.cell?_setCell_other _ _ _ _ (by simp)]; exact World.cell?_setCell_same _ _ _ (by exact nR0.out)
    have e1 : ww2.cell? ⟨w.heap.size, 1, none⟩ = some (.bool false) := by rw [← hW]; rw [World.cell?_setCell_other _ _ _ _ (by simp), World.cell?_setCell_other _ _ _ _ (by simp), World.cell?_setCell_other _ _ _ _ (by simp)]; exact World.cell?_setCell_same _ _ _ (by rw [World.cell?_setCell_other _ _ _ _ (by simp)]; exact nR1.out)
    have e2 : ww2.cell? ⟨w.heap.size, 2, none⟩ = some (.slice none 0 0) := by rw [← hW]; rw [World.cell?_setCell_other _ _ _ _ (by simp), World.cell?_setCell_other _ _ _ _ (by simp)]; exact World.cell?_setCell_same _ _ _ (by rw [World.cell?_setCell_other _ _ _ _ (by simp), World.cell?_setCell_other _ _ _ _ (by simp)]; exact nR2.out)
    have e3 : ww2.cell? ⟨w.heap.size, 3, none⟩ = some (.bool false) := by rw [← hW]; rw [World.cell?_setCell_other _ _ _ _ (by simp)]; exact World.cell?_setCell_same _ _ _ (by rw [World.cell?_setCell_other _ _ _ _ (by simp), World.cell?_setCell_other _ _ _ _ (by simp), World.cell?_setCell_other _ _ _ _ (by simp)]; exact nR3.out)
    have e4 : ww2.cell? ⟨w.heap.size, 4, none⟩ = some (.slice none 0 0) := by rw [← hW]; exact World.cell?_setCell_same _ _ _ (by rw [World.cell?_setCell_other _ _ _ _ (by simp), World.cell?_setCell_other _ _ _ _ (by simp), World.cell?_setCell_other _ _ _ _ (by simp), World.cell?_setCell_other _ _ _ _ (by simp)]; exact nR4.out)
    have z2 := hk.size
    replace fR0 := Lib.hid (show ww2.frozen? ⟨w.heap.size, 0, none⟩ = false by rw [hfz]; exact fR0.out)
    replace fR1 := Lib.hid (show ww2.frozen? ⟨w.heap.size, 1, none⟩ = false by rw [hfz]; exact fR1.out)
    replace fR2 := Lib.hid (show ww2.frozen? ⟨w.heap.size, 2, none⟩ = false by rw [hfz]; exact fR2.out)
    replace fR3 := Lib.hid (show ww2.frozen? ⟨w.heap.size, 3, none⟩ = false by rw [hfz]; exact fR3.out)
    replace fR4 := Lib.hid (show ww2.frozen? ⟨w.heap.size, 4, none⟩ = false by rw [hfz]; exact fR4.out)
    replace nR0 := Lib.hid e0
    replace nR1 := Lib.hid e1
    replace nR2 := Lib.hid e2
    replace nR3 := Lib.hid e3
    replace nR4 := Lib.hid e4
    replace KT := Lib.hid (KT.out.trans hk (fun x hx hlt => by simp at hx; omega))
    clear hk hfz hW e0 e1 e2 e3 e4
    have e0 := nR0.out
    have e1 := nR1.out
    have e2 := nR2.out
    have e3 := nR3.out
    have e4 := nR4.out
    refine bodyPost_ret (v := .agg #[.int .i64 3, .bool false, .slice none 0 0, .bool false, .slice none 0 0]) (by simp [results, Try.results24, go_sem, e0, e1, e2, e3, e4]) rfl ?_
    exact spanR_no KT.out

end Go.Proofs.Ytklgaclhpifdiaa
