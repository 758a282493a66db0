/-
  Contract of leastOf over a row of bigs. Conditions: the row's bigs have no fault.
-/
import Derived.Deep.RegionHeld3
import Derived.Deep.DrawnRows
import Derived.Deep.DeepCutAuto
import Derived.Test.YtlhiahhpmjiioaaSpanF
import Derived.Test.YtlhiahhpmjiioaaJ1
namespace Go.Proofs.Ytlhiahhpmjiioaa
open Go.RowKit

/-- Block g holds these bigs one behind the other; each has no fault. -/
def RowB (w : World) (g : Nat) (l : List BE) : Prop :=
  ∀ j (h : j < l.length), w.cell? ⟨g, j * 2, none⟩ = some (.bool l[j].neg) ∧ w.cell? ⟨g, j * 2 + 1, none⟩ = some (.slice l[j].ptr l[j].len l[j].cap)
def OkB (w : World) (l : List BE) : Prop := ∀ b ∈ l, Sl w b.ptr b.len b.cap b.limbs ∧ BigOk b.neg b.limbs
theorem RowB.kept {L : List Nat} {w w' : World} {g : Nat} {l : List BE} (h : RowB w g l) (k : Kept L w w') (hg : g ∉ L) : RowB w' g l := fun j hj =>
  ⟨k.cell (p := ⟨g, j * 2, none⟩) (h j hj).1 hg, k.cell (p := ⟨g, j * 2 + 1, none⟩) (h j hj).2 hg⟩
theorem OkB.kept {w w' : World} {l : List BE} (h : OkB w l) (k : Kept [] w w') : OkB w' l := fun b hb => ⟨(h b hb).1.kept0 k, (h b hb).2⟩

set_option maxHeartbeats 4000000 in
set_option maxRecDepth 20000 in
theorem leastOf_isBelow (g : Nat) (e : BE) (t : List BE) (w : World) (h : RowB w g (e :: t)) (ho : OkB w (e :: t)) (hl : t.length < 100) :
    Calls Try.prog 25 #[.func (.func 27) #[] #[], .slice (some ⟨g, 0, none⟩) (t.length + 1) (t.length + 1)] w (Val w (pickF ltZ e t).val) := by
  have HR := Lib.hid h
  have HO := Lib.hid ho
  have hglt : g < w.heap.size := World.block_lt_of_cell? w _ (h 0 (by simp)).1
  have OKW := Lib.hid (show ∀ u, u ∈ (e :: t) → 0 < u.len → ∀ v, u.ptr = some v → v.block < w.heap.size from fun u hu => (ho u hu).1.lt)
  clear h ho
  go_enter Try.func25, Try.ntmps25
  go_wp2_with fail
  generalize hW : ((w.alloc (.cells #[.bool false, .slice none 0 0] 26)).alloc (.cells #[.bool false, .slice none 0 0] 26)) = ww0
  have hkk : Kept [] ((w.alloc (.cells #[.bool false, .slice none 0 0] 26)).alloc (.cells #[.bool false, .slice none 0 0] 26)) ww0 := by rw [hW]; exact Kept.refl _ _
  have zzA : w.heap.size + 1 + 1 = ww0.heap.size := by rw [← hW]; simp
  have hk := hkk.peel.peel
  have R0 := Lib.hid (hkk.peel.top (g := w.heap.size) (by simp) (by simp) 0 (v := .bool false) rfl)
  have R1 := Lib.hid (hkk.peel.top (g := w.heap.size) (by simp) (by simp) 1 (v := .slice none 0 0) rfl)
  have L0 := Lib.hid (hkk.top (g := w.heap.size + 1) (by simp) (by simp) 0 (v := .bool false) rfl)
  have L1 := Lib.hid (hkk.top (g := w.heap.size + 1) (by simp) (by simp) 1 (v := .slice none 0 0) rfl)
  replace HR := Lib.hid (HR.out.kept hk (by simp))
  replace HO := Lib.hid (HO.out.kept hk)
  have KT := Lib.hid hk
  clear hk hkk hW
  go_loopw [10] (fun i wr => ∃ (k : Nat) (c : BE), k ≤ t.length + 1 ∧ i = .int .i64 k ∧ Hid (0 < k → c = pickF ltZ e (t.take (k - 1))) ∧ Hid (Kept [w.heap.size + 1] ww0 wr) ∧
      Hid (OkB wr (e :: t)) ∧
      Hid (∃ x y, wr.cell? ⟨w.heap.size + 1, 0, none⟩ = some x ∧ wr.cell? ⟨w.heap.size + 1, 1, none⟩ = some y ∧ (0 < k → x = .bool c.neg ∧ y = .slice c.ptr c.len c.cap)) ∧
      Hid (wr.frozen? ⟨w.heap.size + 1, 0, none⟩ = false ∧ wr.frozen? ⟨w.heap.size + 1, 1, none⟩ = false)) (fun i _ => t.length + 1 - (intOf i).toNat)
  case atStart => exact ⟨0, e, by omega, rfl, fun h => by omega, Kept.refl _ _, HO.out, ⟨_, _, L0.out.1, L1.out.1, fun h => by omega⟩, L0.out.2.1, L1.out.2.1⟩
  case round =>
    obtain ⟨k, c, hk, rfl, hP, hK, hO, hC, hF⟩ := hrel
    by_cases hlt : k < t.length + 1
    · obtain ⟨x, y, cx, cy, hxy⟩ := hC.out
      obtain ⟨f0, f1⟩ := hF.out
      have hrow := (HR.out.kept hK.out (by simp; omega)) k (by simpa using hlt)
      have hmem : (e :: t)[k] ∈ (e :: t) := List.getElem_mem _
      have hnth : 0 < k → ∀ h9 : k - 1 < t.length, (e :: t)[k] = t[k - 1]'h9 := fun h h9 => by
        obtain ⟨j, rfl⟩ : ∃ j, k = j + 1 := ⟨k - 1, by omega⟩
        rfl
      have hnth0 : k = 0 → (e :: t)[k] = e := fun h => by subst h; rfl
      generalize (e :: t)[k] = b at hrow hmem hnth hnth0
      obtain ⟨r0, r1⟩ := hrow
      have HM := Lib.hid hmem
      have HN := Lib.hid hnth
      have HN0 := Lib.hid hnth0
      have HXY := Lib.hid hxy
      have FL := Lib.hid (And.intro f0 f1)
      have CX := Lib.hid cx
      have CY := Lib.hid cy
      clear hmem hnth hnth0 hxy f0 f1 cx cy
      go_upto_region 5 with fail
      have zk := hK.out.size
      generalize hW1 : (wr.alloc (.cells #[.bool b.neg, .slice b.ptr b.len b.cap] 26)) = w1
      have hkk : Kept [] (wr.alloc (.cells #[.bool b.neg, .slice b.ptr b.len b.cap] 26)) w1 := by rw [hW1]; exact Kept.refl _ _
      have zw1 : wr.heap.size + 1 = w1.heap.size := by rw [← hW1]; simp
      have e0 := (hkk.top (g := wr.heap.size) (by simp) (by simp) 0 (v := .bool b.neg) rfl).1
      have e1 := (hkk.top (g := wr.heap.size) (by simp) (by simp) 1 (v := .slice b.ptr b.len b.cap) rfl).1
      have hk1 := hkk.peel
      have f0 := hk1.free' (p := ⟨w.heap.size + 1, 0, none⟩) CX.out FL.out.1 (by simp)
      have f1 := hk1.free' (p := ⟨w.heap.size + 1, 1, none⟩) CY.out FL.out.2 (by simp)
      have cx := hk1.cell (p := ⟨w.heap.size + 1, 0, none⟩) CX.out (by simp)
      have cy := hk1.cell (p := ⟨w.heap.size + 1, 1, none⟩) CY.out (by simp)
      have hO1 := Lib.hid (hO.out.kept hk1)
      have hK1 := Lib.hid (hK.out.trans0 hk1)
      clear hk1 hkk hW1 r0 r1
      by_cases h0 : k = 0
      · have hb := Lib.hid (HN0.out h0)
        subst h0
        clear HN0
        go_wp2_with fail
        obtain ⟨_, s0, s1⟩ := cells2 (.bool b.neg) (.slice b.ptr b.len b.cap) cx cy
        have hk2 : Kept [w.heap.size + 1] w1 ((w1.setCell ⟨w.heap.size + 1, 0, none⟩ (.bool b.neg)).setCell ⟨w.heap.size + 1, 1, none⟩ (.slice b.ptr b.len b.cap)) := ((Kept.refl _ _).setCell _ _ (by simp)).setCell _ _ (by simp)
        have hfz : ∀ x, ((w1.setCell ⟨w.heap.size + 1, 0, none⟩ (.bool b.neg)).setCell ⟨w.heap.size + 1, 1, none⟩ (.slice b.ptr b.len b.cap)).frozen? x = w1.frozen? x := by intro x; simp only [World.frozen?_setCell]
        have hO2 : OkB ((w1.setCell ⟨w.heap.size + 1, 0, none⟩ (.bool b.neg)).setCell ⟨w.heap.size + 1, 1, none⟩ (.slice b.ptr b.len b.cap)) (e :: t) := fun u hu => ⟨(hO1.out u hu).1.kept hk2 (fun hn v hv hm => by
          have h9 := OKW.out u hu hn v hv
          simp at hm; omega), (hO1.out u hu).2⟩
        generalize ((w1.setCell ⟨w.heap.size + 1, 0, none⟩ (.bool b.neg)).setCell ⟨w.heap.size + 1, 1, none⟩ (.slice b.ptr b.len b.cap)) = w2 at *
        have hK2 := Lib.hid (hK1.out.trans hk2 (by simp))
        have S0 := Lib.hid s0
        have S1 := Lib.hid s1
        have HZ := Lib.hid hfz
        have HO2 := Lib.hid hO2
        have FF := Lib.hid (And.intro f0 f1)
        clear s0 s1 hfz hO2 hk2 cx cy f0 f1 e0 e1
        go_roundw
        case rel => exact ⟨1, b, by omega, by go_num, fun _ => by rw [hb.out]; rfl, hK2, HO2, ⟨_, _, S0.out, S1.out, fun _ => ⟨rfl, rfl⟩⟩, by rw [HZ.out]; exact FF.out.1, by rw [HZ.out]; exact FF.out.2⟩
        case measure => simp [intOf]
      · have hpos : 0 < k := by omega
        obtain ⟨rfl, rfl⟩ := HXY.out hpos
        have hc := hP.out hpos
        have hb := HN.out hpos (by omega)
        have hcm : c ∈ (e :: t) := by
          rw [hc]
          rcases pick_mem ltZ (t.take (k - 1)) e with h | h
          · rw [h]; exact List.mem_cons_self
          · exact List.mem_cons_of_mem _ (List.mem_of_mem_take h)
        have hsnoc : pickF ltZ e (t.take (k + 1 - 1)) = if ltZ b.z c.z = true then b else c := by
          rw [show k + 1 - 1 = k - 1 + 1 by omega, take_get (by omega), pick_snoc, ← hb, ← hc]
        have HS := Lib.hid hsnoc
        have HCM := Lib.hid hcm
        obtain ⟨r, hr⟩ : ∃ r, r = ltZ b.z c.z := ⟨_, rfl⟩
        have HD := Lib.hid hr.symm
        clear hr
        have hne : ((k : Int) == 0) = false := by rw [beq_eq_false_iff_ne]; omega
        have hks : IntKind.i64.wrap ((k : Int) + 1) = (k : Int) + 1 := IntWalk.i64_in _ (by omega)
        clear hsnoc hcm hc hb
        cases r
        · go_wp2_with (refine (isBelow_any _ _ _ _ _ _ _ _ _ _ _ _ (hO1.out b HM.out).1 (hO1.out c HCM.out).1 (hO1.out b HM.out).2 (hO1.out c HCM.out).2 HD.out).mono ?_; rintro e9 w2 ⟨rfl, hk2⟩)
          have S0 := Lib.hid (hk2.cell (p := ⟨w.heap.size + 1, 0, none⟩) cx (by simp))
          have S1 := Lib.hid (hk2.cell (p := ⟨w.heap.size + 1, 1, none⟩) cy (by simp))
          have FF := Lib.hid (And.intro (hk2.free' (p := ⟨w.heap.size + 1, 0, none⟩) cx f0 (by simp)) (hk2.free' (p := ⟨w.heap.size + 1, 1, none⟩) cy f1 (by simp)))
          have HO2 := Lib.hid (hO1.out.kept hk2)
          have hK2 := Lib.hid (hK1.out.trans0 hk2)
          clear hk2 cx cy f0 f1 e0 e1
          go_roundw
          case rel => exact ⟨k + 1, c, by omega, by go_num, fun _ => by rw [HS.out, HD.out]; rfl, hK2, HO2, ⟨_, _, S0.out, S1.out, fun _ => ⟨rfl, rfl⟩⟩, FF.out.1, FF.out.2⟩
          case measure => simp [intOf]; omega
        · go_wp2_with (refine (isBelow_any _ _ _ _ _ _ _ _ _ _ _ _ (hO1.out b HM.out).1 (hO1.out c HCM.out).1 (hO1.out b HM.out).2 (hO1.out c HCM.out).2 HD.out).mono ?_; rintro e9 w2 ⟨rfl, hk2⟩; have cx2 := hk2.cell (p := ⟨w.heap.size + 1, 0, none⟩) cx (by simp); have cy2 := hk2.cell (p := ⟨w.heap.size + 1, 1, none⟩) cy (by simp); have g0 := hk2.free' (p := ⟨w.heap.size + 1, 0, none⟩) cx f0 (by simp); have g1 := hk2.free' (p := ⟨w.heap.size + 1, 1, none⟩) cy f1 (by simp); have d0 := hk2.cell (p := ⟨wr.heap.size, 0, none⟩) e0 (by simp); have d1 := hk2.cell (p := ⟨wr.heap.size, 1, none⟩) e1 (by simp))
          have hO1' := Lib.hid (hO1.out.kept hk2)
          have hK1' := Lib.hid (hK1.out.trans0 hk2)
          obtain ⟨_, s0, s1⟩ := cells2 (.bool b.neg) (.slice b.ptr b.len b.cap) cx2 cy2
          have hk3 : Kept [w.heap.size + 1] w2 ((w2.setCell ⟨w.heap.size + 1, 0, none⟩ (.bool b.neg)).setCell ⟨w.heap.size + 1, 1, none⟩ (.slice b.ptr b.len b.cap)) := ((Kept.refl _ _).setCell _ _ (by simp)).setCell _ _ (by simp)
          have hfz : ∀ x, ((w2.setCell ⟨w.heap.size + 1, 0, none⟩ (.bool b.neg)).setCell ⟨w.heap.size + 1, 1, none⟩ (.slice b.ptr b.len b.cap)).frozen? x = w2.frozen? x := by intro x; simp only [World.frozen?_setCell]
          have hO2 : OkB ((w2.setCell ⟨w.heap.size + 1, 0, none⟩ (.bool b.neg)).setCell ⟨w.heap.size + 1, 1, none⟩ (.slice b.ptr b.len b.cap)) (e :: t) := fun u hu => ⟨(hO1'.out u hu).1.kept hk3 (fun hn v hv hm => by
            have h9 := OKW.out u hu hn v hv
            simp at hm; omega), (hO1'.out u hu).2⟩
          generalize ((w2.setCell ⟨w.heap.size + 1, 0, none⟩ (.bool b.neg)).setCell ⟨w.heap.size + 1, 1, none⟩ (.slice b.ptr b.len b.cap)) = w3 at *
          have hK2 := Lib.hid (hK1'.out.trans hk3 (by simp))
          have S0 := Lib.hid s0
          have S1 := Lib.hid s1
          have HZ := Lib.hid hfz
          have HO2 := Lib.hid hO2
          have FF := Lib.hid (And.intro g0 g1)
          clear s0 s1 hfz hO2 hk3 hk2 cx cy f0 f1 e0 e1 cx2 cy2 g0 g1 d0 d1
          go_roundw
          case rel => exact ⟨k + 1, b, by omega, by go_num, fun _ => by rw [HS.out, HD.out]; rfl, hK2, HO2, ⟨_, _, S0.out, S1.out, fun _ => ⟨rfl, rfl⟩⟩, by rw [HZ.out]; exact FF.out.1, by rw [HZ.out]; exact FF.out.2⟩
          case measure => simp [intOf]; omega
    · have hkl : k = t.length + 1 := by omega
      have hc : c = pickF ltZ e t := by
        have := hP.out (by omega)
        rw [this, take_all (by omega)]
      obtain ⟨x, y, cx, cy, hxy⟩ := hC.out
      obtain ⟨rfl, rfl⟩ := hxy (by omega)
      have g0 := hK.out.cell (p := ⟨w.heap.size, 0, none⟩) R0.out.1 (by simp)
      have g1 := hK.out.cell (p := ⟨w.heap.size, 1, none⟩) R1.out.1 (by simp)
      have u0 := hK.out.free' (p := ⟨w.heap.size, 0, none⟩) R0.out.1 R0.out.2.1 (by simp)
      have u1 := hK.out.free' (p := ⟨w.heap.size, 1, none⟩) R1.out.1 R1.out.2.1 (by simp)
      have HC := Lib.hid hc
      have hKw := Lib.hid (KT.out.trans hK.out (fun x hx hlt => by simp at hx; omega))
      clear hc hP
      obtain ⟨_, s0, s1⟩ := cells2 (.bool c.neg) (.slice c.ptr c.len c.cap) g0 g1
      go_wp2_with fail
      refine bodyPost_ret (v := .agg #[.bool c.neg, .slice c.ptr c.len c.cap]) (by simp [results, Try.results25, go_sem, s0, s1]) rfl ⟨by rw [← HC.out]; rfl, (hKw.out.setCell _ _ (by simp)).setCell _ _ (by simp)⟩

set_option maxHeartbeats 4000000 in
set_option maxRecDepth 20000 in
theorem leastOf_isAbove (g : Nat) (e : BE) (t : List BE) (w : World) (h : RowB w g (e :: t)) (ho : OkB w (e :: t)) (hl : t.length < 100) :
    Calls Try.prog 25 #[.func (.func 26) #[] #[], .slice (some ⟨g, 0, none⟩) (t.length + 1) (t.length + 1)] w (Val w (pickF gtZ e t).val) := by
  have HR := Lib.hid h
  have HO := Lib.hid ho
  have hglt : g < w.heap.size := World.block_lt_of_cell? w _ (h 0 (by simp)).1
  have OKW := Lib.hid (show ∀ u, u ∈ (e :: t) → 0 < u.len → ∀ v, u.ptr = some v → v.block < w.heap.size from fun u hu => (ho u hu).1.lt)
  clear h ho
  go_enter Try.func25, Try.ntmps25
  go_wp2_with fail
  generalize hW : ((w.alloc (.cells #[.bool false, .slice none 0 0] 26)).alloc (.cells #[.bool false, .slice none 0 0] 26)) = ww0
  have hkk : Kept [] ((w.alloc (.cells #[.bool false, .slice none 0 0] 26)).alloc (.cells #[.bool false, .slice none 0 0] 26)) ww0 := by rw [hW]; exact Kept.refl _ _
  have zzA : w.heap.size + 1 + 1 = ww0.heap.size := by rw [← hW]; simp
  have hk := hkk.peel.peel
  have R0 := Lib.hid (hkk.peel.top (g := w.heap.size) (by simp) (by simp) 0 (v := .bool false) rfl)
  have R1 := Lib.hid (hkk.peel.top (g := w.heap.size) (by simp) (by simp) 1 (v := .slice none 0 0) rfl)
  have L0 := Lib.hid (hkk.top (g := w.heap.size + 1) (by simp) (by simp) 0 (v := .bool false) rfl)
  have L1 := Lib.hid (hkk.top (g := w.heap.size + 1) (by simp) (by simp) 1 (v := .slice none 0 0) rfl)
  replace HR := Lib.hid (HR.out.kept hk (by simp))
  replace HO := Lib.hid (HO.out.kept hk)
  have KT := Lib.hid hk
  clear hk hkk hW
  go_loopw [10] (fun i wr => ∃ (k : Nat) (c : BE), k ≤ t.length + 1 ∧ i = .int .i64 k ∧ Hid (0 < k → c = pickF gtZ e (t.take (k - 1))) ∧ Hid (Kept [w.heap.size + 1] ww0 wr) ∧
      Hid (OkB wr (e :: t)) ∧
      Hid (∃ x y, wr.cell? ⟨w.heap.size + 1, 0, none⟩ = some x ∧ wr.cell? ⟨w.heap.size + 1, 1, none⟩ = some y ∧ (0 < k → x = .bool c.neg ∧ y = .slice c.ptr c.len c.cap)) ∧
      Hid (wr.frozen? ⟨w.heap.size + 1, 0, none⟩ = false ∧ wr.frozen? ⟨w.heap.size + 1, 1, none⟩ = false)) (fun i _ => t.length + 1 - (intOf i).toNat)
  case atStart => exact ⟨0, e, by omega, rfl, fun h => by omega, Kept.refl _ _, HO.out, ⟨_, _, L0.out.1, L1.out.1, fun h => by omega⟩, L0.out.2.1, L1.out.2.1⟩
  case round =>
    obtain ⟨k, c, hk, rfl, hP, hK, hO, hC, hF⟩ := hrel
    by_cases hlt : k < t.length + 1
    · obtain ⟨x, y, cx, cy, hxy⟩ := hC.out
      obtain ⟨f0, f1⟩ := hF.out
      have hrow := (HR.out.kept hK.out (by simp; omega)) k (by simpa using hlt)
      have hmem : (e :: t)[k] ∈ (e :: t) := List.getElem_mem _
      have hnth : 0 < k → ∀ h9 : k - 1 < t.length, (e :: t)[k] = t[k - 1]'h9 := fun h h9 => by
        obtain ⟨j, rfl⟩ : ∃ j, k = j + 1 := ⟨k - 1, by omega⟩
        rfl
      have hnth0 : k = 0 → (e :: t)[k] = e := fun h => by subst h; rfl
      generalize (e :: t)[k] = b at hrow hmem hnth hnth0
      obtain ⟨r0, r1⟩ := hrow
      have HM := Lib.hid hmem
      have HN := Lib.hid hnth
      have HN0 := Lib.hid hnth0
      have HXY := Lib.hid hxy
      have FL := Lib.hid (And.intro f0 f1)
      have CX := Lib.hid cx
      have CY := Lib.hid cy
      clear hmem hnth hnth0 hxy f0 f1 cx cy
      go_upto_region 5 with fail
      have zk := hK.out.size
      generalize hW1 : (wr.alloc (.cells #[.bool b.neg, .slice b.ptr b.len b.cap] 26)) = w1
      have hkk : Kept [] (wr.alloc (.cells #[.bool b.neg, .slice b.ptr b.len b.cap] 26)) w1 := by rw [hW1]; exact Kept.refl _ _
      have zw1 : wr.heap.size + 1 = w1.heap.size := by rw [← hW1]; simp
      have e0 := (hkk.top (g := wr.heap.size) (by simp) (by simp) 0 (v := .bool b.neg) rfl).1
      have e1 := (hkk.top (g := wr.heap.size) (by simp) (by simp) 1 (v := .slice b.ptr b.len b.cap) rfl).1
      have hk1 := hkk.peel
      have f0 := hk1.free' (p := ⟨w.heap.size + 1, 0, none⟩) CX.out FL.out.1 (by simp)
      have f1 := hk1.free' (p := ⟨w.heap.size + 1, 1, none⟩) CY.out FL.out.2 (by simp)
      have cx := hk1.cell (p := ⟨w.heap.size + 1, 0, none⟩) CX.out (by simp)
      have cy := hk1.cell (p := ⟨w.heap.size + 1, 1, none⟩) CY.out (by simp)
      have hO1 := Lib.hid (hO.out.kept hk1)
      have hK1 := Lib.hid (hK.out.trans0 hk1)
      clear hk1 hkk hW1 r0 r1
      by_cases h0 : k = 0
      · have hb := Lib.hid (HN0.out h0)
        subst h0
        clear HN0
        go_wp2_with fail
        obtain ⟨_, s0, s1⟩ := cells2 (.bool b.neg) (.slice b.ptr b.len b.cap) cx cy
        have hk2 : Kept [w.heap.size + 1] w1 ((w1.setCell ⟨w.heap.size + 1, 0, none⟩ (.bool b.neg)).setCell ⟨w.heap.size + 1, 1, none⟩ (.slice b.ptr b.len b.cap)) := ((Kept.refl _ _).setCell _ _ (by simp)).setCell _ _ (by simp)
        have hfz : ∀ x, ((w1.setCell ⟨w.heap.size + 1, 0, none⟩ (.bool b.neg)).setCell ⟨w.heap.size + 1, 1, none⟩ (.slice b.ptr b.len b.cap)).frozen? x = w1.frozen? x := by intro x; simp only [World.frozen?_setCell]
        have hO2 : OkB ((w1.setCell ⟨w.heap.size + 1, 0, none⟩ (.bool b.neg)).setCell ⟨w.heap.size + 1, 1, none⟩ (.slice b.ptr b.len b.cap)) (e :: t) := fun u hu => ⟨(hO1.out u hu).1.kept hk2 (fun hn v hv hm => by
          have h9 := OKW.out u hu hn v hv
          simp at hm; omega), (hO1.out u hu).2⟩
        generalize ((w1.setCell ⟨w.heap.size + 1, 0, none⟩ (.bool b.neg)).setCell ⟨w.heap.size + 1, 1, none⟩ (.slice b.ptr b.len b.cap)) = w2 at *
        have hK2 := Lib.hid (hK1.out.trans hk2 (by simp))
        have S0 := Lib.hid s0
        have S1 := Lib.hid s1
        have HZ := Lib.hid hfz
        have HO2 := Lib.hid hO2
        have FF := Lib.hid (And.intro f0 f1)
        clear s0 s1 hfz hO2 hk2 cx cy f0 f1 e0 e1
        go_roundw
        case rel => exact ⟨1, b, by omega, by go_num, fun _ => by rw [hb.out]; rfl, hK2, HO2, ⟨_, _, S0.out, S1.out, fun _ => ⟨rfl, rfl⟩⟩, by rw [HZ.out]; exact FF.out.1, by rw [HZ.out]; exact FF.out.2⟩
        case measure => simp [intOf]
      · have hpos : 0 < k := by omega
        obtain ⟨rfl, rfl⟩ := HXY.out hpos
        have hc := hP.out hpos
        have hb := HN.out hpos (by omega)
        have hcm : c ∈ (e :: t) := by
          rw [hc]
          rcases pick_mem gtZ (t.take (k - 1)) e with h | h
          · rw [h]; exact List.mem_cons_self
          · exact List.mem_cons_of_mem _ (List.mem_of_mem_take h)
        have hsnoc : pickF gtZ e (t.take (k + 1 - 1)) = if gtZ b.z c.z = true then b else c := by
          rw [show k + 1 - 1 = k - 1 + 1 by omega, take_get (by omega), pick_snoc, ← hb, ← hc]
        have HS := Lib.hid hsnoc
        have HCM := Lib.hid hcm
        obtain ⟨r, hr⟩ : ∃ r, r = gtZ b.z c.z := ⟨_, rfl⟩
        have HD := Lib.hid hr.symm
        clear hr
        have hne : ((k : Int) == 0) = false := by rw [beq_eq_false_iff_ne]; omega
        have hks : IntKind.i64.wrap ((k : Int) + 1) = (k : Int) + 1 := IntWalk.i64_in _ (by omega)
        clear hsnoc hcm hc hb
        cases r
        · go_wp2_with (refine (isAbove_any _ _ _ _ _ _ _ _ _ _ _ _ (hO1.out b HM.out).1 (hO1.out c HCM.out).1 (hO1.out b HM.out).2 (hO1.out c HCM.out).2 HD.out).mono ?_; rintro e9 w2 ⟨rfl, hk2⟩)
          have S0 := Lib.hid (hk2.cell (p := ⟨w.heap.size + 1, 0, none⟩) cx (by simp))
          have S1 := Lib.hid (hk2.cell (p := ⟨w.heap.size + 1, 1, none⟩) cy (by simp))
          have FF := Lib.hid (And.intro (hk2.free' (p := ⟨w.heap.size + 1, 0, none⟩) cx f0 (by simp)) (hk2.free' (p := ⟨w.heap.size + 1, 1, none⟩) cy f1 (by simp)))
          have HO2 := Lib.hid (hO1.out.kept hk2)
          have hK2 := Lib.hid (hK1.out.trans0 hk2)
          clear hk2 cx cy f0 f1 e0 e1
          go_roundw
          case rel => exact ⟨k + 1, c, by omega, by go_num, fun _ => by rw [HS.out, HD.out]; rfl, hK2, HO2, ⟨_, _, S0.out, S1.out, fun _ => ⟨rfl, rfl⟩⟩, FF.out.1, FF.out.2⟩
          case measure => simp [intOf]; omega
        · go_wp2_with (refine (isAbove_any _ _ _ _ _ _ _ _ _ _ _ _ (hO1.out b HM.out).1 (hO1.out c HCM.out).1 (hO1.out b HM.out).2 (hO1.out c HCM.out).2 HD.out).mono ?_; rintro e9 w2 ⟨rfl, hk2⟩; have cx2 := hk2.cell (p := ⟨w.heap.size + 1, 0, none⟩) cx (by simp); have cy2 := hk2.cell (p := ⟨w.heap.size + 1, 1, none⟩) cy (by simp); have g0 := hk2.free' (p := ⟨w.heap.size + 1, 0, none⟩) cx f0 (by simp); have g1 := hk2.free' (p := ⟨w.heap.size + 1, 1, none⟩) cy f1 (by simp); have d0 := hk2.cell (p := ⟨wr.heap.size, 0, none⟩) e0 (by simp); have d1 := hk2.cell (p := ⟨wr.heap.size, 1, none⟩) e1 (by simp))
          have hO1' := Lib.hid (hO1.out.kept hk2)
          have hK1' := Lib.hid (hK1.out.trans0 hk2)
          obtain ⟨_, s0, s1⟩ := cells2 (.bool b.neg) (.slice b.ptr b.len b.cap) cx2 cy2
          have hk3 : Kept [w.heap.size + 1] w2 ((w2.setCell ⟨w.heap.size + 1, 0, none⟩ (.bool b.neg)).setCell ⟨w.heap.size + 1, 1, none⟩ (.slice b.ptr b.len b.cap)) := ((Kept.refl _ _).setCell _ _ (by simp)).setCell _ _ (by simp)
          have hfz : ∀ x, ((w2.setCell ⟨w.heap.size + 1, 0, none⟩ (.bool b.neg)).setCell ⟨w.heap.size + 1, 1, none⟩ (.slice b.ptr b.len b.cap)).frozen? x = w2.frozen? x := by intro x; simp only [World.frozen?_setCell]
          have hO2 : OkB ((w2.setCell ⟨w.heap.size + 1, 0, none⟩ (.bool b.neg)).setCell ⟨w.heap.size + 1, 1, none⟩ (.slice b.ptr b.len b.cap)) (e :: t) := fun u hu => ⟨(hO1'.out u hu).1.kept hk3 (fun hn v hv hm => by
            have h9 := OKW.out u hu hn v hv
            simp at hm; omega), (hO1'.out u hu).2⟩
          generalize ((w2.setCell ⟨w.heap.size + 1, 0, none⟩ (.bool b.neg)).setCell ⟨w.heap.size + 1, 1, none⟩ (.slice b.ptr b.len b.cap)) = w3 at *
          have hK2 := Lib.hid (hK1'.out.trans hk3 (by simp))
          have S0 := Lib.hid s0
          have S1 := Lib.hid s1
          have HZ := Lib.hid hfz
          have HO2 := Lib.hid hO2
          have FF := Lib.hid (And.intro g0 g1)
          clear s0 s1 hfz hO2 hk3 hk2 cx cy f0 f1 e0 e1 cx2 cy2 g0 g1 d0 d1
          go_roundw
          case rel => exact ⟨k + 1, b, by omega, by go_num, fun _ => by rw [HS.out, HD.out]; rfl, hK2, HO2, ⟨_, _, S0.out, S1.out, fun _ => ⟨rfl, rfl⟩⟩, by rw [HZ.out]; exact FF.out.1, by rw [HZ.out]; exact FF.out.2⟩
          case measure => simp [intOf]; omega
    · have hkl : k = t.length + 1 := by omega
      have hc : c = pickF gtZ e t := by
        have := hP.out (by omega)
        rw [this, take_all (by omega)]
      obtain ⟨x, y, cx, cy, hxy⟩ := hC.out
      obtain ⟨rfl, rfl⟩ := hxy (by omega)
      have g0 := hK.out.cell (p := ⟨w.heap.size, 0, none⟩) R0.out.1 (by simp)
      have g1 := hK.out.cell (p := ⟨w.heap.size, 1, none⟩) R1.out.1 (by simp)
      have u0 := hK.out.free' (p := ⟨w.heap.size, 0, none⟩) R0.out.1 R0.out.2.1 (by simp)
      have u1 := hK.out.free' (p := ⟨w.heap.size, 1, none⟩) R1.out.1 R1.out.2.1 (by simp)
      have HC := Lib.hid hc
      have hKw := Lib.hid (KT.out.trans hK.out (fun x hx hlt => by simp at hx; omega))
      clear hc hP
      obtain ⟨_, s0, s1⟩ := cells2 (.bool c.neg) (.slice c.ptr c.len c.cap) g0 g1
      go_wp2_with fail
      refine bodyPost_ret (v := .agg #[.bool c.neg, .slice c.ptr c.len c.cap]) (by simp [results, Try.results25, go_sem, s0, s1]) rfl ⟨by rw [← HC.out]; rfl, (hKw.out.setCell _ _ (by simp)).setCell _ _ (by simp)⟩

end Go.Proofs.Ytlhiahhpmjiioaa
