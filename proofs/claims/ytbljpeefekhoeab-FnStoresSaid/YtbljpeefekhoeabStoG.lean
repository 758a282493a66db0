/-
  Contracts of shelfOf and GetShape, the program's. Condition: the slice reads as named shapes.
-/
import Derived.Test.YtbljpeefekhoeabStoC
import Derived.Test.YtbljpeefekhoeabStoA
namespace Go.Proofs.Ytbljpeefekhoeab
open Go.RowKit

set_option maxHeartbeats 1000000 in
theorem shelfOf_no (a : Option Addr) (n c : Nat) (L : List Sh) (w : World) (h : RdSt w a n L) (hz : storeC L ≠ 0) :
    Calls Try.prog 28 #[.agg #[.slice a n c]] w (Ans w (.tuple #[.map none, .int .i64 (storeC L)])) := by
  have HR := Lib.hid (h.kept0 ((Kept.refl [] w).alloc (.cells #[.slice a n c] 26)))
  clear h
  obtain ⟨f, hf⟩ : ∃ f, storeC L = f := ⟨_, rfl⟩
  rw [hf] at hz ⊢
  have HF := Lib.hid hf
  have hne : (f == 0) = false := by rw [beq_eq_false_iff_ne]; exact hz
  clear hf
  go_enter Try.func28, Try.ntmps28
  go_wp2_with fail
  refine (StoreFault_any _ _ _ _ _ HR.out).mono ?_
  rintro e w1 ⟨rfl, h1⟩
  rw [HF.out]
  have K1 := Lib.hid h1.peel
  clear h1
  go_wp2_with fail
  go_ret2
  exact ⟨rfl, K1.out⟩

/-- A call that answers a new map of the named shapes. -/
def NewShelf (w : World) (L : List Sh) (V : Nat → Value) (e : Ending) (w' : World) : Prop :=
  ∃ b, e = .returned (.tuple #[.map (some b), .int .i64 0]) ∧ w.heap.size ≤ b ∧ MapF w' b 10 (lookF L V L.length) ∧ Kept [] w w'

set_option maxHeartbeats 1000000 in
theorem shelfOf_yes (a : Option Addr) (n c : Nat) (L : List Sh) (ps : Nat → Option Addr) (cs : Nat → Nat) (w : World) (h : RdSt w a n L) (hc : Cells w a n L ps cs) (hz : storeC L = 0) :
    Calls Try.prog 28 #[.agg #[.slice a n c]] w (NewShelf w L (shV L ps cs)) := by
  have HR := Lib.hid (h.kept0 ((Kept.refl [] w).alloc (.cells #[.slice a n c] 26)))
  have hn := h.1
  have hok := storeC_ok hz
  have HF := Lib.hid hz
  have HC := Lib.hid hc
  have HN := Lib.hid hn
  have hn10 : n ≤ 10 := by omega
  have HOK := Lib.hid hok
  clear h hz hc hok hn
  go_enter Try.func28, Try.ntmps28
  go_wp2_with fail
  refine (StoreFault_any _ _ _ _ _ HR.out).mono ?_
  rintro e w1 ⟨rfl, h1⟩
  rw [HF.out]
  have K1 := Lib.hid h1.peel
  have b0 := (h1.top rfl (by simp) 0 (v := .slice a n c) rfl).1
  clear h1
  have hmm : ∀ w : World, (Instr.makeMap 57 none).run Try.prog w = .ok (.map (some w.heap.size)) (w.alloc (.map #[] 0)) := fun _ => rfl
  have hlt1 : w.heap.size < w1.heap.size := World.block_lt_of_cell? w1 _ b0
  go_wp2_with fail
  obtain ⟨b, hb⟩ : ∃ b, w1.heap.size = b := ⟨_, rfl⟩
  have HBB := Lib.hid (show w.heap.size < b by omega)
  have hM0 := Lib.hid (MapF.made hb)
  have hK0 := Lib.hid (K1.out.alloc (.map #[] 0))
  rw [hb]
  clear hb hlt1 hmm b0 K1
  generalize w1.alloc (.map #[] 0) = w2 at *
  go_loopw [15] (fun i wr => ∃ k : Nat, k ≤ n ∧ i = .int .i64 k ∧ Hid (MapF wr b k (lookF L (shV L ps cs) k)) ∧ Hid (Kept [] w wr)) (fun i _ => n - (intOf i).toNat)
  case atStart => exact ⟨0, Nat.zero_le _, rfl, hM0, hK0⟩
  case round =>
    obtain ⟨k, hk, rfl, hM, hK⟩ := hrel
    by_cases hlt : k < n
    · obtain ⟨g, off, rfl, hc0, hc1, hc2, hrd, hl⟩ := HC.out k hlt
      have d0 := hK.out.cell hc0 (by simp)
      have d1 := hK.out.cell hc1 (by simp)
      have d2 := hK.out.cell hc2 (by simp)
      have hnm := (isNm_len (namedC_ok (HOK.out.2.1 k (by rw [HN.out]; exact hlt))).1).2
      have HNM := Lib.hid (show (L.getD k sh0).nm.length ≤ 1048576 by omega)
      have HP := Lib.hid (lookF_put L (shV L ps cs) k)
      have hsv : shV L ps cs k = .agg #[.int .i64 (L.getD k sh0).k, .slice (ps k) (L.getD k sh0).n (cs k)] := rfl
      have HSV := Lib.hid hsv
      clear hc0 hc1 hc2 hrd hl hnm hsv
      generalize L.getD k sh0 = s at *
      have hM2 := Lib.hid (hM.out.kept0 ((Kept.refl [] wr).alloc (.cells #[.string (strB s.nm), .int .i64 s.k, .slice (ps k) s.n (cs k)] 49)))
      have hK2 := Lib.hid (hK.out.alloc (.cells #[.string (strB s.nm), .int .i64 s.k, .slice (ps k) s.n (cs k)] 49))
      clear hM hK
      go_wp2_with (at_mapUpdate; refine wpPut _ rfl _ _ _ rfl rfl hM2.out (by omega) HNM.out rfl rfl ?_)
      intro w3 h3 k3
      rw [HSV.out.symm, HP.out] at h3
      have hM3 := Lib.hid h3
      have hK3 := Lib.hid (hK2.out.trans1 k3 (fun hlt => by have := HBB.out; omega))
      clear h3 k3 hM2 hK2
      go_wp2_with fail
      go_roundw
      case rel => exact ⟨k + 1, by omega, by go_num, hM3, hK3⟩
      case measure => simp [intOf]; omega
    · obtain rfl : k = n := by omega
      go_wp2_with fail
      go_ret2
      refine ⟨b, rfl, Nat.le_of_lt HBB.out, ?_, hK.out⟩
      rw [HN.out]
      obtain ⟨D, ⟨es, cl, q1, q2, q3, q4⟩, h2⟩ := hM.out
      exact ⟨D, ⟨es, cl, q1, q2, by omega, q4⟩, h2⟩

theorem shapeC_n {k : Int} {xs : List Int} {n : Nat} (h : shapeC k xs n = 0) : 1 ≤ n ∧ n ≤ 12 := by
  unfold shapeC at h
  by_cases h1 : inK k = false
  · rw [if_pos h1] at h; omega
  · rw [if_neg h1] at h
    by_cases h2 : ptsFault xs n ≠ 0
    · rw [if_pos h2] at h; exact absurd h h2
    · exact ptsFault_len (Decidable.of_not_not h2)
/-- The code, and the shape, of what stands under a name. -/
def getC (L : List Sh) (x : List UInt8) : Int := if storeC L = 0 then (if fIx L x < L.length then 0 else 4) else storeC L
def gotS (L : List Sh) (x : List UInt8) : Sh := if getC L x = 0 then L.getD (fIx L x) sh0 else sh0
theorem getC_fault {L : List Sh} {x : List UInt8} (h : storeC L ≠ 0) : getC L x = storeC L ∧ gotS L x = sh0 := by
  have h1 : getC L x = storeC L := by unfold getC; rw [if_neg h]
  exact ⟨h1, by unfold gotS; rw [if_neg (by rw [h1]; exact h)]⟩
theorem getC_none {L : List Sh} {x : List UInt8} (h : storeC L = 0) (hx : ¬ fIx L x < L.length) : getC L x = 4 ∧ gotS L x = sh0 := by
  have h1 : getC L x = 4 := by unfold getC; rw [if_pos h, if_neg hx]
  exact ⟨h1, by unfold gotS; rw [if_neg (by rw [h1]; decide)]⟩
theorem getC_yes {L : List Sh} {x : List UInt8} (h : storeC L = 0) (hx : fIx L x < L.length) : getC L x = 0 ∧ gotS L x = L.getD (fIx L x) sh0 := by
  have h1 : getC L x = 0 := by unfold getC; rw [if_pos h, if_pos hx]
  exact ⟨h1, by unfold gotS; rw [if_pos h1]⟩
def GetR (w : World) (L : List Sh) (x : List UInt8) (e : Ending) (w' : World) : Prop :=
  ∃ a c, e = .returned (.agg #[.int .i64 (getC L x), .int .i64 (gotS L x).k, .slice a (gotS L x).n c]) ∧ SlP w' a (gotS L x).n (gotS L x).xs ∧ (∀ g ∈ blkP a (gotS L x).n, w.heap.size ≤ g) ∧ Kept [] w w'
theorem getR_zero {w w' : World} {L : List Sh} {x : List UInt8} {v : Int} (hc : getC L x = v) (hs : gotS L x = sh0) (k : Kept [] w w') : GetR w L x (.returned (.agg #[.int .i64 v, .int .i64 0, .slice none 0 0])) w' := by
  refine ⟨none, 0, by rw [hc, hs]; rfl, ?_, ?_, k⟩
  · rw [hs]; exact ⟨by decide, rfl, .inl rfl⟩
  · rw [hs]; intro g hg; simp [blkP, sh0] at hg

theorem boxR {w w1 : World} {o : Obj} {T : TypeId} (hk : Kept [] ((w.alloc o).alloc (.cells #[.int .i64 0, .int .i64 0, .slice none 0 0] T)) w1) :
    (w1.cell? ⟨w.heap.size + 1, 0, none⟩ = some (.int .i64 0) ∧ w1.frozen? ⟨w.heap.size + 1, 0, none⟩ = false) ∧ (w1.cell? ⟨w.heap.size + 1, 1, none⟩ = some (.int .i64 0) ∧ w1.frozen? ⟨w.heap.size + 1, 1, none⟩ = false) ∧ w1.cell? ⟨w.heap.size + 1, 2, none⟩ = some (.slice none 0 0) ∧ w1.frozen? ⟨w.heap.size + 1, 2, none⟩ = false := by
  obtain ⟨c0, f0, _⟩ := hk.top (g := w.heap.size + 1) (by simp) (by simp) 0 (v := .int .i64 0) rfl
  obtain ⟨c1, f1, _⟩ := hk.top (g := w.heap.size + 1) (by simp) (by simp) 1 (v := .int .i64 0) rfl
  obtain ⟨c2, f2, _⟩ := hk.top (g := w.heap.size + 1) (by simp) (by simp) 2 (v := .slice none 0 0) rfl
  exact ⟨⟨c0, f0⟩, ⟨c1, f1⟩, c2, f2⟩

set_option maxHeartbeats 1000000 in
theorem GetShape_any (a : Option Addr) (n c : Nat) (L : List Sh) (x : List UInt8) (w : World) (h : RdSt w a n L) (hx : x.length ≤ 1048576) :
    Calls Try.prog 9 #[.agg #[.slice a n c], .string (strB x)] w (GetR w L x) := by
  have K0 := Lib.hid (((Kept.refl [] w).alloc (.cells #[.slice a n c] 26)).alloc (.cells #[.int .i64 0, .int .i64 0, .slice none 0 0] 39))
  by_cases hz : storeC L = 0
  · obtain ⟨ps, cs, hc⟩ := h.cells
    have HR := Lib.hid h
    have HC := Lib.hid hc
    have HZ := Lib.hid hz
    have hok := storeC_ok hz
    have HV := Lib.hid (lookF_ix hok.2.2.apart (shV L ps cs) x)
    have HOK := Lib.hid hok
    have HX := Lib.hid hx
    clear h hc hx hok
    by_cases hin : fIx L x < L.length
    · have hv := Lib.hid (getC_yes hz hin)
      have hval : Hid (lookF L (shV L ps cs) L.length x = some (.agg #[.int .i64 (L.getD (fIx L x) sh0).k, .slice (ps (fIx L x)) (L.getD (fIx L x) sh0).n (cs (fIx L x))])) := by show _ = _; rw [HV.out, if_pos hin]; rfl
      have hn12 := Lib.hid (shapeC_n (namedC_ok (HOK.out.2.1 _ hin)).2)
      clear hz
      obtain ⟨i, hi⟩ : ∃ i, fIx L x = i := ⟨_, rfl⟩
      rw [hi] at hval hv hn12 hin
      have HRD : Hid (Rd w (ps i) ((L.getD i sh0).n * 2) (L.getD i sh0).xs) := by
        obtain ⟨_, _, _, _, _, _, hrd, _⟩ := HC.out i (by rw [← HR.out.1]; exact hin)
        exact hrd
      clear hi hin
      generalize L.getD i sh0 = s at *
      go_enter Try.func9, Try.ntmps9
      go_wp2_with fail
      refine (shelfOf_yes _ _ _ _ _ _ _ (HR.out.kept0 K0.out) (HC.out.kept0 K0.out) HZ.out).mono ?_
      rintro e w1 ⟨b, rfl, hb, hm, hk⟩
      have HM := Lib.hid hm
      have K1 := Lib.hid (K0.out.trans0 hk)
      have R1 := Lib.hid (boxR hk)
      have hs1 : w.heap.size + 1 < w1.heap.size := by have := hk.size; simp only [World.size_alloc] at this; omega
      clear hm hk hb
      obtain ⟨⟨c0, f0⟩, ⟨c1, f1⟩, c2, f2⟩ := R1.out
      go_wp2_with (at_lookup; refine wpGetS _ rfl _ _ rfl rfl HM.out HX.out rfl hval.out ?_)
      refine (copyOfShape_any _ _ _ _ _ _ (HRD.out.kept0 (K1.out.alloc _)) (by have := hn12.out.1; omega) (by have := hn12.out.2; omega)).mono ?_
      rintro e w2 ⟨g, c', rfl, hg, hb, hk⟩
      have k2 : Kept [] w1 w2 := hk.peel
      have d0 := k2.cell c0 (by simp)
      have d1 := k2.cell c1 (by simp)
      have d2 := k2.cell c2 (by simp)
      have e0 := k2.freeS c0 f0 (by simp)
      have e1 := k2.freeS c1 f1 (by simp)
      have e2 := k2.freeS c2 f2 (by simp)
      have hs2 := k2.size
      simp only [World.size_alloc] at hg
      have HK2 := Lib.hid (K1.out.trans0 k2)
      have HB2 := Lib.hid hb
      clear c0 c1 c2 f0 f1 f2 hb hk k2
      obtain ⟨ea, eb, ec⟩ := cells3S (.int .i64 0) (.int .i64 s.k) (.slice (some ⟨g, 0, none⟩) s.n c') d0 d1 d2
      go_wp2_with fail
      refine bodyPost_ret (v := .agg #[.int .i64 0, .int .i64 s.k, .slice (some ⟨g, 0, none⟩) s.n c']) (by simp [results, Try.results9, go_sem, ea, eb, ec]) rfl ⟨some ⟨g, 0, none⟩, c', by rw [hv.out.1, hv.out.2], ?_, ?_, ?_⟩
      · rw [hv.out.2]
        exact ⟨by have := hn12.out.2; omega, HRD.out.1, .inr ⟨g, rfl, ((HB2.out.other _ _ (by simp; omega)).other _ _ (by simp; omega)).other _ _ (by simp; omega)⟩⟩
      · intro q hq
        unfold blkP at hq
        split at hq
        · simp at hq
        · simp at hq; omega
      · exact ((HK2.out.setCell _ _ (by simp)).setCell _ _ (by simp)).setCell _ _ (by simp)
    · have hv := Lib.hid (getC_none (x := x) hz hin)
      have hval : Hid (lookF L (shV L ps cs) L.length x = none) := by show _ = _; rw [HV.out, if_neg hin]
      clear hz hin
      go_enter Try.func9, Try.ntmps9
      go_wp2_with fail
      refine (shelfOf_yes _ _ _ _ _ _ _ (HR.out.kept0 K0.out) (HC.out.kept0 K0.out) HZ.out).mono ?_
      rintro e w1 ⟨b, rfl, hb, hm, hk⟩
      have HM := Lib.hid hm
      have K1 := Lib.hid (K0.out.trans0 hk)
      have R1 := Lib.hid (boxR hk)
      have hs1 : w.heap.size + 1 < w1.heap.size := by have := hk.size; simp only [World.size_alloc] at this; omega
      clear hm hk hb
      obtain ⟨⟨c0, f0⟩, ⟨c1, f1⟩, c2, f2⟩ := R1.out
      go_wp2_with (at_lookup; refine wpGetN _ rfl _ _ rfl rfl HM.out HX.out rfl hval.out ?_)
      obtain ⟨ea, eb, ec⟩ := cells3S (.int .i64 4) (.int .i64 0) (.slice none 0 0) c0 c1 c2
      refine bodyPost_ret (v := .agg #[.int .i64 4, .int .i64 0, .slice none 0 0]) (by simp [results, Try.results9, go_sem, alloc_cell ea, alloc_cell eb, alloc_cell ec]) rfl (getR_zero hv.out.1 hv.out.2 ((((K1.out.setCell _ _ (by simp)).setCell _ _ (by simp)).setCell _ _ (by simp)).alloc _))
  · have HR := Lib.hid h
    have hv := Lib.hid (getC_fault (x := x) hz)
    clear h
    obtain ⟨f, hf⟩ : ∃ f, storeC L = f := ⟨_, rfl⟩
    have HZ := Lib.hid hz
    rw [hf] at hz hv
    have HF := Lib.hid hf
    have hne : (f == 0) = false := by rw [beq_eq_false_iff_ne]; exact hz
    clear hf
    go_enter Try.func9, Try.ntmps9
    go_wp2_with fail
    refine (shelfOf_no _ _ _ _ _ (HR.out.kept0 K0.out) HZ.out).mono ?_
    rintro e w1 ⟨rfl, h1⟩
    rw [HF.out]
    have K1 := Lib.hid (K0.out.trans0 h1)
    have R1 := Lib.hid (boxR h1)
    have hs1 : w.heap.size + 1 < w1.heap.size := by have := h1.size; simp only [World.size_alloc] at this; omega
    clear h1
    obtain ⟨⟨c0, f0⟩, ⟨c1, f1⟩, c2, f2⟩ := R1.out
    go_wp2_with fail
    obtain ⟨ea, eb, ec⟩ := cells3S (.int .i64 f) (.int .i64 0) (.slice none 0 0) c0 c1 c2
    refine bodyPost_ret (v := .agg #[.int .i64 f, .int .i64 0, .slice none 0 0]) (by simp [results, Try.results9, go_sem, ea, eb, ec]) rfl (getR_zero hv.out.1 hv.out.2 (((K1.out.setCell _ _ (by simp)).setCell _ _ (by simp)).setCell _ _ (by simp)))

end Go.Proofs.Ytbljpeefekhoeab
