/-
  Contracts of the model's l8Copy, l9Find, l9Get, GetShape. Condition: the slice reads as named shapes.
-/
import Derived.Test.YtbljpeefekhoeabStoG
import Derived.Test.YtbljpeefekhoeabStoB
namespace Go.Proofs.Ytbljpeefekhoeab
open Go.RowKit

theorem cells2b {w : World} {g g' : Nat} (hg : g ≠ g') {x0 x1 y0 y1 : Value} (u1 v0 v1 : Value) (_c0 : w.cell? ⟨g', 0, none⟩ = some x0) (c1 : w.cell? ⟨g', 1, none⟩ = some x1) (d0 : w.cell? ⟨g, 0, none⟩ = some y0) (d1 : w.cell? ⟨g, 1, none⟩ = some y1) :
    (w.setCell ⟨g', 1, none⟩ u1).cell? ⟨g', 1, none⟩ = some u1 ∧ (((w.setCell ⟨g', 1, none⟩ u1).setCell ⟨g, 0, none⟩ v0).setCell ⟨g, 1, none⟩ v1).cell? ⟨g, 0, none⟩ = some v0 ∧ (((w.setCell ⟨g', 1, none⟩ u1).setCell ⟨g, 0, none⟩ v0).setCell ⟨g, 1, none⟩ v1).cell? ⟨g, 1, none⟩ = some v1 := by
  have e1 := World.cell?_setCell_same w ⟨g', 1, none⟩ u1 c1
  have f0 : (w.setCell ⟨g', 1, none⟩ u1).cell? ⟨g, 0, none⟩ = some y0 := by rw [World.cell?_setCell_other _ _ _ _ (by simp; try omega)]; exact d0
  have f1 : (w.setCell ⟨g', 1, none⟩ u1).cell? ⟨g, 1, none⟩ = some y1 := by rw [World.cell?_setCell_other _ _ _ _ (by simp; try omega)]; exact d1
  obtain ⟨_, k0, k1⟩ := cells2 v0 v1 f0 f1
  exact ⟨e1, k0, k1⟩

set_option maxHeartbeats 1000000 in
theorem l8Copy_any (k : Int) (q : Option Addr) (n c : Nat) (xs : List Int) (w : World) (h : Rd w q (n * 2) xs) (hn : 0 < n) (hn2 : n ≤ 1000000) :
    Calls Try.prog 39 #[.agg #[.int .i64 k, .slice q n c]] w (fun e w' => ∃ g c', e = .returned (.agg #[.int .i64 k, .slice (some ⟨g, 0, none⟩) n c']) ∧ w.heap.size ≤ g ∧ Blk w' g xs ∧ Kept [] w w') := by
  have HR := Lib.hid h
  have HN := Lib.hid (And.intro hn hn2)
  clear h hn hn2
  go_enter Try.func39, Try.ntmps39
  have K0 := Lib.hid ((((Kept.refl [] w).alloc (.cells #[.int .i64 k, .slice q n c] 29)).alloc (.cells #[.int .i64 0, .slice none 0 0] 29)).alloc (.cells #[] 77))
  go_wp2_with (at_builtin; refine appPS rfl _ _ rfl (w.heap.size + 1 + 1) _ rfl (emptyP (by simp)) q n c xs rfl (HR.out.kept0 K0.out) HN.out.1 HN.out.2 (by simp) ?_)
  intro g c' w1 hg hb hG
  have kk : Kept [w.heap.size + 1 + 1] (((w.alloc (.cells #[.int .i64 k, .slice q n c] 29)).alloc (.cells #[.int .i64 0, .slice none 0 0] 29)).alloc (.cells #[] 77)) w1 := (Kept.refl _ _).grown hG (fun k hk _ => by simp [Value.ownBlock] at hk; simp [hk])
  have HK := Lib.hid (K0.out.trans1 kk (fun hlt => by omega))
  have cc := Kept.refl [] ((w.alloc (.cells #[.int .i64 k, .slice q n c] 29)).alloc (.cells #[.int .i64 0, .slice none 0 0] 29))
  obtain ⟨c0, f0, _⟩ := cc.peel.top rfl (by simp) 0 (v := .int .i64 k) rfl
  obtain ⟨c1, f1, _⟩ := cc.peel.top rfl (by simp) 1 (v := .slice q n c) rfl
  obtain ⟨d0, g0, _⟩ := cc.top (g := w.heap.size + 1) (by simp) (by simp) 0 (v := .int .i64 0) rfl
  obtain ⟨d1, g1, _⟩ := cc.top (g := w.heap.size + 1) (by simp) (by simp) 1 (v := .slice none 0 0) rfl
  have ka := (Kept.refl [] ((w.alloc (.cells #[.int .i64 k, .slice q n c] 29)).alloc (.cells #[.int .i64 0, .slice none 0 0] 29))).alloc (.cells #[] 77)
  have kb := ka.mono (M := [w.heap.size + 1 + 1]) (by simp) |>.trans1 kk (fun _ => by simp)
  have x0 := kb.cell c0 (by simp <;> omega)
  have x1 := kb.cell c1 (by simp <;> omega)
  have y0 := kb.cell d0 (by simp <;> omega)
  have y1 := kb.cell d1 (by simp <;> omega)
  have u0 := kb.freeS c0 f0 (by simp <;> omega)
  have u1 := kb.freeS c1 f1 (by simp <;> omega)
  have v0 := kb.freeS d0 g0 (by simp <;> omega)
  have v1 := kb.freeS d1 g1 (by simp <;> omega)
  have HB := Lib.hid hb
  clear hb hG kk cc c0 c1 d0 d1 f0 f1 g0 g1 ka kb
  obtain ⟨m0, m1, m2⟩ := cells2b (g := w.heap.size + 1) (g' := w.heap.size) (by omega) (.slice (some ⟨g, 0, none⟩) n c') (.int .i64 k) (.slice (some ⟨g, 0, none⟩) n c') x0 x1 y0 y1
  go_wp2_with fail
  refine bodyPost_ret (v := .agg #[.int .i64 k, .slice (some ⟨g, 0, none⟩) n c']) (by simp [results, Try.results39, go_sem, m1, m2]) rfl ⟨g, c', rfl, by omega, ?_, ?_⟩
  · exact ((HB.out.other _ _ (by simp; omega)).other _ _ (by simp; omega)).other _ _ (by simp; omega)
  · exact ((HK.out.setCell _ _ (by simp)).setCell _ _ (by simp)).setCell _ _ (by simp)

theorem fIx_hit {L : List Sh} {x : List UInt8} {k : Nat} (h : ∀ i, i < k → (L.getD i sh0).nm ≠ x) (hk : k < L.length) (he : (L.getD k sh0).nm = x) : fIx L x = k := by
  have h1 : fIx L x ≤ k := by
    rcases Nat.lt_or_ge k (fIx L x) with hl | hl
    · exact absurd he (fIx_before hl)
    · exact hl
  by_cases e : fIx L x = k
  · exact e
  · exact absurd (fIx_at (show fIx L x < L.length by omega)) (h _ (by omega))
theorem fIx_miss {L : List Sh} {x : List UInt8} (h : ∀ i, i < L.length → (L.getD i sh0).nm ≠ x) : ¬ fIx L x < L.length := fun hl => h _ hl (fIx_at hl)
/-- What l9Find answers. -/
def findV (L : List Sh) (x : List UInt8) : Int := if fIx L x < L.length then (fIx L x : Int) else -1

set_option maxHeartbeats 1000000 in
theorem l9Find_any (S : Nat) (a : Option Addr) (n c : Nat) (L : List Sh) (x : List UInt8) (w : World) (h : RdSt w a n L) (hs : w.cell? ⟨S, 0, none⟩ = some (.slice a n c)) :
    Calls Try.prog 37 #[.pointer (some ⟨S, 0, none⟩), .string (strB x)] w (Ans w (.int .i64 (findV L x))) := by
  have hmax := h.2.1
  have HR := Lib.hid h
  have B0 := Lib.hid hs
  clear h
  go_enter Try.func37, Try.ntmps37
  go_wp2_with fail
  go_loopw [5] (fun i wr => ∃ k : Nat, k ≤ n ∧ i = .int .i64 k ∧ Hid (∀ j, j < k → (L.getD j sh0).nm ≠ x) ∧ Hid (Kept [] w wr)) (fun i _ => n - (intOf i).toNat)
  case atStart => exact ⟨0, Nat.zero_le _, rfl, fun j hj => by omega, Kept.refl _ _⟩
  case round =>
    obtain ⟨k, hk, rfl, hO, hK⟩ := hrel
    have b1 := hK.out.cell B0.out (by simp)
    by_cases hlt : k < n
    · obtain ⟨g, off, p, c', rfl, hc0, _, _, _, _⟩ := HR.out.2.2 k hlt
      have d0 := hK.out.cell hc0 (by simp)
      clear hc0
      obtain ⟨nm, hs⟩ : ∃ nm, (L.getD k sh0).nm = nm := ⟨_, rfl⟩
      rw [hs] at d0
      have HS := Lib.hid hs
      clear hs
      by_cases he : nm = x
      · have hq : ((strB nm).toList == (strB x).toList) = true := by rw [same_str]; exact decide_eq_true he
        have hv : Hid (findV L x = k) := by
          have := fIx_hit (L := L) (x := x) (k := k) hO.out (by rw [HR.out.1]; exact hlt) (by rw [HS.out]; exact he)
          show _ = _
          unfold findV; rw [this, if_pos (by rw [HR.out.1]; exact hlt)]
        clear he
        go_wp2_with fail
        go_ret
        exact ⟨by rw [hv.out]; rfl, hK.out⟩
      · have hq : ((strB nm).toList == (strB x).toList) = false := by rw [same_str]; exact decide_eq_false he
        have hO2 : Hid (∀ j, j < k + 1 → (L.getD j sh0).nm ≠ x) := fun j hj => by
          by_cases hjk : j = k
          · subst hjk; rw [HS.out]; exact he
          · exact hO.out j (by omega)
        clear he hO
        go_wp2_with fail
        go_roundw
        case rel => exact ⟨k + 1, by omega, by go_num, hO2, hK⟩
        case measure => simp [intOf]; omega
    · obtain rfl : k = n := by omega
      have hv : Hid (findV L x = -1) := by
        show _ = _
        unfold findV; rw [if_neg (fIx_miss (fun j hj => hO.out j (by rw [← HR.out.1]; exact hj)))]
      go_wp2_with fail
      go_ret
      exact ⟨by rw [hv.out]; rfl, hK.out⟩

/-- What l9Get answers: a shape in a new block, and a code. -/
def GetG (w : World) (L : List Sh) (x : List UInt8) (e : Ending) (w' : World) : Prop :=
  ∃ a c, e = .returned (.tuple #[.agg #[.int .i64 (gotS L x).k, .slice a (gotS L x).n c], .int .i64 (getC L x)]) ∧ SlP w' a (gotS L x).n (gotS L x).xs ∧ (∀ g ∈ blkP a (gotS L x).n, w.heap.size ≤ g) ∧ Kept [] w w'
theorem getG_zero {w w' : World} {L : List Sh} {x : List UInt8} {v : Int} (hc : getC L x = v) (hs : gotS L x = sh0) (k : Kept [] w w') : GetG w L x (.returned (.tuple #[.agg #[.int .i64 0, .slice none 0 0], .int .i64 v])) w' := by
  refine ⟨none, 0, by rw [hc, hs]; rfl, ?_, ?_, k⟩
  · rw [hs]; exact ⟨by decide, rfl, .inl rfl⟩
  · rw [hs]; intro g hg; simp [blkP, sh0] at hg

set_option maxHeartbeats 1000000 in
theorem l9Get_any (S : Nat) (a : Option Addr) (n c : Nat) (L : List Sh) (x : List UInt8) (w : World) (h : RdSt w a n L) (hs : w.cell? ⟨S, 0, none⟩ = some (.slice a n c)) :
    Calls Try.prog 42 #[.pointer (some ⟨S, 0, none⟩), .string (strB x)] w (GetG w L x) := by
  have HR := Lib.hid h
  have hS : S < w.heap.size := World.block_lt_of_cell? w _ hs
  have K0 := Lib.hid ((Kept.refl [] w).alloc (.cells #[.int .i64 0, .slice none 0 0] 29))
  have b0 := K0.out.cell hs (by simp)
  have B0 := Lib.hid hs
  clear h
  by_cases hz : storeC L = 0
  · have HZ := Lib.hid hz
    by_cases hin : fIx L x < L.length
    · have hv := Lib.hid (getC_yes hz hin)
      have hn12 := Lib.hid (shapeC_n (namedC_ok ((storeC_ok hz).2.1 _ hin)).2)
      have hfv : Hid (findV L x = (fIx L x : Nat)) := by show _ = _; unfold findV; rw [if_pos hin]
      have hlt : fIx L x < n := by rw [← HR.out.1]; exact hin
      have hmax := HR.out.2.1
      clear hz hin
      generalize fIx L x = i at *
      go_enter Try.func42, Try.ntmps42
      go_wp2_with fail
      refine (sStoreFault_any _ _ _ _ _ (HR.out.kept0 K0.out)).mono ?_
      rintro e w1 ⟨rfl, h1⟩
      rw [HZ.out]
      have K1 := Lib.hid (K0.out.trans0 h1)
      have b1 := K1.out.cell B0.out (by simp)
      obtain ⟨c0, f0, _⟩ := h1.top (g := w.heap.size) rfl (by simp) 0 (v := .int .i64 0) rfl
      obtain ⟨c1, f1, _⟩ := h1.top (g := w.heap.size) rfl (by simp) 1 (v := .slice none 0 0) rfl
      have R1 := Lib.hid (And.intro (And.intro c0 f0) (And.intro c1 f1))
      clear h1 c0 f0 c1 f1
      go_wp2_with fail
      refine (l9Find_any _ _ _ _ _ _ _ (HR.out.kept0 K1.out) (K1.out.cell B0.out (by simp))).mono ?_
      rintro e w2 ⟨rfl, h2⟩
      rw [hfv.out]
      have K2 := Lib.hid (K1.out.trans0 h2)
      obtain ⟨g, off, p, c', rfl, hc0, hc1, hc2, hrd, _⟩ := HR.out.2.2 i hlt
      have b2 := K2.out.cell B0.out (by simp)
      have d1 := K2.out.cell hc1 (by simp)
      have d2 := K2.out.cell hc2 (by simp)
      have HRD := Lib.hid (hrd.kept0 K2.out)
      have x0 := h2.cell R1.out.1.1 (by simp)
      have x1 := h2.cell R1.out.2.1 (by simp)
      have u0 := h2.freeS R1.out.1.1 R1.out.1.2 (by simp)
      have u1 := h2.freeS R1.out.2.1 R1.out.2.2 (by simp)
      have R2 := Lib.hid (And.intro (And.intro x0 u0) (And.intro x1 u1))
      clear hc0 hc1 hc2 hrd h2 b1 x0 x1 u0 u1
      generalize L.getD i sh0 = s at *
      go_wp2_with fail
      refine (l8Copy_any _ _ _ _ _ _ HRD.out (by have := hn12.out.1; omega) (by have := hn12.out.2; omega)).mono ?_
      rintro e w3 ⟨q, c3, rfl, hq, hb, hk⟩
      have K3 := Lib.hid (K2.out.trans0 hk)
      have x0 := hk.cell R2.out.1.1 (by simp)
      have x1 := hk.cell R2.out.2.1 (by simp)
      have u0 := hk.freeS R2.out.1.1 R2.out.1.2 (by simp)
      have u1 := hk.freeS R2.out.2.1 R2.out.2.2 (by simp)
      have hlw : w.heap.size < w2.heap.size := World.block_lt_of_cell? w2 _ R2.out.1.1
      have HB := Lib.hid hb
      clear hb hk b2 d1 d2 b0
      obtain ⟨_, ea, eb⟩ := cells2 (.int .i64 s.k) (.slice (some ⟨q, 0, none⟩) s.n c3) x0 x1
      go_wp2_with fail
      refine bodyPost_ret (v := .tuple #[.agg #[.int .i64 s.k, .slice (some ⟨q, 0, none⟩) s.n c3], .int .i64 0]) (by simp [results, Try.results42, go_sem, ea, eb]) rfl ⟨some ⟨q, 0, none⟩, c3, by rw [hv.out.1, hv.out.2], ?_, ?_, ?_⟩
      · rw [hv.out.2]
        exact ⟨by have := hn12.out.2; omega, HRD.out.1, .inr ⟨q, rfl, (HB.out.other _ _ (by simp; omega)).other _ _ (by simp; omega)⟩⟩
      · intro y hy
        unfold blkP at hy
        split at hy
        · simp at hy
        · simp at hy; omega
      · exact (K3.out.setCell _ _ (by simp)).setCell _ _ (by simp)
    · have hv := Lib.hid (getC_none (x := x) hz hin)
      have hfv : Hid (findV L x = -1) := by show _ = _; unfold findV; rw [if_neg hin]
      clear hz hin
      go_enter Try.func42, Try.ntmps42
      go_wp2_with fail
      refine (sStoreFault_any _ _ _ _ _ (HR.out.kept0 K0.out)).mono ?_
      rintro e w1 ⟨rfl, h1⟩
      rw [HZ.out]
      have K1 := Lib.hid (K0.out.trans0 h1)
      have b1 := K1.out.cell B0.out (by simp)
      obtain ⟨c0, f0, _⟩ := h1.top (g := w.heap.size) rfl (by simp) 0 (v := .int .i64 0) rfl
      obtain ⟨c1, f1, _⟩ := h1.top (g := w.heap.size) rfl (by simp) 1 (v := .slice none 0 0) rfl
      have R1 := Lib.hid (And.intro (And.intro c0 f0) (And.intro c1 f1))
      clear h1 c0 f0 c1 f1
      go_wp2_with fail
      refine (l9Find_any _ _ _ _ _ _ _ (HR.out.kept0 K1.out) (K1.out.cell B0.out (by simp))).mono ?_
      rintro e w2 ⟨rfl, h2⟩
      rw [hfv.out]
      have K2 := Lib.hid (K1.out.trans0 h2)
      have x0 := h2.cell R1.out.1.1 (by simp)
      have x1 := h2.cell R1.out.2.1 (by simp)
      have u0 := h2.freeS R1.out.1.1 R1.out.1.2 (by simp)
      have u1 := h2.freeS R1.out.2.1 R1.out.2.2 (by simp)
      clear h2 b1
      go_wp2_with fail
      obtain ⟨_, ea, eb⟩ := cells2 (.int .i64 0) (.slice none 0 0) x0 x1
      refine bodyPost_ret (v := .tuple #[.agg #[.int .i64 0, .slice none 0 0], .int .i64 4]) (by simp [results, Try.results42, go_sem, ea, eb]) rfl (getG_zero hv.out.1 hv.out.2 ((K2.out.setCell _ _ (by simp)).setCell _ _ (by simp)))
  · have hv := Lib.hid (getC_fault (x := x) hz)
    obtain ⟨f, hf⟩ : ∃ f, storeC L = f := ⟨_, rfl⟩
    rw [hf] at hz hv
    have HF := Lib.hid hf
    have hne : (f == 0) = false := by rw [beq_eq_false_iff_ne]; exact hz
    clear hf
    go_enter Try.func42, Try.ntmps42
    go_wp2_with fail
    refine (sStoreFault_any _ _ _ _ _ (HR.out.kept0 K0.out)).mono ?_
    rintro e w1 ⟨rfl, h1⟩
    rw [HF.out]
    have K1 := Lib.hid (K0.out.trans0 h1)
    obtain ⟨c0, f0, _⟩ := h1.top (g := w.heap.size) rfl (by simp) 0 (v := .int .i64 0) rfl
    obtain ⟨c1, f1, _⟩ := h1.top (g := w.heap.size) rfl (by simp) 1 (v := .slice none 0 0) rfl
    clear h1
    go_wp2_with fail
    obtain ⟨_, ea, eb⟩ := cells2 (.int .i64 0) (.slice none 0 0) c0 c1
    refine bodyPost_ret (v := .tuple #[.agg #[.int .i64 0, .slice none 0 0], .int .i64 f]) (by simp [results, Try.results42, go_sem, ea, eb]) rfl (getG_zero hv.out.1 hv.out.2 ((K1.out.setCell _ _ (by simp)).setCell _ _ (by simp)))

set_option maxHeartbeats 1000000 in
theorem sGetShape_any (a : Option Addr) (n c : Nat) (L : List Sh) (x : List UInt8) (w : World) (h : RdSt w a n L) :
    Calls Try.prog 16 #[.agg #[.slice a n c], .string (strB x)] w (GetR w L x) := by
  have HR := Lib.hid h
  clear h
  have K0 := Lib.hid (((Kept.refl [] w).alloc (.cells #[.slice a n c] 26)).alloc (.cells #[.int .i64 0, .int .i64 0, .slice none 0 0] 39))
  have b0 := (Kept.refl [] ((w.alloc (.cells #[.slice a n c] 26)).alloc (.cells #[.int .i64 0, .int .i64 0, .slice none 0 0] 39))).peel.top rfl (by simp) 0 (v := .slice a n c) rfl
  have B0 := Lib.hid b0.1
  clear b0
  go_enter Try.func16, Try.ntmps16
  go_wp2_with fail
  refine (l9Get_any _ _ _ _ _ _ _ (HR.out.kept0 K0.out) B0.out).mono ?_
  rintro e w1 ⟨q, c1, rfl, hs, hg, hk⟩
  obtain ⟨s, hsq⟩ : ∃ s, gotS L x = s := ⟨_, rfl⟩
  obtain ⟨v, hvq⟩ : ∃ v, getC L x = v := ⟨_, rfl⟩
  rw [hsq, hvq]
  rw [hsq] at hs hg
  have HQ := Lib.hid (And.intro hsq hvq)
  clear hsq hvq
  have HS := Lib.hid hs
  have HG := Lib.hid hg
  have K1 := Lib.hid (K0.out.trans0 hk)
  have hs1 : w.heap.size + 1 < w1.heap.size := by have := hk.size; simp only [World.size_alloc] at this; omega
  obtain ⟨⟨x0, u0⟩, ⟨x1, u1⟩, x2, u2⟩ := boxR hk
  clear hs hg hk
  obtain ⟨ea, eb, ec⟩ := cells3S (.int .i64 v) (.int .i64 s.k) (.slice q s.n c1) x0 x1 x2
  go_wp2_with fail
  have hG : ∀ g ∈ blkP q s.n, w.heap.size + 1 < g := fun g hg => by have := HG.out g hg; simp only [World.size_alloc] at this; omega
  refine bodyPost_ret (v := .agg #[.int .i64 v, .int .i64 s.k, .slice q s.n c1]) (by simp [results, Try.results16, go_sem, alloc_cell ea, alloc_cell eb, alloc_cell ec]) rfl ⟨q, c1, by rw [HQ.out.1, HQ.out.2], ?_, fun g hg => by rw [HQ.out.1] at hg; have := hG g hg; omega, ((((K1.out.setCell _ _ (by simp)).setCell _ _ (by simp)).setCell _ _ (by simp)).alloc _)⟩
  rw [HQ.out.1]
  exact HS.out.kept ((((((Kept.refl [w.heap.size + 1] w1).setCell _ _ (by simp)).setCell _ _ (by simp)).setCell _ _ (by simp)).alloc _)) (fun g hg => by have := hG g hg; simp; omega)

end Go.Proofs.Ytbljpeefekhoeab
