/-
  Plain facts on a store without a name; contract of the program's DropShape. Condition: the slice reads as named shapes.
-/
import Derived.Test.YtbljpeefekhoeabStoI
import Derived.Test.YtbljpeefekhoeabStoG
namespace Go.Proofs.Ytbljpeefekhoeab
open Go.RowKit

/-- The named shapes but for one name. -/
def dropL (L : List Sh) (x : List UInt8) : List Sh := L.filter fun s => decide (s.nm ≠ x)
theorem apart_iff {L : List Sh} : Apart L ↔ L.Pairwise (fun s t => s.nm < t.nm) := by
  rw [List.pairwise_iff_getElem]
  constructor
  · intro h i j hi hj hij
    have := h i j hij hj
    simpa [List.getD_eq_getElem?_getD, hi, hj] using this
  · intro h i j hij hj
    have := h i j (by omega) hj hij
    simpa [List.getD_eq_getElem?_getD, show i < L.length by omega, hj] using this
theorem drop_apart {L : List Sh} (h : Apart L) (x : List UInt8) : Apart (dropL L x) := apart_iff.2 ((apart_iff.1 h).filter _)
theorem drop_mem {L : List Sh} {x : List UInt8} {s : Sh} : s ∈ dropL L x ↔ s ∈ L ∧ s.nm ≠ x := by unfold dropL; rw [List.mem_filter]; simp
theorem drop_len (L : List Sh) (x : List UInt8) : (dropL L x).length ≤ L.length := List.length_filter_le _ _
theorem lookF_some {L : List Sh} (V : Nat → Value) {y : List UInt8} : ∀ {k : Nat}, k ≤ L.length → ((lookF L V k y).isSome = true ↔ ∃ i, i < k ∧ (L.getD i sh0).nm = y)
  | 0, _ => by simp [lookF]
  | k + 1, hk => by
    unfold lookF
    by_cases he : y = (L.getD k sh0).nm
    · rw [if_pos he]
      exact ⟨fun _ => ⟨k, by omega, he.symm⟩, fun _ => rfl⟩
    · rw [if_neg he, lookF_some V (by omega)]
      constructor
      · rintro ⟨i, hi, h⟩; exact ⟨i, by omega, h⟩
      · rintro ⟨i, hi, h⟩
        refine ⟨i, ?_, h⟩
        by_cases hik : i = k
        · subst hik; exact absurd h.symm he
        · omega
theorem mem_getD {L : List Sh} {s : Sh} : s ∈ L ↔ ∃ i, i < L.length ∧ L.getD i sh0 = s := by
  rw [List.mem_iff_getElem]
  constructor
  · rintro ⟨i, hi, h⟩; exact ⟨i, hi, by simpa [List.getD_eq_getElem?_getD, hi] using h⟩
  · rintro ⟨i, hi, h⟩; exact ⟨i, hi, by simpa [List.getD_eq_getElem?_getD, hi] using h⟩
theorem told_of {w : World} {f : List UInt8 → Option Value} {M : List Sh} (hM : Apart M) (hl : M.length ≤ 11) (hf : ∀ y, y ∈ M.map Sh.nm ↔ (f y).isSome = true)
    (hv : ∀ m, m ∈ M → ∃ p c, f m.nm = some (.agg #[.int .i64 m.k, .slice p m.n c]) ∧ Rd w p (m.n * 2) m.xs ∧ (1 ≤ m.n ∧ m.n ≤ 12) ∧ m.nm.length ≤ 8) : ∃ ps cs, Told w f M ps cs := by
  have each : ∀ i, i < M.length → ∃ q : Option Addr × Nat, f (M.getD i sh0).nm = some (.agg #[.int .i64 (M.getD i sh0).k, .slice q.1 (M.getD i sh0).n q.2]) ∧ Rd w q.1 ((M.getD i sh0).n * 2) (M.getD i sh0).xs ∧ (1 ≤ (M.getD i sh0).n ∧ (M.getD i sh0).n ≤ 12) ∧ (M.getD i sh0).nm.length ≤ 8 := by
    intro i hi
    obtain ⟨p, c, h⟩ := hv (M.getD i sh0) (mem_getD.2 ⟨i, hi, rfl⟩)
    exact ⟨(p, c), h⟩
  have : Inhabited (Option Addr × Nat) := ⟨(none, 0)⟩
  obtain ⟨q, hq⟩ := Deep.choose_lt each
  exact ⟨fun i => (q i).1, fun i => (q i).2, hM, hl, hf, hq⟩
/-- What a store without a fault tells of each of its shapes. -/
theorem cells_told {w : World} {a : Option Addr} {n : Nat} {L : List Sh} {ps : Nat → Option Addr} {cs : Nat → Nat} (hc : Cells w a n L ps cs) (hl : L.length = n) (hz : storeC L = 0) {m : Sh} (hm : m ∈ L) :
    ∃ p c, lookF L (shV L ps cs) L.length m.nm = some (.agg #[.int .i64 m.k, .slice p m.n c]) ∧ Rd w p (m.n * 2) m.xs ∧ (1 ≤ m.n ∧ m.n ≤ 12) ∧ m.nm.length ≤ 8 := by
  obtain ⟨i, hi, rfl⟩ := mem_getD.1 hm
  obtain ⟨_, h2, h3⟩ := storeC_ok hz
  obtain ⟨_, _, _, _, _, _, hr, _⟩ := hc i (by omega)
  have h4 := namedC_ok (h2 i hi)
  exact ⟨ps i, cs i, lookF_at h3.apart _ hi (Nat.le_refl _), hr, shapeC_n h4.2, (isNm_len h4.1).2⟩
theorem told_drop {w : World} {a : Option Addr} {n : Nat} {L : List Sh} {ps : Nat → Option Addr} {cs : Nat → Nat} (hc : Cells w a n L ps cs) (hl : L.length = n) (hz : storeC L = 0) (x : List UInt8) :
    ∃ ps' cs', Told w (delF (lookF L (shV L ps cs) L.length) x) (dropL L x) ps' cs' := by
  obtain ⟨h1, h2, h3⟩ := storeC_ok hz
  refine told_of (drop_apart h3.apart x) (by have := drop_len L x; omega) (fun y => ?_) (fun m hm => ?_)
  · unfold delF
    rw [List.mem_map]
    by_cases he : y = x
    · rw [if_pos he]
      simp only [Option.isSome_none, Bool.false_eq_true, iff_false]
      rintro ⟨s, hs, rfl⟩
      exact (drop_mem.1 hs).2 he
    · rw [if_neg he, lookF_some _ (Nat.le_refl _)]
      constructor
      · rintro ⟨s, hs, rfl⟩
        obtain ⟨i, hi, e⟩ := mem_getD.1 (drop_mem.1 hs).1
        exact ⟨i, hi, by rw [e]⟩
      · rintro ⟨i, hi, e⟩
        exact ⟨L.getD i sh0, drop_mem.2 ⟨mem_getD.2 ⟨i, hi, rfl⟩, by rw [e]; exact he⟩, e⟩
  · obtain ⟨hmL, hne⟩ := drop_mem.1 hm
    obtain ⟨p, c, h⟩ := cells_told hc hl hz hmL
    exact ⟨p, c, by unfold delF; rw [if_neg hne]; exact h.1, h.2⟩

/-- What DropShape answers. -/
def dropS (L : List Sh) (x : List UInt8) : List Sh := if getC L x = 0 then dropL L x else []
def StoRes (w : World) (v : Int) (M : List Sh) (e : Ending) (w' : World) : Prop := ∃ u, e = .returned (.agg #[.int .i64 v, u]) ∧ StV w.heap.size w' u M.length M ∧ Kept [] w w'
theorem stoRes_zero {w w' : World} {v : Int} (k : Kept [] w w') : StoRes w v [] (.returned (.agg #[.int .i64 v, .slice none 0 0])) w' := ⟨_, rfl, ⟨rfl, .inl ⟨rfl, rfl⟩⟩, k⟩

theorem boxRR {w w1 : World} {o : Obj} {T : TypeId} (hk : Kept [] ((w.alloc o).alloc (.cells #[.int .i64 0, .slice none 0 0] T)) w1) :
    (w1.cell? ⟨w.heap.size + 1, 0, none⟩ = some (.int .i64 0) ∧ w1.frozen? ⟨w.heap.size + 1, 0, none⟩ = false) ∧ w1.cell? ⟨w.heap.size + 1, 1, none⟩ = some (.slice none 0 0) ∧ w1.frozen? ⟨w.heap.size + 1, 1, none⟩ = false := by
  obtain ⟨c0, f0, _⟩ := hk.top (g := w.heap.size + 1) (by simp) (by simp) 0 (v := .int .i64 0) rfl
  obtain ⟨c1, f1, _⟩ := hk.top (g := w.heap.size + 1) (by simp) (by simp) 1 (v := .slice none 0 0) rfl
  exact ⟨⟨c0, f0⟩, c1, f1⟩

set_option maxHeartbeats 1000000 in
theorem DropShape_any (a : Option Addr) (n c : Nat) (L : List Sh) (x : List UInt8) (w : World) (h : RdSt w a n L) (hx : x.length ≤ 1048576) :
    Calls Try.prog 8 #[.agg #[.slice a n c], .string (strB x)] w (StoRes w (getC L x) (dropS L x)) := by
  have K0 := Lib.hid (((Kept.refl [] w).alloc (.cells #[.slice a n c] 26)).alloc (.cells #[.int .i64 0, .slice none 0 0] 33))
  by_cases hz : storeC L = 0
  · obtain ⟨ps, cs, hc⟩ := h.cells
    have HR := Lib.hid h
    have HC := Lib.hid hc
    have HZ := Lib.hid hz
    have hok := storeC_ok hz
    have HV := Lib.hid (lookF_ix hok.2.2.apart (shV L ps cs) x)
    have HX := Lib.hid hx
    clear h hc hx hok
    by_cases hin : fIx L x < L.length
    · have hv := Lib.hid (getC_yes hz hin).1
      have hval : Hid (lookF L (shV L ps cs) L.length x = some (.agg #[.int .i64 (L.getD (fIx L x) sh0).k, .slice (ps (fIx L x)) (L.getD (fIx L x) sh0).n (cs (fIx L x))])) := by show _ = _; rw [HV.out, if_pos hin]; rfl
      have hds : Hid (dropS L x = dropL L x) := by show _ = _; unfold dropS; rw [if_pos hv.out]
      obtain ⟨ps', cs', ht⟩ := told_drop HC.out HR.out.1 hz x
      have HT := Lib.hid ht
      clear hz hin ht
      generalize (L.getD (fIx L x) sh0) = s at *
      generalize ps (fIx L x) = pp at *
      generalize cs (fIx L x) = cc at *
      go_enter Try.func8, Try.ntmps8
      go_wp2_with fail
      refine (shelfOf_yes _ _ _ _ _ _ _ (HR.out.kept0 K0.out) (HC.out.kept0 K0.out) HZ.out).mono ?_
      rintro e w1 ⟨b, rfl, hb, hm, hk⟩
      have HM := Lib.hid hm
      have K1 := Lib.hid (K0.out.trans0 hk)
      have R1 := Lib.hid (boxRR hk)
      have HB := Lib.hid hb
      have hs1 : w.heap.size + 1 < w1.heap.size := by have := hk.size; simp only [World.size_alloc] at this; omega
      clear hm hk hb
      go_wp2_with (first | (at_lookup; refine wpGetS _ rfl _ _ rfl rfl HM.out HX.out rfl hval.out ?_) | (at_delete; refine wpDel _ rfl _ _ rfl rfl (HM.out.kept0 ((Kept.refl [] w1).alloc _)) HX.out rfl ?_; intro w2 hm2 hk2))
      have kA := (Kept.refl [] w1).alloc (.cells #[.int .i64 s.k, .slice pp s.n cc] 29)
      have hbw : w.heap.size ≤ b := by have := HB.out; simp only [World.size_alloc] at this; omega
      have hbw2 : b ≠ w.heap.size + 1 := by have := HB.out; simp only [World.size_alloc] at this; omega
      have K2 := Lib.hid ((K1.out.trans0 kA).trans1 hk2 (fun hlt => by omega))
      have kB : Kept [b] w1 w2 := (kA.mono (M := [b]) (by simp)).trans1 hk2 (fun _ => by simp)
      have c0 := kB.cell R1.out.1.1 (by simp; omega)
      have f0 := kB.freeS R1.out.1.1 R1.out.1.2 (by simp; omega)
      have c1 := kB.cell R1.out.2.1 (by simp; omega)
      have f1 := kB.freeS R1.out.2.1 R1.out.2.2 (by simp; omega)
      have HM2 := Lib.hid hm2
      have C := Lib.hid (And.intro (And.intro c0 f0) (And.intro c1 f1))
      clear hm2 hk2 kA kB c0 c1 f0 f1 hbw hbw2
      refine (store_any _ _ _ _ _ _ _ HM2.out (HT.out.kept0 K2.out)).mono ?_
      rintro e w3 ⟨v, rfl, hst, hk3⟩
      obtain ⟨va, vc, rfl⟩ := hst.form
      obtain ⟨m, hm⟩ : ∃ m, (dropL L x).length = m := ⟨_, rfl⟩
      rw [hm] at hst ⊢
      have HMm := Lib.hid hm
      have HST := Lib.hid hst
      have K3 := Lib.hid (K2.out.trans0 hk3)
      have hlw : w.heap.size + 1 < w2.heap.size := World.block_lt_of_cell? w2 _ C.out.1.1
      have c0 := hk3.cell C.out.1.1 (by simp)
      have f0 := hk3.freeS C.out.1.1 C.out.1.2 (by simp)
      have c1 := hk3.cell C.out.2.1 (by simp)
      have f1 := hk3.freeS C.out.2.1 C.out.2.2 (by simp)
      clear hst hk3 hm
      obtain ⟨_, ea, eb⟩ := cells2 (.int .i64 0) (.slice va m vc) c0 c1
      go_wp2_with fail
      refine bodyPost_ret (v := .agg #[.int .i64 0, .slice va m vc]) (by simp [results, Try.results8, go_sem, ea, eb]) rfl ⟨_, by rw [hv.out], ?_, (K3.out.setCell _ _ (by simp)).setCell _ _ (by simp)⟩
      rw [hds.out, HMm.out]
      exact (stV_set (stV_set HST.out _ _ (by simp; omega)) _ _ (by simp; omega)).mono (by omega)
    · have hv := Lib.hid (getC_none (x := x) hz hin).1
      have hval : Hid (lookF L (shV L ps cs) L.length x = none) := by show _ = _; rw [HV.out, if_neg hin]
      have hds : Hid (dropS L x = []) := by show _ = _; unfold dropS; rw [if_neg (by rw [hv.out]; decide)]
      clear hz hin
      go_enter Try.func8, Try.ntmps8
      go_wp2_with fail
      refine (shelfOf_yes _ _ _ _ _ _ _ (HR.out.kept0 K0.out) (HC.out.kept0 K0.out) HZ.out).mono ?_
      rintro e w1 ⟨b, rfl, hb, hm, hk⟩
      have HM := Lib.hid hm
      have K1 := Lib.hid (K0.out.trans0 hk)
      have hs1 : w.heap.size + 1 < w1.heap.size := by have := hk.size; simp only [World.size_alloc] at this; omega
      obtain ⟨⟨c0, f0⟩, c1, f1⟩ := boxRR hk
      clear hm hk hb
      obtain ⟨_, ea, eb⟩ := cells2 (.int .i64 4) (.slice none 0 0) c0 c1
      go_wp2_with (at_lookup; refine wpGetN _ rfl _ _ rfl rfl HM.out HX.out rfl hval.out ?_)
      refine bodyPost_ret (v := .agg #[.int .i64 4, .slice none 0 0]) (by simp [results, Try.results8, go_sem, alloc_cell ea, alloc_cell eb]) rfl ?_
      rw [hds.out, hv.out]
      exact stoRes_zero (((K1.out.setCell _ _ (by simp)).setCell _ _ (by simp)).alloc _)
  · have HR := Lib.hid h
    have hv := Lib.hid (getC_fault (x := x) hz).1
    have hds : Hid (dropS L x = []) := by show _ = _; unfold dropS; rw [if_neg (by rw [hv.out]; exact hz)]
    clear h
    obtain ⟨f, hf⟩ : ∃ f, storeC L = f := ⟨_, rfl⟩
    have HZ := Lib.hid hz
    rw [hf] at hz hv
    have HF := Lib.hid hf
    have hne : (f == 0) = false := by rw [beq_eq_false_iff_ne]; exact hz
    clear hf
    go_enter Try.func8, Try.ntmps8
    go_wp2_with fail
    refine (shelfOf_no _ _ _ _ _ (HR.out.kept0 K0.out) HZ.out).mono ?_
    rintro e w1 ⟨rfl, h1⟩
    rw [HF.out]
    have K1 := Lib.hid (K0.out.trans0 h1)
    have hs1 : w.heap.size + 1 < w1.heap.size := by have := h1.size; simp only [World.size_alloc] at this; omega
    obtain ⟨⟨c0, f0⟩, c1, f1⟩ := boxRR h1
    clear h1
    obtain ⟨_, ea, eb⟩ := cells2 (.int .i64 f) (.slice none 0 0) c0 c1
    go_wp2_with fail
    refine bodyPost_ret (v := .agg #[.int .i64 f, .slice none 0 0]) (by simp [results, Try.results8, go_sem, ea, eb]) rfl ?_
    rw [hds.out, hv.out]
    exact stoRes_zero ((K1.out.setCell _ _ (by simp)).setCell _ _ (by simp))

end Go.Proofs.Ytbljpeefekhoeab
