/-
  Plain facts on a store with one shape more; contract of the program's PutShape. Condition: the slices read as named shapes, as points.
-/
import Derived.Test.YtbljpeefekhoeabStoD
namespace Go.Proofs.Ytbljpeefekhoeab
open Go.RowKit

/-- Where a named shape belongs. -/
def insS (s : Sh) : List Sh → List Sh
  | [] => [s]
  | t :: r => if s.nm < t.nm then s :: t :: r else t :: insS s r
theorem insS_len (s : Sh) : ∀ l, (insS s l).length = l.length + 1
  | [] => rfl
  | t :: r => by
    unfold insS
    split
    · rfl
    · simp [insS_len s r]
theorem insS_mem {s m : Sh} : ∀ {l : List Sh}, m ∈ insS s l ↔ m = s ∨ m ∈ l
  | [] => by simp [insS]
  | t :: r => by
    unfold insS
    split
    · simp
    · rw [List.mem_cons, insS_mem, List.mem_cons]
      constructor
      · rintro (h | h | h)
        · exact .inr (.inl h)
        · exact .inl h
        · exact .inr (.inr h)
      · rintro (h | h | h)
        · exact .inr (.inl h)
        · exact .inl h
        · exact .inr (.inr h)
theorem insS_sorted {s : Sh} : ∀ {l : List Sh}, l.Pairwise (fun s t => s.nm < t.nm) → (∀ y, y ∈ l → y.nm ≠ s.nm) → (insS s l).Pairwise (fun s t => s.nm < t.nm)
  | [], _, _ => by simp [insS]
  | t :: r, h, hne => by
    obtain ⟨h1, h2⟩ := List.pairwise_cons.1 h
    unfold insS
    by_cases hlt : s.nm < t.nm
    · rw [if_pos hlt]
      refine List.pairwise_cons.2 ⟨fun m hm => ?_, h⟩
      rcases List.mem_cons.1 hm with rfl | hm
      · exact hlt
      · exact List.lt_trans hlt (h1 m hm)
    · rw [if_neg hlt]
      refine List.pairwise_cons.2 ⟨fun m hm => ?_, insS_sorted h2 (fun y hy => hne y (List.mem_cons_of_mem _ hy))⟩
      rcases insS_mem.1 hm with rfl | hm
      · rcases List.le_iff_lt_or_eq.1 (List.not_lt.1 hlt) with h | h
        · exact h
        · exact absurd h (hne t List.mem_cons_self)
      · exact h1 m hm
/-- A store with this named shape, instead of what was there. -/
def putL (L : List Sh) (s : Sh) : List Sh := insS s (dropL L s.nm)
theorem putL_apart {L : List Sh} (h : Apart L) (s : Sh) : Apart (putL L s) :=
  apart_iff.2 (insS_sorted (apart_iff.1 (drop_apart h s.nm)) (fun _ hm => (drop_mem.1 hm).2))
theorem putL_len (L : List Sh) (s : Sh) : (putL L s).length = (dropL L s.nm).length + 1 := insS_len _ _
def putC (L : List Sh) (s : Sh) : Int := if storeC L = 0 then (if namedC s = 0 then (if 10 < (putL L s).length then 7 else 0) else namedC s) else storeC L
def putS (L : List Sh) (s : Sh) : List Sh := if putC L s = 0 then putL L s else []
theorem putC_store {L : List Sh} {s : Sh} (h : storeC L ≠ 0) : putC L s = storeC L ∧ putS L s = [] := by
  have h1 : putC L s = storeC L := by unfold putC; rw [if_neg h]
  exact ⟨h1, by unfold putS; rw [if_neg (by rw [h1]; exact h)]⟩
theorem putC_named {L : List Sh} {s : Sh} (h : storeC L = 0) (hs : namedC s ≠ 0) : putC L s = namedC s ∧ putS L s = [] := by
  have h1 : putC L s = namedC s := by unfold putC; rw [if_pos h, if_neg hs]
  exact ⟨h1, by unfold putS; rw [if_neg (by rw [h1]; exact hs)]⟩
theorem putC_full {L : List Sh} {s : Sh} (h : storeC L = 0) (hs : namedC s = 0) (hf : 10 < (putL L s).length) : putC L s = 7 ∧ putS L s = [] := by
  have h1 : putC L s = 7 := by unfold putC; rw [if_pos h, if_pos hs, if_pos hf]
  exact ⟨h1, by unfold putS; rw [if_neg (by rw [h1]; decide)]⟩
theorem putC_yes {L : List Sh} {s : Sh} (h : storeC L = 0) (hs : namedC s = 0) (hf : ¬ 10 < (putL L s).length) : putC L s = 0 ∧ putS L s = putL L s := by
  have h1 : putC L s = 0 := by unfold putC; rw [if_pos h, if_pos hs, if_neg hf]
  exact ⟨h1, by unfold putS; rw [if_pos h1]⟩
theorem told_put {w : World} {a : Option Addr} {n : Nat} {L : List Sh} {ps : Nat → Option Addr} {cs : Nat → Nat} (hc : Cells w a n L ps cs) (hl : L.length = n) (hz : storeC L = 0) {s : Sh} (hs : namedC s = 0) {p : Option Addr} {c : Nat} (hr : Rd w p (s.n * 2) s.xs) :
    ∃ ps' cs', Told w (putF (lookF L (shV L ps cs) L.length) s.nm (.agg #[.int .i64 s.k, .slice p s.n c])) (putL L s) ps' cs' := by
  obtain ⟨h1, h2, h3⟩ := storeC_ok hz
  refine told_of (putL_apart h3.apart s) (by have := drop_len L s.nm; rw [putL_len]; omega) (fun y => ?_) (fun m hm => ?_)
  · unfold putF
    rw [List.mem_map]
    by_cases he : y = s.nm
    · rw [if_pos he]
      exact ⟨fun _ => rfl, fun _ => ⟨s, insS_mem.2 (.inl rfl), he.symm⟩⟩
    · rw [if_neg he, lookF_some _ (Nat.le_refl _)]
      constructor
      · rintro ⟨t, ht, rfl⟩
        rcases insS_mem.1 ht with rfl | ht
        · exact absurd rfl he
        · obtain ⟨i, hi, e⟩ := mem_getD.1 (drop_mem.1 ht).1
          exact ⟨i, hi, by rw [e]⟩
      · rintro ⟨i, hi, e⟩
        exact ⟨L.getD i sh0, insS_mem.2 (.inr (drop_mem.2 ⟨mem_getD.2 ⟨i, hi, rfl⟩, by rw [e]; exact he⟩)), e⟩
  · rcases insS_mem.1 hm with rfl | hm
    · have h4 := namedC_ok hs
      exact ⟨p, c, by unfold putF; rw [if_pos rfl], hr, shapeC_n h4.2, (isNm_len h4.1).2⟩
    · obtain ⟨hmL, hne⟩ := drop_mem.1 hm
      obtain ⟨p', c', h⟩ := cells_told hc hl hz hmL
      exact ⟨p', c', by unfold putF; rw [if_neg hne]; exact h.1, h.2⟩

theorem boxPP {w w1 : World} {o : Obj} {k : Int} {a : Option Addr} {n c : Nat} {S T : TypeId} (hk : Kept [] (((w.alloc o).alloc (.cells #[.int .i64 k, .slice a n c] S)).alloc (.cells #[.int .i64 0, .slice none 0 0] T)) w1) :
    (w1.cell? ⟨w.heap.size + 1, 0, none⟩ = some (.int .i64 k) ∧ w1.cell? ⟨w.heap.size + 1, 1, none⟩ = some (.slice a n c)) ∧ (w1.cell? ⟨w.heap.size + 1 + 1, 0, none⟩ = some (.int .i64 0) ∧ w1.frozen? ⟨w.heap.size + 1 + 1, 0, none⟩ = false) ∧ w1.cell? ⟨w.heap.size + 1 + 1, 1, none⟩ = some (.slice none 0 0) ∧ w1.frozen? ⟨w.heap.size + 1 + 1, 1, none⟩ = false := by
  obtain ⟨c0, f0, _⟩ := hk.top (g := w.heap.size + 1 + 1) (by simp) (by simp) 0 (v := .int .i64 0) rfl
  obtain ⟨c1, f1, _⟩ := hk.top (g := w.heap.size + 1 + 1) (by simp) (by simp) 1 (v := .slice none 0 0) rfl
  exact ⟨⟨(hk.peel.top (g := w.heap.size + 1) (by simp) (by simp) 0 (v := .int .i64 k) rfl).1, (hk.peel.top (g := w.heap.size + 1) (by simp) (by simp) 1 (v := .slice a n c) rfl).1⟩, ⟨c0, f0⟩, c1, f1⟩
theorem mem_names {M : List Sh} {x : List UInt8} : x ∈ M.map Sh.nm ↔ ∃ s, s ∈ M ∧ s.nm = x := List.mem_map

set_option maxHeartbeats 1000000 in
theorem PutShape_any (a : Option Addr) (n c : Nat) (L : List Sh) (s : Sh) (p : Option Addr) (d : Nat) (w : World) (h : RdSt w a n L) (hr : Rd w p (s.n * 2) s.xs) (hx : s.nm.length ≤ 1048576) :
    Calls Try.prog 6 #[.agg #[.slice a n c], .string (strB s.nm), .agg #[.int .i64 s.k, .slice p s.n d]] w (StoRes w (putC L s) (putS L s)) := by
  have K0 := Lib.hid ((((Kept.refl [] w).alloc (.cells #[.slice a n c] 26)).alloc (.cells #[.int .i64 s.k, .slice p s.n d] 29)).alloc (.cells #[.int .i64 0, .slice none 0 0] 33))
  by_cases hz : storeC L = 0
  · obtain ⟨ps, cs, hc⟩ := h.cells
    have HR := Lib.hid h
    have HC := Lib.hid hc
    have HZ := Lib.hid hz
    have HP := Lib.hid hr
    have HX := Lib.hid (And.intro hx (show s.nm.length ≤ 9223372036854775807 by omega))
    clear h hc hx hr
    by_cases hs : namedC s = 0
    · obtain ⟨ps', cs', ht⟩ := told_put HC.out HR.out.1 hz hs (c := d) HP.out
      have HT := Lib.hid ht
      have HS := Lib.hid hs
      obtain ⟨m, hm⟩ : ∃ m, (putL L s).length = m := ⟨_, rfl⟩
      have HMm := Lib.hid hm
      have hful := putC_full hz hs
      have hyes := putC_yes hz hs
      rw [hm] at hful hyes
      have HF := Lib.hid (And.intro hful hyes)
      have HL := Lib.hid (show ((putL L s).map Sh.nm).length = m by rw [List.length_map]; exact hm)
      clear ht hs hm hz hful hyes
      go_enter Try.func6, Try.ntmps6
      go_wp2_with fail
      refine (shelfOf_yes _ _ _ _ _ _ _ (HR.out.kept0 K0.out) (HC.out.kept0 K0.out) HZ.out).mono ?_
      rintro e w1 ⟨b, rfl, hb, hmf, hk⟩
      have HM := Lib.hid hmf
      have K1 := Lib.hid (K0.out.trans0 hk)
      have R1 := Lib.hid (boxPP hk)
      have HB := Lib.hid hb
      have hs1 : w.heap.size + 1 + 1 < w1.heap.size := by have := hk.size; simp only [World.size_alloc] at this; omega
      clear hmf hk hb
      obtain ⟨⟨x0, x1⟩, ⟨c0, f0⟩, c1, f1⟩ := R1.out
      go_wp2_with fail
      refine (namedFault_any s _ _ _ (HP.out.kept0 K1.out) HX.out.2).mono ?_
      rintro e w2 ⟨rfl, hk2⟩
      rw [HS.out]
      have HM2 := Lib.hid (HM.out.kept0 hk2)
      have K2 := Lib.hid (K1.out.trans0 hk2)
      have d0 := hk2.cell x0 (by simp)
      have d1 := hk2.cell x1 (by simp)
      have e0 := hk2.cell c0 (by simp)
      have g0 := hk2.freeS c0 f0 (by simp)
      have e1 := hk2.cell c1 (by simp)
      have g1 := hk2.freeS c1 f1 (by simp)
      have R2 := Lib.hid (And.intro (And.intro e0 g0) (And.intro e1 g1))
      have hs2 : w.heap.size + 1 + 1 < w2.heap.size := World.block_lt_of_cell? w2 _ e0
      clear hk2 x0 x1 c0 f0 c1 f1 e0 g0 e1 g1
      have hbw : w.heap.size + 1 + 1 < b := by have := HB.out; simp only [World.size_alloc] at this; omega
      by_cases hful : 10 < m
      · have hfi : (10 : Int) < m := by omega
        have hv := Lib.hid (HF.out.1 hful)
        clear hful
        go_wp2_with (first | (at_mapUpdate; refine wpPut _ rfl _ _ _ rfl rfl HM2.out (by decide) HX.out.1 rfl rfl ?_; intro w3 hm3 k3; have c0 := k3.cell R2.out.1.1 (by simp; omega); have f0 := k3.freeS R2.out.1.1 R2.out.1.2 (by simp; omega); have c1 := k3.cell R2.out.2.1 (by simp; omega); have f1 := k3.freeS R2.out.2.1 R2.out.2.2 (by simp; omega)) | (at_len; refine wpLenM _ rfl _ rfl rfl hm3 (names_nodup HT.out.1) HT.out.2.2.1 ?_; rw [HL.out]))
        have K3 := Lib.hid (K2.out.trans1 k3 (fun hlt => by omega))
        obtain ⟨_, ea, eb⟩ := cells2 (.int .i64 7) (.slice none 0 0) c0 c1
        refine bodyPost_ret (v := .agg #[.int .i64 7, .slice none 0 0]) (by simp [results, Try.results6, go_sem, ea, eb]) rfl ?_
        rw [hv.out.1, hv.out.2]
        exact stoRes_zero ((K3.out.setCell _ _ (by simp; omega)).setCell _ _ (by simp; omega))
      · have hfi : ¬ (10 : Int) < m := by omega
        have hv := Lib.hid (HF.out.2 hful)
        clear hful
        go_wp2_with (first | (at_mapUpdate; refine wpPut _ rfl _ _ _ rfl rfl HM2.out (by decide) HX.out.1 rfl rfl ?_; intro w3 hm3 k3; have c0 := k3.cell R2.out.1.1 (by simp; omega); have f0 := k3.freeS R2.out.1.1 R2.out.1.2 (by simp; omega); have c1 := k3.cell R2.out.2.1 (by simp; omega); have f1 := k3.freeS R2.out.2.1 R2.out.2.2 (by simp; omega)) | (at_len; refine wpLenM _ rfl _ rfl rfl hm3 (names_nodup HT.out.1) HT.out.2.2.1 ?_; rw [HL.out]))
        have K3 := Lib.hid (K2.out.trans1 k3 (fun hlt => by omega))
        have HM3 := Lib.hid hm3
        have R3 := Lib.hid (And.intro (And.intro c0 f0) (And.intro c1 f1))
        have hs3 : w.heap.size + 1 + 1 < w3.heap.size := World.block_lt_of_cell? w3 _ c0
        clear hm3 k3 c0 f0 c1 f1
        refine (store_any _ _ _ _ _ _ _ HM3.out (HT.out.kept0 K3.out)).mono ?_
        rintro e w4 ⟨v, rfl, hst, hk4⟩
        obtain ⟨va, vc, rfl⟩ := hst.form
        rw [HMm.out] at hst ⊢
        have HST := Lib.hid hst
        have K4 := Lib.hid (K3.out.trans0 hk4)
        have c0 := hk4.cell R3.out.1.1 (by simp)
        have f0 := hk4.freeS R3.out.1.1 R3.out.1.2 (by simp)
        have c1 := hk4.cell R3.out.2.1 (by simp)
        have f1 := hk4.freeS R3.out.2.1 R3.out.2.2 (by simp)
        clear hst hk4
        obtain ⟨_, ea, eb⟩ := cells2 (.int .i64 0) (.slice va m vc) c0 c1
        go_wp2_with fail
        refine bodyPost_ret (v := .agg #[.int .i64 0, .slice va m vc]) (by simp [results, Try.results6, go_sem, ea, eb]) rfl ⟨_, by rw [hv.out.1], ?_, (K4.out.setCell _ _ (by simp; omega)).setCell _ _ (by simp; omega)⟩
        rw [hv.out.2, HMm.out]
        exact (stV_set (stV_set HST.out _ _ (by simp; omega)) _ _ (by simp; omega)).mono (by omega)
    · have hv := Lib.hid (putC_named hz hs)
      obtain ⟨f, hf⟩ : ∃ f, namedC s = f := ⟨_, rfl⟩
      rw [hf] at hs hv
      have HF := Lib.hid hf
      have hne : (f == 0) = false := by rw [beq_eq_false_iff_ne]; exact hs
      clear hf hz
      go_enter Try.func6, Try.ntmps6
      go_wp2_with fail
      refine (shelfOf_yes _ _ _ _ _ _ _ (HR.out.kept0 K0.out) (HC.out.kept0 K0.out) HZ.out).mono ?_
      rintro e w1 ⟨b, rfl, hb, hmf, hk⟩
      have K1 := Lib.hid (K0.out.trans0 hk)
      have R1 := Lib.hid (boxPP hk)
      have hs1 : w.heap.size + 1 + 1 < w1.heap.size := by have := hk.size; simp only [World.size_alloc] at this; omega
      clear hmf hk hb
      obtain ⟨⟨x0, x1⟩, ⟨c0, f0⟩, c1, f1⟩ := R1.out
      go_wp2_with fail
      refine (namedFault_any s _ _ _ (HP.out.kept0 K1.out) HX.out.2).mono ?_
      rintro e w2 ⟨rfl, hk2⟩
      rw [HF.out]
      have K2 := Lib.hid (K1.out.trans0 hk2)
      have e0 := hk2.cell c0 (by simp)
      have g0 := hk2.freeS c0 f0 (by simp)
      have e1 := hk2.cell c1 (by simp)
      have g1 := hk2.freeS c1 f1 (by simp)
      clear hk2 x0 x1 c0 f0 c1 f1
      obtain ⟨_, ea, eb⟩ := cells2 (.int .i64 f) (.slice none 0 0) e0 e1
      go_wp2_with fail
      refine bodyPost_ret (v := .agg #[.int .i64 f, .slice none 0 0]) (by simp [results, Try.results6, go_sem, ea, eb]) rfl ?_
      rw [hv.out.1, hv.out.2]
      exact stoRes_zero ((K2.out.setCell _ _ (by simp; omega)).setCell _ _ (by simp; omega))
  · have HR := Lib.hid h
    have hv := Lib.hid (putC_store (s := s) hz)
    clear h
    obtain ⟨f, hf⟩ : ∃ f, storeC L = f := ⟨_, rfl⟩
    have HZ := Lib.hid hz
    rw [hf] at hz hv
    have HF := Lib.hid hf
    have hne : (f == 0) = false := by rw [beq_eq_false_iff_ne]; exact hz
    clear hf hr hx
    go_enter Try.func6, Try.ntmps6
    go_wp2_with fail
    refine (shelfOf_no _ _ _ _ _ (HR.out.kept0 K0.out) HZ.out).mono ?_
    rintro e w1 ⟨rfl, h1⟩
    rw [HF.out]
    have K1 := Lib.hid (K0.out.trans0 h1)
    have hs1 : w.heap.size + 1 + 1 < w1.heap.size := by have := h1.size; simp only [World.size_alloc] at this; omega
    obtain ⟨⟨x0, x1⟩, ⟨c0, f0⟩, c1, f1⟩ := boxPP h1
    clear h1
    obtain ⟨_, ea, eb⟩ := cells2 (.int .i64 f) (.slice none 0 0) c0 c1
    go_wp2_with fail
    refine bodyPost_ret (v := .agg #[.int .i64 f, .slice none 0 0]) (by simp [results, Try.results6, go_sem, ea, eb]) rfl ?_
    rw [hv.out.1, hv.out.2]
    exact stoRes_zero ((K1.out.setCell _ _ (by simp; omega)).setCell _ _ (by simp; omega))

end Go.Proofs.Ytbljpeefekhoeab
