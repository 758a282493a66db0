/-
  Plain facts on a store's names: where one stands, what is told under it. Contracts of slices.Clone over points, of copyOfShape. Conditions: the slices read as lists of numbers; there are points.
-/
import Derived.Deep.DeepAppendWide
import Derived.Test.YtbljpeefekhoeabStoM
import Derived.Test.YtbljpeefekhoeabMkP
import Derived.Test.YtbljpeefekhoeabStoN
namespace Go.Proofs.Ytbljpeefekhoeab
open Go.RowKit

/-- Where a name stands. -/
def fIx (L : List Sh) (x : List UInt8) : Nat := L.findIdx fun s => decide (s.nm = x)
theorem fIx_le (L : List Sh) (x : List UInt8) : fIx L x ≤ L.length := List.findIdx_le_length
theorem fIx_at {L : List Sh} {x : List UInt8} (h : fIx L x < L.length) : (L.getD (fIx L x) sh0).nm = x := by
  have := List.findIdx_getElem (w := h)
  rw [List.getD_eq_getElem?_getD, List.getElem?_eq_getElem h, Option.getD_some]
  exact of_decide_eq_true this
theorem fIx_before {L : List Sh} {x : List UInt8} {i : Nat} (h : i < fIx L x) : (L.getD i sh0).nm ≠ x := by
  have h2 := fIx_le L x
  have := List.not_of_lt_findIdx h
  rw [List.getD_eq_getElem?_getD, List.getElem?_eq_getElem (by omega)]
  simpa using this
/-- No name stands twice. -/
def Apart (L : List Sh) : Prop := ∀ i j, i < j → j < L.length → (L.getD i sh0).nm < (L.getD j sh0).nm
theorem RiseTo.apart {L : List Sh} (h : RiseTo L L.length) : Apart L := by
  intro i j hij hj
  induction j with
  | zero => omega
  | succ j ih =>
    by_cases he : i = j
    · subst he; exact h i hj
    · exact List.lt_trans (ih (by omega) (by omega)) (h j hj)
theorem Apart.ne {L : List Sh} (h : Apart L) {i j : Nat} (hi : i < L.length) (hj : j < L.length) (hne : i ≠ j) : (L.getD i sh0).nm ≠ (L.getD j sh0).nm := by
  rcases (by omega : i < j ∨ j < i) with hl | hl
  · have := h i j hl hj
    intro e; rw [e] at this; exact List.lt_irrefl _ this
  · have := h j i hl hi
    intro e; rw [e] at this; exact List.lt_irrefl _ this
theorem fIx_of {L : List Sh} (h : Apart L) {i : Nat} (hi : i < L.length) : fIx L (L.getD i sh0).nm = i := by
  have h1 : fIx L (L.getD i sh0).nm ≤ i := by
    rcases Nat.lt_or_ge i (fIx L (L.getD i sh0).nm) with hl | hl
    · exact absurd rfl (fIx_before hl)
    · exact hl
  by_cases he : fIx L (L.getD i sh0).nm = i
  · exact he
  · exact absurd (fIx_at (show fIx L (L.getD i sh0).nm < L.length by omega)) (h.ne (by omega) hi he)

/-- What is told under a name by the first k. -/
def lookF (L : List Sh) (V : Nat → Value) : Nat → List UInt8 → Option Value
  | 0, _ => none
  | k + 1, x => if x = (L.getD k sh0).nm then some (V k) else lookF L V k x
theorem lookF_put (L : List Sh) (V : Nat → Value) (k : Nat) : putF (lookF L V k) (L.getD k sh0).nm (V k) = lookF L V (k + 1) := rfl
theorem lookF_at {L : List Sh} (h : Apart L) (V : Nat → Value) {i : Nat} : ∀ {k : Nat}, i < k → k ≤ L.length → lookF L V k (L.getD i sh0).nm = some (V i)
  | 0, hi, _ => by omega
  | k + 1, hi, hk => by
    unfold lookF
    by_cases he : i = k
    · subst he; rw [if_pos rfl]
    · rw [if_neg (h.ne (by omega) (by omega) he)]
      exact lookF_at h V (by omega) (by omega)
theorem lookF_none {L : List Sh} {V : Nat → Value} {x : List UInt8} : ∀ {k : Nat}, (∀ i, i < k → (L.getD i sh0).nm ≠ x) → lookF L V k x = none
  | 0, _ => rfl
  | k + 1, h => by
    unfold lookF
    rw [if_neg (fun e => h k (by omega) e.symm)]
    exact lookF_none (fun i hi => h i (by omega))
theorem lookF_ix {L : List Sh} (h : Apart L) (V : Nat → Value) (x : List UInt8) : lookF L V L.length x = if fIx L x < L.length then some (V (fIx L x)) else none := by
  by_cases hl : fIx L x < L.length
  · rw [if_pos hl]
    have := lookF_at h V hl (Nat.le_refl _)
    rw [fIx_at hl] at this; exact this
  · rw [if_neg hl]
    have := fIx_le L x
    exact lookF_none (fun i hi => fIx_before (by omega))

/-- Room for a slice's points: an address and how much, for each place. -/
def Cells (w : World) (a : Option Addr) (n : Nat) (L : List Sh) (ps : Nat → Option Addr) (cs : Nat → Nat) : Prop :=
  ∀ i, i < n → ∃ g off, a = some ⟨g, off, none⟩ ∧ w.cell? ⟨g, off + i * 3, none⟩ = some (.string (strB (L.getD i sh0).nm)) ∧ w.cell? ⟨g, off + i * 3 + 1, none⟩ = some (.int .i64 (L.getD i sh0).k) ∧
    w.cell? ⟨g, off + i * 3 + 2, none⟩ = some (.slice (ps i) (L.getD i sh0).n (cs i)) ∧ Rd w (ps i) ((L.getD i sh0).n * 2) (L.getD i sh0).xs ∧ (L.getD i sh0).nm.length ≤ 9223372036854775807
theorem RdSt.cells {w : World} {a : Option Addr} {n : Nat} {L : List Sh} (h : RdSt w a n L) : ∃ ps cs, Cells w a n L ps cs := by
  have each : ∀ i, i < n → ∃ q : Option Addr × Nat, ∃ g off, a = some ⟨g, off, none⟩ ∧ w.cell? ⟨g, off + i * 3, none⟩ = some (.string (strB (L.getD i sh0).nm)) ∧ w.cell? ⟨g, off + i * 3 + 1, none⟩ = some (.int .i64 (L.getD i sh0).k) ∧
    w.cell? ⟨g, off + i * 3 + 2, none⟩ = some (.slice q.1 (L.getD i sh0).n q.2) ∧ Rd w q.1 ((L.getD i sh0).n * 2) (L.getD i sh0).xs ∧ (L.getD i sh0).nm.length ≤ 9223372036854775807 := by
    intro i hi
    obtain ⟨g, off, p, c, h1, h2, h3, h4, h5, h6⟩ := h.2.2 i hi
    exact ⟨(p, c), g, off, h1, h2, h3, h4, h5, h6⟩
  have : Inhabited (Option Addr × Nat) := ⟨(none, 0)⟩
  obtain ⟨f, hf⟩ := Deep.choose_lt each
  exact ⟨fun i => (f i).1, fun i => (f i).2, hf⟩
theorem Cells.kept0 {w w' : World} {a : Option Addr} {n : Nat} {L : List Sh} {ps : Nat → Option Addr} {cs : Nat → Nat} (h : Cells w a n L ps cs) (k : Kept [] w w') : Cells w' a n L ps cs := fun i hi => by
  obtain ⟨g, off, ha, h1, h2, h3, h4, h5⟩ := h i hi
  exact ⟨g, off, ha, k.cell h1 (by simp), k.cell h2 (by simp), k.cell h3 (by simp), h4.kept0 k, h5⟩
/-- The shape at a place, as a value. -/
def shV (L : List Sh) (ps : Nat → Option Addr) (cs : Nat → Nat) (i : Nat) : Value := .agg #[.int .i64 (L.getD i sh0).k, .slice (ps i) (L.getD i sh0).n (cs i)]

/-- A call that answers a slice of these points in a new block. -/
def NewPts (w : World) (n : Nat) (xs : List Int) (e : Ending) (w' : World) : Prop := ∃ g c, e = .returned (.slice (some ⟨g, 0, none⟩) n c) ∧ w.heap.size ≤ g ∧ Blk w' g xs ∧ Kept [] w w'

/-- Points joined to an empty slice: a new block. -/
theorem appPS {w : World} {ops : Array Oper} {rest : List Oper} {o : Oper} {a : Act} {Q : Exit → Act → World → Prop} (hgd : o.guard = none) (s x : Operand)
    (ho : o.op = .call { callee := .builtin .append, args := #[s, x], argTypes := #[27, 27] })
    (base : Nat) (v : Value) (hs : a.eval s = v) (hown : w.ownsRow base 77 2 v 0 [])
    (q : Option Addr) (n c : Nat) (xs : List Int) (hx : a.eval x = .slice q n c) (hrd : Rd w q (n * 2) xs) (hn : 0 < n) (hn2 : n ≤ 1000000) (hbase : base ≤ w.heap.size)
    (h : ∀ g c' w', base ≤ g → Blk w' g xs → w.grownBy w' v.ownBlock → wpList Try.prog ops Q rest (a.put o.dst (.slice (some ⟨g, 0, none⟩) n c')) w') :
    wpList Try.prog ops Q (o :: rest) a w := by
  obtain ⟨i0, hi, hz0, hz1, hz2⟩ := info_parts Try.infoPt
  obtain ⟨g0, off0, rfl, _⟩ := hrd.2.2 0 (by omega)
  refine wpList_append_own_wide w hgd s x 27 ho base 77 i0 (.agg #[.int .i64 0, .int .i64 0]) 2 16 Try.underlying27 hi hz0 hz1 hz2 rfl (by decide) v 0 [] hs hown ⟨g0, off0, none⟩ n c (xs.map (Value.int .i64)) hx (by rw [List.length_map]; exact hrd.1) ?_ ?_ ?_ ?_ hbase ?_
  · intro j u hj
    obtain ⟨hjl, hju⟩ := List.getElem?_eq_some_iff.1 hj
    rw [List.length_map, hrd.1] at hjl
    obtain ⟨g', off', he, hc⟩ := hrd.2.2 j hjl
    simp at he
    obtain ⟨rfl, rfl⟩ := he
    rw [Addr.add_lit, hc, ← hju]
    simp [List.getD_eq_getElem?_getD, show j < xs.length by rw [hrd.1]; exact hjl]
  · intro u hu
    obtain ⟨y, _, rfl⟩ := List.mem_map.1 hu
    rfl
  · unfold maxLen; omega
  · omega
  · intro v' w' h1 h2 _
    rw [Nat.zero_add, List.nil_append] at h1
    obtain ⟨hl, h3⟩ := h1
    rcases h3 with ⟨_, h3⟩ | ⟨g, cap, cur, rfl, hg, hh, hc, hm, hsz, ht⟩
    · omega
    · refine h g cap w' hg ⟨(cur, _), hh, by rw [hrd.1]; show _ ≤ cur.size; omega, fun k hk => ?_⟩ h2
      rw [hrd.1] at hk
      have : (cur.toList.take (n * 2))[k]? = (xs.map (Value.int .i64))[k]? := by rw [ht]
      rw [List.getElem?_take, if_pos hk] at this
      rw [← Array.getElem?_toList, this]
      simp [List.getD_eq_getElem?_getD, show k < xs.length by rw [hrd.1]; exact hk]

theorem cells3S {w : World} {g : Nat} {x y z : Value} (u v t : Value) (h0 : w.cell? ⟨g, 0, none⟩ = some x) (h1 : w.cell? ⟨g, 1, none⟩ = some y) (h2 : w.cell? ⟨g, 2, none⟩ = some z) :
    (((w.setCell ⟨g, 0, none⟩ u).setCell ⟨g, 1, none⟩ v).setCell ⟨g, 2, none⟩ t).cell? ⟨g, 0, none⟩ = some u ∧ (((w.setCell ⟨g, 0, none⟩ u).setCell ⟨g, 1, none⟩ v).setCell ⟨g, 2, none⟩ t).cell? ⟨g, 1, none⟩ = some v ∧ (((w.setCell ⟨g, 0, none⟩ u).setCell ⟨g, 1, none⟩ v).setCell ⟨g, 2, none⟩ t).cell? ⟨g, 2, none⟩ = some t := by
  obtain ⟨_, e2, e3⟩ := cells2 u v h0 h1
  have e4 : ((w.setCell ⟨g, 0, none⟩ u).setCell ⟨g, 1, none⟩ v).cell? ⟨g, 2, none⟩ = some z := by
    rw [World.cell?_setCell_other _ _ _ _ (by simp), World.cell?_setCell_other _ _ _ _ (by simp)]; exact h2
  exact ⟨by rw [World.cell?_setCell_other _ _ _ _ (by simp)]; exact e2, by rw [World.cell?_setCell_other _ _ _ _ (by simp)]; exact e3, World.cell?_setCell_same _ _ _ e4⟩
theorem Kept.freeS {L : List Nat} {w w' : World} {p : Addr} {v : Value} (h : Kept L w w') (hc : w.cell? p = some v) (hf : w.frozen? p = false) (hg : p.block ∉ L) : w'.frozen? p = false :=
  h.free hf (World.block_lt_of_cell? w p hc) hg
theorem cellset2S {w2 : World} {g : Nat} {p : Addr} {v v1 v2 : Value} (h : w2.cell? p = some v) (hg : p.block ≠ g) : ((w2.setCell ⟨g, 0, none⟩ v1).setCell ⟨g, 1, none⟩ v2).cell? p = some v :=
  (((Kept.refl [g] w2).setCell _ _ (by simp)).setCell _ _ (by simp)).cell h (by simpa using hg)
theorem set2S {W w2 : World} {g : Nat} {v1 v2 : Value} (h : Hid (Kept [g] W w2)) : Hid (Kept [g] W ((w2.setCell ⟨g, 0, none⟩ v1).setCell ⟨g, 1, none⟩ v2)) :=
  Lib.hid ((h.out.setCell _ _ (by simp)).setCell _ _ (by simp))
theorem emptyP {w : World} {g : Nat} (hg : w.heap.size = g) : (w.alloc (.cells #[] 77)).ownsRow g 77 2 (.slice (some ⟨g, 0, none⟩) 0 0) 0 [] := by
  subst hg
  exact ⟨rfl, Or.inr ⟨_, 0, #[], rfl, Nat.le_refl _, heap_alloc_new w _, Nat.le_refl _, by unfold maxLen; omega, rfl, rfl⟩⟩

set_option maxHeartbeats 1000000 in
theorem ClonePts_any (q : Option Addr) (n c : Nat) (xs : List Int) (w : World) (h : Rd w q (n * 2) xs) (hn : 0 < n) (hn2 : n ≤ 1000000) :
    Calls Try.prog 52 #[.slice q n c] w (NewPts w n xs) := by
  have hnil := fun (w : World) (a : Option Addr) (n c n' c' : Nat) => Lib.run_eql_slice_nil (P := Try.prog) w 27 77 a n c n' c' Try.underlying27
  have HR := Lib.hid h
  have HN := Lib.hid (And.intro hn hn2)
  obtain ⟨g0, off0, rfl, _⟩ := h.2.2 0 (by omega)
  clear h hn hn2
  go_enter Try.func52, Try.ntmps52
  go_wp2_with (at_builtin; refine appPS rfl _ _ rfl w.heap.size _ rfl (emptyP rfl) (some ⟨g0, off0, none⟩) n c xs rfl (HR.out.kept0 ((Kept.refl [] w).alloc _)) HN.out.1 HN.out.2 (by simp) ?_)
  intro g c' w1 hg hb hG
  have HK := Lib.hid (((Kept.refl [] w).alloc (.cells #[] 77)).grown hG (fun k hk hlt => by simp [Value.ownBlock] at hk; omega))
  have HB := Lib.hid hb
  clear hb hG
  go_wp2_with fail
  go_ret
  exact ⟨g, c', rfl, hg, HB.out, HK.out⟩

set_option maxHeartbeats 1000000 in
theorem copyOfShape_any (k : Int) (q : Option Addr) (n c : Nat) (xs : List Int) (w : World) (h : Rd w q (n * 2) xs) (hn : 0 < n) (hn2 : n ≤ 1000000) :
    Calls Try.prog 32 #[.agg #[.int .i64 k, .slice q n c]] w (fun e w' => ∃ g c', e = .returned (.agg #[.int .i64 k, .slice (some ⟨g, 0, none⟩) n c']) ∧ w.heap.size ≤ g ∧ Blk w' g xs ∧ Kept [] w w') := by
  have HR := Lib.hid h
  have HN := Lib.hid (And.intro hn hn2)
  clear h hn hn2
  go_enter Try.func32, Try.ntmps32
  have k0 := ((Kept.refl [] w).alloc (.cells #[.int .i64 k, .slice q n c] 29)).alloc (.cells #[.int .i64 0, .slice none 0 0] 29)
  have HR0 := Lib.hid (HR.out.kept0 k0)
  have K0 := Lib.hid k0
  have c0 := (Kept.refl [] ((w.alloc (.cells #[.int .i64 k, .slice q n c] 29)).alloc (.cells #[.int .i64 0, .slice none 0 0] 29))).peel.top rfl (by simp) 0 (v := .int .i64 k) rfl
  have c1 := (Kept.refl [] ((w.alloc (.cells #[.int .i64 k, .slice q n c] 29)).alloc (.cells #[.int .i64 0, .slice none 0 0] 29))).peel.top rfl (by simp) 1 (v := .slice q n c) rfl
  have d0 := (Kept.refl [] ((w.alloc (.cells #[.int .i64 k, .slice q n c] 29)).alloc (.cells #[.int .i64 0, .slice none 0 0] 29))).top (g := w.heap.size + 1) (by simp) (by simp) 0 (v := .int .i64 0) rfl
  have d1 := (Kept.refl [] ((w.alloc (.cells #[.int .i64 k, .slice q n c] 29)).alloc (.cells #[.int .i64 0, .slice none 0 0] 29))).top (g := w.heap.size + 1) (by simp) (by simp) 1 (v := .slice none 0 0) rfl
  generalize hW : (w.alloc (.cells #[.int .i64 k, .slice q n c] 29)).alloc (.cells #[.int .i64 0, .slice none 0 0] 29) = W at *
  have HW := Lib.hid hW
  clear hW k0
  obtain ⟨c0, _, _⟩ := c0
  obtain ⟨c1, _, _⟩ := c1
  obtain ⟨d0, f0, _⟩ := d0
  obtain ⟨d1, f1, _⟩ := d1
  go_wp2_with fail
  rw [HW.out]
  go_region_held3 (fun w' => w'.cell? ⟨w.heap.size, 0, none⟩ = some (.int .i64 k) ∧ w'.cell? ⟨w.heap.size, 1, none⟩ = some (.slice q n c) ∧ Hid (Kept [w.heap.size + 1] W w'))
    ((go_split_ands; (try refine ⟨?_, ?_, ?_⟩) <;> with_reducible first | exact Lib.hid ((Kept.refl _ _).drew) | exact drew_pt (by assumption) | exact set2S (by assumption) | exact cellset2S (by assumption) (by simp <;> omega) | exact Lib.hid (Kept.trans0 (Hid.out (by assumption)) (by assumption)) | exact Kept.cell (by assumption) (by assumption) (by simp)))
    (first | (go_at_call 52; go_split_ands; refine (ClonePts_any _ _ _ _ _ (HR0.out.kept0 (Kept.refl [] _).drew) HN.out.1 HN.out.2).mono ?_; rintro e v1 ⟨g, c', rfl, hg, hb, hk1⟩; have g0 := hk1.cell (drew_pt d0) (by simp); have g1 := hk1.cell (drew_pt d1) (by simp); have e0 := hk1.freeS (drew_pt d0) f0 (by simp); have e1 := hk1.freeS (drew_pt d1) f1 (by simp)))
  obtain ⟨_, eb, ec⟩ := cells2 (.int .i64 k) (.slice (some ⟨g, 0, none⟩) n c') g0 g1
  have hW2 : w.heap.size + 1 + 1 ≤ W.heap.size := by rw [← HW.out]; simp
  have hg' : w.heap.size + 1 + 1 ≤ g := Nat.le_trans hW2 hg
  have HB := Lib.hid ((hb.other ⟨w.heap.size + 1, 0, none⟩ (.int .i64 k) (by simp; omega)).other ⟨w.heap.size + 1, 1, none⟩ (.slice (some ⟨g, 0, none⟩) n c') (by simp; omega))
  have HK := Lib.hid (((K0.out.trans0 (Kept.trans0 (Kept.refl [] W).drew hk1)).setCell ⟨w.heap.size + 1, 0, none⟩ (.int .i64 k) (by simp)).setCell ⟨w.heap.size + 1, 1, none⟩ (.slice (some ⟨g, 0, none⟩) n c') (by simp))
  clear hb hk1 g0 g1 e0 e1 c0 c1 d0 d1 f0 f1
  generalize (v1.setCell ⟨w.heap.size + 1, 0, none⟩ (.int .i64 k)).setCell ⟨w.heap.size + 1, 1, none⟩ (.slice (some ⟨g, 0, none⟩) n c') = V at *
  go_wp2_with fail
  refine bodyPost_ret (v := .agg #[.int .i64 k, .slice (some ⟨g, 0, none⟩) n c']) (by simp [results, Try.results32, go_sem, eb, ec]) rfl ⟨g, c', rfl, by omega, HB.out, HK.out⟩

end Go.Proofs.Ytbljpeefekhoeab
