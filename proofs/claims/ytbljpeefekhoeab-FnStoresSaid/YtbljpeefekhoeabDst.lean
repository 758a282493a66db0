/-
  Several of my texts joined: the contracts of the functions that they name, each with the conditions that it states.
-/
import Derived.Test.YtbljpeefekhoeabStoT
import Derived.Test.YtbljpeefekhoeabStoS
import Derived.Test.YtbljpeefekhoeabStoY
import Derived.Laws.AppendOwnNone
namespace Go.Proofs.Ytbljpeefekhoeab
open Go.RowKit

theorem sameShp_refl (k : Int) (xs : List Int) (n : Nat) : sameShp k xs n k xs n = true := by simp [sameShp, samePts]
theorem sameSh_refl (s : Sh) : sameSh s s = true := by simp [sameSh, sameShp_refl]
theorem sameSto_refl (L : List Sh) : sameSto L L = true := sameSto_all rfl fun _ _ => sameSh_refl _

theorem okTo_iff {L : List Sh} : OkTo L L.length ↔ ∀ s ∈ L, namedC s = 0 := by
  constructor
  · intro h s hs
    obtain ⟨i, hi, rfl⟩ := mem_getD.1 hs
    exact h i hi
  · intro h i hi
    exact h _ (mem_getD.2 ⟨i, hi, rfl⟩)
theorem storeC_iff {L : List Sh} : storeC L = 0 ↔ L.length ≤ 10 ∧ (∀ s ∈ L, namedC s = 0) ∧ Apart L := by
  constructor
  · intro h
    obtain ⟨h1, h2, h3⟩ := storeC_ok h
    exact ⟨h1, okTo_iff.1 h2, h3.apart⟩
  · rintro ⟨h1, h2, h3⟩
    exact storeC_yes (by omega) (firstS_all (okTo_iff.2 h2)) (fun i hi => h3 i (i + 1) (by omega) hi)
theorem drop_store {L : List Sh} (h : storeC L = 0) (x : List UInt8) : storeC (dropL L x) = 0 := by
  obtain ⟨h1, h2, h3⟩ := storeC_iff.1 h
  exact storeC_iff.2 ⟨by have := drop_len L x; omega, fun s hs => h2 s (drop_mem.1 hs).1, drop_apart h3 x⟩
theorem put_store {L : List Sh} {s : Sh} (h : storeC L = 0) (hs : namedC s = 0) (hl : (putL L s).length ≤ 10) : storeC (putL L s) = 0 := by
  obtain ⟨h1, h2, h3⟩ := storeC_iff.1 h
  refine storeC_iff.2 ⟨hl, fun t ht => ?_, putL_apart h3 s⟩
  rcases insS_mem.1 ht with rfl | ht
  · exact hs
  · exact h2 t (drop_mem.1 ht).1

/-- What stands in a store is found by its name. -/
theorem got_mem {L : List Sh} (h : storeC L = 0) {t : Sh} (ht : t ∈ L) : getC L t.nm = 0 ∧ gotS L t.nm = t := by
  obtain ⟨i, hi, rfl⟩ := mem_getD.1 ht
  have e := fIx_of (storeC_iff.1 h).2.2 hi
  have := getC_yes h (x := (L.getD i sh0).nm) (by rw [e]; exact hi)
  rw [e] at this
  exact this
theorem get_no {L : List Sh} (h : storeC L = 0) {x : List UInt8} (hx : ∀ t ∈ L, t.nm ≠ x) : getC L x = 4 :=
  (getC_none h (fun hl => hx _ (mem_getD.2 ⟨_, hl, rfl⟩) (fIx_at hl))).1
theorem get_ok {L : List Sh} {x : List UInt8} (h : getC L x = 0) : storeC L = 0 ∧ fIx L x < L.length ∧ gotS L x ∈ L ∧ (gotS L x).nm = x := by
  by_cases h0 : storeC L = 0
  · by_cases hx : fIx L x < L.length
    · have e := (getC_yes h0 hx).2
      exact ⟨h0, hx, by rw [e]; exact mem_getD.2 ⟨_, hx, rfl⟩, by rw [e]; exact fIx_at hx⟩
    · rw [(getC_none h0 hx).1] at h; omega
  · rw [(getC_fault h0).1] at h; exact absurd h h0

/-- Two lists in order with the same members are the same. -/
theorem sorted_ext : ∀ {l m : List Sh}, l.Pairwise (fun s t => s.nm < t.nm) → m.Pairwise (fun s t => s.nm < t.nm) → (∀ s, s ∈ l ↔ s ∈ m) → l = m
  | [], [], _, _, _ => rfl
  | [], b :: m, _, _, h => absurd ((h b).2 List.mem_cons_self) (by simp)
  | a :: l, [], _, _, h => absurd ((h a).1 List.mem_cons_self) (by simp)
  | a :: l, b :: m, hl, hm, h => by
    obtain ⟨h1, h2⟩ := List.pairwise_cons.1 hl
    obtain ⟨g1, g2⟩ := List.pairwise_cons.1 hm
    have hab : a = b := by
      rcases List.mem_cons.1 ((h a).1 List.mem_cons_self) with e | ha
      · exact e
      · rcases List.mem_cons.1 ((h b).2 List.mem_cons_self) with e | hb
        · exact e.symm
        · exact absurd (List.lt_trans (g1 a ha) (h1 b hb)) (List.lt_irrefl _)
    subst hab
    congr 1
    refine sorted_ext h2 g2 fun s => ?_
    constructor
    · intro hs
      rcases List.mem_cons.1 ((h s).1 (List.mem_cons_of_mem _ hs)) with e | h'
      · subst e; exact absurd (h1 s hs) (List.lt_irrefl _)
      · exact h'
    · intro hs
      rcases List.mem_cons.1 ((h s).2 (List.mem_cons_of_mem _ hs)) with e | h'
      · subst e; exact absurd (g1 s hs) (List.lt_irrefl _)
      · exact h'
theorem apart_mem {L : List Sh} (h : Apart L) {s t : Sh} (hs : s ∈ L) (ht : t ∈ L) (e : s.nm = t.nm) : s = t := by
  obtain ⟨i, hi, rfl⟩ := mem_getD.1 hs
  obtain ⟨j, hj, rfl⟩ := mem_getD.1 ht
  by_cases hij : i = j
  · rw [hij]
  · exact absurd e (h.ne hi hj hij)
/-- What was dropped and is put again. -/
theorem put_drop {L : List Sh} {x : List UInt8} (h : getC L x = 0) : putL (dropL L x) (gotS L x) = L := by
  obtain ⟨h0, _, hm, hn⟩ := get_ok h
  have ha := (storeC_iff.1 h0).2.2
  refine sorted_ext (apart_iff.1 (putL_apart (drop_apart ha x) _)) (apart_iff.1 ha) fun s => ?_
  unfold putL
  rw [insS_mem, hn, drop_mem, drop_mem]
  constructor
  · rintro (rfl | h)
    · exact hm
    · exact h.1.1
  · intro hs
    by_cases e : s.nm = x
    · exact .inl (apart_mem ha hs hm (by rw [e, hn]))
    · exact .inr ⟨⟨hs, e⟩, e⟩
theorem drop_one {L : List Sh} {x : List UInt8} (h : getC L x = 0) : (dropL L x).length + 1 = L.length := by
  have := putL_len (dropL L x) (gotS L x)
  rw [put_drop h] at this
  obtain ⟨h0, _, hm, hn⟩ := get_ok h
  rw [this, hn]
  congr 1
  unfold dropL
  rw [List.filter_filter]
  congr 1
  refine List.filter_congr fun s _ => ?_
  simp

/-- What FnStores asks of what was dropped. -/
theorem dropS_facts {L : List Sh} {x : List UInt8} (h : getC L x = 0) : dropS L x = dropL L x ∧ getC (dropL L x) x = 4 ∧ storeC (dropL L x) = 0 ∧ (dropL L x).length + 1 = L.length ∧ putC (dropL L x) (gotS L x) = 0 ∧ putS (dropL L x) (gotS L x) = L ∧ storeC L = 0 := by
  obtain ⟨h0, h1, hm, hn⟩ := get_ok h
  have hp : putC (dropL L x) (gotS L x) = 0 := by
    unfold putC
    rw [if_pos (drop_store h0 x), if_pos ((storeC_iff.1 h0).2.1 _ hm), put_drop h, if_neg (by have := (storeC_iff.1 h0).1; omega)]
  exact ⟨by unfold dropS; exact if_pos h, get_no (drop_store h0 x) (fun t ht => (drop_mem.1 ht).2), drop_store h0 x, drop_one h, hp, by unfold putS; rw [if_pos hp, put_drop h], h0⟩
theorem putC_ok {L : List Sh} {s : Sh} (h : putC L s = 0) : storeC L = 0 ∧ namedC s = 0 ∧ (putL L s).length ≤ 10 ∧ putS L s = putL L s ∧ storeC (putL L s) = 0 := by
  have h0 := h
  unfold putC at h
  by_cases h1 : storeC L = 0
  · rw [if_pos h1] at h
    by_cases h2 : namedC s = 0
    · rw [if_pos h2] at h
      by_cases h3 : 10 < (putL L s).length
      · rw [if_pos h3] at h; omega
      · exact ⟨h1, h2, by omega, by unfold putS; exact if_pos h0, put_store h1 h2 (by omega)⟩
    · rw [if_neg h2] at h; exact absurd h h2
  · rw [if_neg h1] at h; exact absurd h h1
/-- What FnStores asks of what was put. -/
theorem put_self {L : List Sh} {s : Sh} (h : putC L s = 0) : getC (putL L s) s.nm = 0 ∧ gotS (putL L s) s.nm = s := by
  obtain ⟨_, _, _, _, h5⟩ := putC_ok h
  exact got_mem h5 (insS_mem.2 (.inl rfl))
theorem put_other {L : List Sh} {s t : Sh} (h : putC L s = 0) (ht : t ∈ L) (hne : t.nm ≠ s.nm) : gotS (putL L s) t.nm = t := by
  obtain ⟨_, _, _, _, h5⟩ := putC_ok h
  exact (got_mem h5 (insS_mem.2 (.inr (drop_mem.2 ⟨ht, hne⟩)))).2
theorem putS_no {L : List Sh} {s : Sh} (h : putC L s ≠ 0) : putS L s = [] := by unfold putS; exact if_neg h
theorem dropS_no {L : List Sh} {x : List UInt8} (h : getC L x ≠ 0) : dropS L x = [] := by unfold dropS; exact if_neg h

end Go.Proofs.Ytbljpeefekhoeab

namespace Go.Proofs.Ytbljpeefekhoeab
open Go.RowKit

/-- These cells are those of named shapes, whose points lie from block B on. -/
def StX (B : Nat) (w : World) (xs : List Value) (L : List Sh) : Prop :=
  xs.length = L.length * 3 ∧ ∀ i, i < L.length → ∃ p c, xs[i * 3]? = some (.string (strB (L.getD i sh0).nm)) ∧ xs[i * 3 + 1]? = some (.int .i64 (L.getD i sh0).k) ∧ xs[i * 3 + 2]? = some (.slice p (L.getD i sh0).n c) ∧
    Rd w p ((L.getD i sh0).n * 2) (L.getD i sh0).xs ∧ Fr B p ((L.getD i sh0).n * 2) ∧ (L.getD i sh0).nm.length ≤ 12
theorem StX.nil (B : Nat) (w : World) : StX B w [] [] := ⟨rfl, fun i hi => by simp at hi⟩
theorem getD_app_l {L M : List Sh} {i : Nat} (h : i < L.length) : (L ++ M).getD i sh0 = L.getD i sh0 := by
  rw [List.getD_eq_getElem?_getD, List.getElem?_append_left h, ← List.getD_eq_getElem?_getD]
theorem getD_app_r {L M : List Sh} {i : Nat} (h : L.length ≤ i) : (L ++ M).getD i sh0 = M.getD (i - L.length) sh0 := by
  rw [List.getD_eq_getElem?_getD, List.getElem?_append_right h, ← List.getD_eq_getElem?_getD]
theorem StX.app {B : Nat} {w : World} {xs ys : List Value} {L M : List Sh} (h : StX B w xs L) (h' : StX B w ys M) : StX B w (xs ++ ys) (L ++ M) := by
  obtain ⟨h1, h2⟩ := h
  obtain ⟨g1, g2⟩ := h'
  refine ⟨by rw [List.length_append, List.length_append, h1, g1]; omega, fun i hi => ?_⟩
  rw [List.length_append] at hi
  by_cases hl : i < L.length
  · obtain ⟨p, c, a0, a1, a2, r⟩ := h2 i hl
    rw [getD_app_l hl]
    exact ⟨p, c, by rw [List.getElem?_append_left (by omega)]; exact a0, by rw [List.getElem?_append_left (by omega)]; exact a1, by rw [List.getElem?_append_left (by omega)]; exact a2, r⟩
  · obtain ⟨p, c, a0, a1, a2, r⟩ := g2 (i - L.length) (by omega)
    rw [getD_app_r (by omega)]
    refine ⟨p, c, ?_, ?_, ?_, r⟩
    · rw [List.getElem?_append_right (by omega), show i * 3 - xs.length = (i - L.length) * 3 by omega]; exact a0
    · rw [List.getElem?_append_right (by omega), show i * 3 + 1 - xs.length = (i - L.length) * 3 + 1 by omega]; exact a1
    · rw [List.getElem?_append_right (by omega), show i * 3 + 2 - xs.length = (i - L.length) * 3 + 2 by omega]; exact a2
theorem StX.kept {B : Nat} {w w' : World} {xs : List Value} {L : List Sh} {M : List Nat} (h : StX B w xs L) (k : Kept M w w') (hM : ∀ x, x ∈ M → x < B) : StX B w' xs L := by
  obtain ⟨h1, h2⟩ := h
  refine ⟨h1, fun i hi => ?_⟩
  obtain ⟨p, c, a0, a1, a2, r, f, nm⟩ := h2 i hi
  exact ⟨p, c, a0, a1, a2, r.kept k (fun hn x hx hm => by have := f hn x hx; have := hM _ hm; omega), f, nm⟩
theorem StX.mono {B B' : Nat} {w : World} {xs : List Value} {L : List Sh} (h : StX B w xs L) (hB : B' ≤ B) : StX B' w xs L :=
  ⟨h.1, fun i hi => by obtain ⟨p, c, a0, a1, a2, r, f, nm⟩ := h.2 i hi; exact ⟨p, c, a0, a1, a2, r, f.mono hB, nm⟩⟩
theorem StX.one {B : Nat} {w : World} {s : Sh} {p : Option Addr} {c : Nat} (r : Rd w p (s.n * 2) s.xs) (f : Fr B p (s.n * 2)) (hn : s.nm.length ≤ 12) : StX B w [.string (strB s.nm), .int .i64 s.k, .slice p s.n c] [s] :=
  ⟨rfl, fun i hi => by
    obtain rfl : i = 0 := by simp at hi; omega
    exact ⟨p, c, rfl, rfl, rfl, r, f, hn⟩⟩

/-- The points lie in other blocks than the list. -/
def SepX (v : Value) (xs : List Value) (L : List Sh) : Prop := ∀ i, i < L.length → ∀ p m c, xs[i * 3 + 2]? = some (.slice p m c) → 0 < m → ∀ x, p = some x → v.ownBlock ≠ some x.block
theorem StX.keptO {B : Nat} {w w' : World} {v : Value} {xs : List Value} {L : List Sh} (h : StX B w xs L) (s : SepX v xs L) (k : Kept v.ownBlock.toList w w') : StX B w' xs L := by
  obtain ⟨h1, h2⟩ := h
  refine ⟨h1, fun i hi => ?_⟩
  obtain ⟨p, c, a0, a1, a2, r, f, nm⟩ := h2 i hi
  exact ⟨p, c, a0, a1, a2, r.kept k (fun hn x hx hm => s i hi p _ c a2 (by omega) x hx (by simpa using hm)), f, nm⟩
/-- A drawn store. -/
def DSto (B : Nat) (w : World) (v : Value) (L : List Sh) : Prop := ∃ xs, w.ownsRow B 49 3 v L.length xs ∧ StX B w xs L ∧ SepX v xs L
/-- A drawn store that may be bent. -/
def DStR (B : Nat) (w : World) (v : Value) (L : List Sh) : Prop := ∃ xs, w.ownsRow B 49 3 v L.length xs ∧ StX B w xs L
theorem DSto.weak {B : Nat} {w : World} {v : Value} {L : List Sh} (h : DSto B w v L) : DStR B w v L := by
  obtain ⟨xs, h1, h2, _⟩ := h
  exact ⟨xs, h1, h2⟩
theorem DSto.nil (B : Nat) (w : World) : DSto B w (.slice none 0 0) [] := ⟨[], ⟨rfl, .inl ⟨rfl, rfl⟩⟩, StX.nil B w, fun i hi => by simp at hi⟩
theorem ownsRow_kept {B s n : Nat} {T : TypeId} {w w' : World} {v : Value} {xs : List Value} {L : List Nat} (h : w.ownsRow B T s v n xs) (k : Kept L w w') (hL : ∀ g, v.ownBlock = some g → g ∉ L) : w'.ownsRow B T s v n xs := by
  have hlt := World.ownsRow.lt h
  obtain ⟨h1, h2⟩ := h
  refine ⟨h1, ?_⟩
  rcases h2 with h2 | ⟨g, cap, cur, hv, hg, hh, r⟩
  · exact Or.inl h2
  · exact Or.inr ⟨g, cap, cur, hv, hg, by rw [k.block g (hlt g (by rw [hv]; rfl)).2 (hL g (by rw [hv]; rfl))]; exact hh, r⟩
theorem DSto.kept {B : Nat} {w w' : World} {v : Value} {L : List Sh} {M : List Nat} (h : DSto B w v L) (k : Kept M w w') (hM : ∀ x, x ∈ M → x < B) : DSto B w' v L := by
  obtain ⟨xs, h1, h2, h3⟩ := h
  exact ⟨xs, ownsRow_kept h1 k (fun g hg hm => by have := (World.ownsRow.lt h1 g hg).1; have := hM g hm; omega), h2.kept k hM, h3⟩
theorem DStR.kept {B : Nat} {w w' : World} {v : Value} {L : List Sh} {M : List Nat} (h : DStR B w v L) (k : Kept M w w') (hM : ∀ x, x ∈ M → x < B) : DStR B w' v L := by
  obtain ⟨xs, h1, h2⟩ := h
  exact ⟨xs, ownsRow_kept h1 k (fun g hg hm => by have := (World.ownsRow.lt h1 g hg).1; have := hM g hm; omega), h2.kept k hM⟩
theorem DStR.kept0 {B : Nat} {w w' : World} {v : Value} {L : List Sh} (h : DStR B w v L) (k : Kept [] w w') : DStR B w' v L := h.kept k (by simp)
theorem DStR.mono {B B' : Nat} {w : World} {v : Value} {L : List Sh} (h : DStR B w v L) (hB : B' ≤ B) : DStR B' w v L := by
  obtain ⟨xs, ⟨h1, h3⟩, h2⟩ := h
  refine ⟨xs, ⟨h1, ?_⟩, h2.mono hB⟩
  rcases h3 with h3 | ⟨g, cap, cur, hv, hg, r⟩
  · exact .inl h3
  · exact .inr ⟨g, cap, cur, hv, Nat.le_trans hB hg, r⟩
theorem DSto.kept0 {B : Nat} {w w' : World} {v : Value} {L : List Sh} (h : DSto B w v L) (k : Kept [] w w') : DSto B w' v L := h.kept k (by simp)
theorem DSto.mono {B B' : Nat} {w : World} {v : Value} {L : List Sh} (h : DSto B w v L) (hB : B' ≤ B) : DSto B' w v L := by
  obtain ⟨xs, ⟨h1, h3⟩, h2, h4⟩ := h
  refine ⟨xs, ⟨h1, ?_⟩, h2.mono hB, h4⟩
  rcases h3 with h3 | ⟨g, cap, cur, hv, hg, r⟩
  · exact .inl h3
  · exact .inr ⟨g, cap, cur, hv, Nat.le_trans hB hg, r⟩
theorem DStR.form {B : Nat} {w : World} {v : Value} {L : List Sh} (h : DStR B w v L) : ∃ a c, v = .slice a L.length c := by
  obtain ⟨xs, ⟨_, h3⟩, _⟩ := h
  rcases h3 with ⟨hv, h0⟩ | ⟨g, cap, cur, hv, _⟩
  · exact ⟨none, 0, by rw [h0]; exact hv⟩
  · exact ⟨_, _, hv⟩
theorem DSto.form {B : Nat} {w : World} {v : Value} {L : List Sh} (h : DSto B w v L) : ∃ a c, v = .slice a L.length c := h.weak.form
theorem DStR.rd {B : Nat} {w : World} {a : Option Addr} {n c : Nat} {L : List Sh} (h : DStR B w (.slice a n c) L) (hl : L.length ≤ 1000) : n = L.length ∧ RdSt w a L.length L := by
  obtain ⟨xs, ⟨_, h3⟩, h2⟩ := h
  rcases h3 with ⟨hv, h0⟩ | ⟨g, cap, cur, hv, _, hh, hc, hm, hs, ht⟩
  · simp only [Value.slice.injEq] at hv
    exact ⟨by omega, rfl, by omega, fun i hi => by omega⟩
  · simp only [Value.slice.injEq] at hv
    obtain ⟨rfl, rfl, rfl⟩ := hv
    refine ⟨rfl, rfl, by omega, fun i hi => ?_⟩
    obtain ⟨p, d, a0, a1, a2, r, _, nm⟩ := h2.2 i hi
    have cell : ∀ (j : Nat) (u : Value), xs[j]? = some u → w.cell? ⟨g, 0 + j, none⟩ = some u := by
      intro j u hj
      rw [← ht, List.getElem?_take] at hj
      split at hj
      · rw [Array.getElem?_toList] at hj
        rw [Nat.zero_add, cell_of_row w g j cur _ _ hh]
        exact hj
      · cases hj
    exact ⟨g, 0, p, d, rfl, cell _ _ a0, cell _ _ a1, cell _ _ a2, r, by omega⟩
theorem DSto.rd {B : Nat} {w : World} {a : Option Addr} {n c : Nat} {L : List Sh} (h : DSto B w (.slice a n c) L) (hl : L.length ≤ 1000) : n = L.length ∧ RdSt w a L.length L := h.weak.rd hl
theorem DSto.ofPut {B : Nat} {w : World} {u : Value} {M : List Sh} (h : StV B w u M.length M) (hc : CapV w u M.length) (hn : ∀ i, i < M.length → (M.getD i sh0).nm.length ≤ 12) : DSto B w u M := by
  rcases h.2 with ⟨h0, rfl⟩ | ⟨g, gs, cs, c, rfl, ⟨_, _, hr, hp⟩, hA⟩
  · have : M = [] := List.length_eq_zero_iff.1 h0
    subst this
    exact DSto.nil B w
  · rcases hc with ⟨hv, _⟩ | ⟨g', c', cur, hv, hh, h1, h2, h3⟩
    · cases hv
    · simp only [Value.slice.injEq, Option.some.injEq, Addr.mk.injEq, and_true, true_and] at hv
      obtain ⟨rfl, rfl⟩ := hv
      obtain ⟨cur', e1, e2, e3⟩ := hr
      have hcc : cur = cur'.1 := by
        rw [hh] at e1
        simpa using congrArg (fun o => match o with | some (Obj.cells c _ _) => c | _ => #[]) e1
      have get : ∀ j, j < M.length * 3 → (cur.toList.take (M.length * 3))[j]? = some (stF M gs cs j) := by
        intro j hj
        rw [List.getElem?_take, if_pos hj, Array.getElem?_toList, hcc]
        exact e3 j hj
      have hlen : (cur.toList.take (M.length * 3)).length = M.length * 3 := by rw [List.length_take]; have h7 : cur.toList.length = cur.size := Array.length_toList; omega
      refine ⟨cur.toList.take (M.length * 3), ⟨hlen, .inr ⟨g, c, cur, rfl, hA.1, hh, h1, h2, h3, rfl⟩⟩, ⟨hlen, fun i hi => ?_⟩, fun i hi p m c9 hp9 hm9 x hx e9 => ?_⟩
      rotate_left 1
      · rw [get _ (by omega), stF_2] at hp9
        simp only [Option.some.injEq, Value.slice.injEq] at hp9
        obtain ⟨hp9, _⟩ := hp9
        rw [← hp9] at hx
        cases hx
        have hq := (hp i hi).2.2.2.2.1
        exact hq (by simpa [Value.ownBlock] using e9.symm)
      obtain ⟨p1, p2, p3, p4, _⟩ := hp i hi
      refine ⟨some ⟨gs i, 0, none⟩, cs i, ?_, ?_, ?_, rd_newP p1 p2 (by omega), fun _ x hx => by cases hx; exact hA.2 i hi, hn i hi⟩
      · rw [get _ (by omega), stF_0]
      · rw [get _ (by omega), stF_1]
      · rw [get _ (by omega), stF_2]

end Go.Proofs.Ytbljpeefekhoeab

namespace Go.Proofs.Ytbljpeefekhoeab
open Go.RowKit

theorem StX.one' {B : Nat} {w : World} {xs : List Value} {L : List Sh} (h : StX B w xs L) : ∀ u ∈ xs, u.oneCell' = true := by
  intro u hu
  obtain ⟨j, hj, rfl⟩ := List.mem_iff_getElem.1 hu
  have hl := h.1
  obtain ⟨p, c, a0, a1, a2, _⟩ := h.2 (j / 3) (by omega)
  have hj' : xs[j]? = some xs[j] := List.getElem?_eq_getElem hj
  rcases (by omega : j = j / 3 * 3 ∨ j = j / 3 * 3 + 1 ∨ j = j / 3 * 3 + 2) with e | e | e
  · rw [← e, hj'] at a0; simp only [Option.some.injEq] at a0; rw [a0]; rfl
  · rw [← e, hj'] at a1; simp only [Option.some.injEq] at a1; rw [a1]; rfl
  · rw [← e, hj'] at a2; simp only [Option.some.injEq] at a2; rw [a2]; rfl
theorem kept_ownD {w w' : World} {v : Value} (hG : w.grownBy w' v.ownBlock) : Kept v.ownBlock.toList w w' :=
  (Kept.refl _ w).grown hG (fun k hk _ => by rw [hk]; simp)
/-- A list of the call's own, at its own end. -/
theorem appSelf {w : World} {ops : Array Oper} {rest : List Oper} {o : Oper} {a : Act} {Q : Exit → Act → World → Prop} (hgd : o.guard = none) (s x : Operand)
    (ho : o.op = .call { callee := .builtin .append, args := #[s, x], argTypes := #[24, 24] })
    (B : Nat) (v : Value) (n : Nat) (xs : List Value) (hs : a.eval s = v) (hx : a.eval x = v) (hown : w.ownsRow B 49 3 v n xs) (h1c : ∀ u ∈ xs, u.oneCell' = true) (hl : n ≤ 1000) (h0 : 0 < n) (hB : B ≤ w.heap.size)
    (h : ∀ v' w', w'.ownsRow B 49 3 v' (n + n) (xs ++ xs) → w.grownBy w' v.ownBlock → wpList Try.prog ops Q rest (a.put o.dst v') w') :
    wpList Try.prog ops Q (o :: rest) a w := by
  obtain ⟨i0, hi, hz0, hz1, hz2⟩ := info_parts Try.infoNm
  have hown' := hown
  rcases hown.2 with ⟨_, h0'⟩ | ⟨g, cap, cur, hv, hg, hh, hc, hm, hsz, ht⟩
  · omega
  · refine wpList_append_own_wide w hgd s x 24 ho B 49 i0 (.agg #[.string ⟨#[]⟩, .int .i64 0, .slice none 0 0]) 3 48 Try.underlying24 hi hz0 hz1 hz2 rfl (by decide) v n xs hs hown' ⟨g, 0, none⟩ n cap xs (by rw [hx, hv]) hown.1 ?_ h1c ?_ ?_ hB ?_
    · intro j u hj
      rw [← ht, List.getElem?_take] at hj
      split at hj
      · rw [Array.getElem?_toList] at hj
        rw [Addr.add_lit, Nat.zero_add, cell_of_row w g j cur _ _ hh]
        exact hj
      · cases hj
    · unfold maxLen; omega
    · omega
    · intro v' w' h1 h2 _
      exact h v' w' h1 h2
theorem appNil {w : World} {ops : Array Oper} {rest : List Oper} {o : Oper} {a : Act} {Q : Exit → Act → World → Prop} (hgd : o.guard = none) (s x : Operand)
    (ho : o.op = .call { callee := .builtin .append, args := #[s, x], argTypes := #[24, 24] })
    (hs : a.eval s = .slice none 0 0) (hx : a.eval x = .slice none 0 0)
    (h : wpList Try.prog ops Q rest (a.put o.dst (.slice none 0 0)) w) :
    wpList Try.prog ops Q (o :: rest) a w := by
  obtain ⟨i0, hi, hz0, hz1, hz2⟩ := info_parts Try.infoNm
  exact wpList_append_own_none hgd s x _ ho 0 _ i0 3 Try.underlying24 hi (.slice none 0 0) 0 [] hs ⟨rfl, .inl ⟨rfl, rfl⟩⟩ hx h
theorem StX.head {B : Nat} {w : World} {zs : List Value} {N : List Sh} (h : StX B w zs N) (h0 : 0 < N.length) : ∃ s, zs[0]? = some (.string s) := by
  obtain ⟨p, c, a0, _⟩ := h.2 0 h0
  exact ⟨_, by simpa using a0⟩
theorem ownsRow_ne {w : World} {B n : Nat} {T : TypeId} {v : Value} {zs : List Value} (h : w.ownsRow B T 3 v n zs) {s : ByteArray} (h0 : zs[0]? = some (.string s)) {O : Nat} {u : Value} (hc : w.cell? ⟨O, 0, none⟩ = some u) (hu : ∀ s, u ≠ .string s) : v.ownBlock ≠ some O := by
  intro he
  rcases h.2 with ⟨hv, _⟩ | ⟨g, cap, cur, hv, _, hh, _, _, _, ht⟩
  · rw [hv] at he; cases he
  · rw [hv] at he
    have hg : g = O := by simpa [Value.ownBlock] using he
    subst hg
    rw [← ht, List.getElem?_take] at h0
    split at h0
    · rw [Array.getElem?_toList] at h0
      rw [cell_of_row w g 0 cur _ _ hh, h0] at hc
      simp only [Option.some.injEq] at hc
      exact hu s hc.symm
    · cases h0
/-- The points of a drawn store stay where they are while the list grows and boxes made later are written. -/
theorem StX.far {B g : Nat} {w2 wF : World} {v : Value} {xs : List Value} {L : List Sh} (h : StX B w2 xs L) (s : SepX v xs L) (hg : g < B) (k : Kept (g :: v.ownBlock.toList) w2 wF) : StX B wF xs L := by
  obtain ⟨h1, h2⟩ := h
  refine ⟨h1, fun i hi => ?_⟩
  obtain ⟨p, c, a0, a1, a2, r, f, nm⟩ := h2 i hi
  refine ⟨p, c, a0, a1, a2, r.kept k (fun hn x hx hm => ?_), f, nm⟩
  rcases List.mem_cons.1 hm with e | hm
  · have := f hn x hx; omega
  · exact s i hi p _ c a2 (by omega) x hx (by simpa using hm)

end Go.Proofs.Ytbljpeefekhoeab
