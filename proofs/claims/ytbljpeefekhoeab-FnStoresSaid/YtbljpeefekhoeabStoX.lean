/-
  Several of my texts joined: the contracts of the functions that they name, each with the conditions that it states.
-/
import Derived.Deep.RegionHeld3
import Derived.Deep.DrawnRows
import Derived.Deep.DeepCutAuto
import Derived.Test.YtbljpeefekhoeabStoN
import Derived.Test.YtbljpeefekhoeabCooA
import Derived.Test.YtbljpeefekhoeabMkS
import Derived.Test.YtbljpeefekhoeabStoI
namespace Go.Proofs.Ytbljpeefekhoeab
open Go.RowKit

/-- A call that answers a store in blocks of its own. -/
def NewSto (w : World) (n : Nat) (L : List Sh) (e : Ending) (w' : World) : Prop :=
  ∃ g gs, e = .returned (.agg #[.slice (some ⟨g, 0, none⟩) n n]) ∧ StB w' g gs (nOf L) n L ∧ StA w.heap.size g gs n ∧ Kept [] w w'
theorem StB.other {w : World} {g : Nat} {gs cs : Nat → Nat} {n : Nat} {L : List Sh} (h : StB w g gs cs n L) (a : Addr) (v : Value) (hg : g ≠ a.block) (hgs : ∀ i, i < n → gs i ≠ a.block) : StB (w.setCell a v) g gs cs n L := by
  obtain ⟨h1, h2, h3, h4⟩ := h
  exact ⟨h1, h2, h3.other _ _ hg, fun i hi => ⟨(h4 i hi).1.other _ _ (hgs i hi), (h4 i hi).2⟩⟩
theorem StA.mono {B B' g : Nat} {gs : Nat → Nat} {n : Nat} (h : StA B g gs n) (hB : B' ≤ B) : StA B' g gs n := ⟨Nat.le_trans hB h.1, fun i hi => Nat.le_trans hB (h.2 i hi)⟩

end Go.Proofs.Ytbljpeefekhoeab

namespace Go.Proofs.Ytbljpeefekhoeab
open Go.RowKit

/-- The text that marks. -/
def mkT (u : Nat) : List UInt8 := 109 :: Lib.decDigits u
/-- What is left of the digits. -/
def DigLeft (u j : Nat) (D : List UInt8) : Prop := Lib.decDigits u = if j = 0 then D else Lib.decDigits j ++ D
theorem digLeft_step {u j : Nat} {D : List UInt8} (h : DigLeft u j D) (hj : 0 < j) : DigLeft u (j / 10) (dg j :: D) := by
  unfold DigLeft at h ⊢
  rw [if_neg (by omega)] at h
  by_cases h10 : j < 10
  · rw [if_pos (by omega), h, dec_one h10]; rfl
  · rw [if_neg (by omega), h, dec_step (by omega)]; simp
theorem decLen (u : Nat) (h : u ≤ 9223372036854775807) : (Lib.decDigits u).length ≤ 19 := decD_len (k := 19) (by omega) (by omega)
theorem digLeft_len {u j : Nat} {D : List UInt8} (h : DigLeft u j D) (hu : u ≤ 9223372036854775807) : D.length ≤ 19 := by
  have h1 := decLen u hu
  unfold DigLeft at h
  rw [h] at h1
  split at h1
  · exact h1
  · rw [List.length_append] at h1; omega

/-- The mark at a place. -/
def kAt (L : List Sh) (k : Int) : Nat → Int
  | 0 => k
  | i + 1 => kAt L k i + 2 + ((L.getD i sh0).n * 2 : Nat)
theorem kAt_le (L : List Sh) (k : Int) (i : Nat) : k ≤ kAt L k i ∧ kAt L k i ≤ k + 2 * i + 2 * (szAt L i : Nat) := by
  induction i with
  | zero => simp [kAt, szAt]
  | succ i ih => simp only [kAt, szAt]; omega
def mrk (L : List Sh) (k : Int) (i : Nat) : Sh := ⟨mkT (kAt L k i).toNat, kAt L k i + 1, (L.getD i sh0).n, cnt (kAt L k i + 2) ((L.getD i sh0).n * 2)⟩
/-- The named shapes, the first j of them marked. -/
def markL (L : List Sh) (k : Int) (j : Nat) : List Sh := (List.range L.length).map fun i => if i < j then mrk L k i else L.getD i sh0
theorem markL_len (L : List Sh) (k : Int) (j : Nat) : (markL L k j).length = L.length := by simp [markL]
theorem markL_at {L : List Sh} (k : Int) (j : Nat) {i : Nat} (h : i < L.length) : (markL L k j).getD i sh0 = if i < j then mrk L k i else L.getD i sh0 := by
  simp [markL, List.getD_eq_getElem?_getD, h]
theorem StB.congr {w : World} {g : Nat} {gs cs : Nat → Nat} {n : Nat} {L M : List Sh} (h : StB w g gs cs n L) (hl : M.length = n) (he : ∀ i, i < n → M.getD i sh0 = L.getD i sh0) : StB w g gs cs n M := by
  obtain ⟨h1, h2, h3, h4⟩ := h
  refine ⟨hl, h2, h3.congr (fun j hj => ?_), fun i hi => by rw [he i hi]; exact h4 i hi⟩
  unfold stF
  rw [he (j / 3) (by omega)]
theorem StB.upd {w w' : World} {g : Nat} {gs cs : Nat → Nat} {n : Nat} {M M' : List Sh} (h : StB w g gs cs n M) {j : Nat} (hj : j < n) {s : Sh} (hl : M'.length = n) (ho : ∀ i, i < n → i ≠ j → M'.getD i sh0 = M.getD i sh0) (hs : M'.getD j sh0 = s)
    (hn : s.n = (M.getD j sh0).n) (hxs : s.xs.length = s.n * 2) (hnm : s.nm.length ≤ 2000000)
    (hr : RowF w' g (n * 3) (fun t => if t = j * 3 + 1 then .int .i64 s.k else if t = j * 3 then .string (strB s.nm) else stF M gs cs t)) (hb : Blk w' (gs j) s.xs) (hbo : ∀ i, i < n → i ≠ j → Blk w' (gs i) (M.getD i sh0).xs) : StB w' g gs cs n M' := by
  obtain ⟨h1, h2, h3, h4⟩ := h
  refine ⟨hl, h2, hr.congr (fun t ht => ?_), fun i hi => ?_⟩
  · by_cases e1 : t = j * 3 + 1
    · subst e1; simp only [if_true]; rw [stF_1, hs]
    · rw [if_neg e1]
      by_cases e0 : t = j * 3
      · subst e0; rw [if_pos rfl, stF_0, hs]
      · rw [if_neg e0]
        by_cases e2 : t = j * 3 + 2
        · subst e2; rw [stF_2, stF_2, hs, hn]
        · unfold stF
          rw [ho (t / 3) (by omega) (by omega)]
  · obtain ⟨q1, q2, q3, q4, q5⟩ := h4 i hi
    by_cases e : i = j
    · subst e
      rw [hs]
      exact ⟨hb, hxs, by rw [hn]; exact q3, hnm, q5⟩
    · rw [ho i hi e]
      exact ⟨hbo i hi e, q2, q3, q4, q5⟩

/-- The blocks of a store. -/
def blksS (g : Nat) (gs : Nat → Nat) (n : Nat) : List Nat := g :: (List.range n).map gs
theorem blksS_mem {g : Nat} {gs : Nat → Nat} {n i : Nat} (h : i < n) : gs i ∈ blksS g gs n := List.mem_cons_of_mem _ (List.mem_map.2 ⟨i, List.mem_range.2 h, rfl⟩)
theorem blksS_g (g : Nat) (gs : Nat → Nat) (n : Nat) : g ∈ blksS g gs n := List.mem_cons_self
theorem StA.blks {B g : Nat} {gs : Nat → Nat} {n : Nat} (h : StA B g gs n) : ∀ x ∈ blksS g gs n, B ≤ x := by
  intro x hx
  rcases List.mem_cons.1 hx with rfl | hx
  · exact h.1
  · obtain ⟨i, hi, rfl⟩ := List.mem_map.1 hx
    exact h.2 i (List.mem_range.1 hi)

theorem Kept.freeS0 {L : List Nat} {w w' : World} {p : Addr} {v : Value} (h : Kept L w w') (hc : w.cell? p = some v) (hf : w.frozen? p = false) (hg : p.block ∉ L) : w'.frozen? p = false :=
  h.free hf (World.block_lt_of_cell? w p hc) hg

end Go.Proofs.Ytbljpeefekhoeab

namespace Go.Proofs.Ytbljpeefekhoeab
open Go.RowKit

end Go.Proofs.Ytbljpeefekhoeab

namespace Go.Proofs.Ytbljpeefekhoeab
open Go.RowKit

theorem stb_in {w : World} {g : Nat} {gs cs : Nat → Nat} {n : Nat} {L : List Sh} (h : StB w g gs cs n L) : ∀ x ∈ blksS g gs n, x < w.heap.size := by
  intro x hx
  rcases List.mem_cons.1 hx with rfl | hx
  · exact h.2.2.1.lt
  · obtain ⟨i, hi, rfl⟩ := List.mem_map.1 hx
    exact (h.2.2.2 i (List.mem_range.1 hi)).1.lt
/-- A slice of named shapes in blocks from B on, below D; or none of it. -/
def StW (B D : Nat) (w : World) (v : Value) (n : Nat) (M : List Sh) : Prop :=
  M.length = n ∧ ((n = 0 ∧ v = .slice none 0 0) ∨ ∃ g gs cs c, v = .slice (some ⟨g, 0, none⟩) n c ∧ StB w g gs cs n M ∧ ∀ x ∈ blksS g gs n, B ≤ x ∧ x < D)
theorem StV.w {B : Nat} {w : World} {v : Value} {n : Nat} {M : List Sh} (h : StV B w v n M) : StW B w.heap.size w v n M := by
  refine ⟨h.1, ?_⟩
  rcases h.2 with h0 | ⟨g, gs, cs, c, hv, hs, ha⟩
  · exact .inl h0
  · exact .inr ⟨g, gs, cs, c, hv, hs, fun x hx => ⟨ha.blks x hx, stb_in hs x hx⟩⟩
theorem StW.rd {B D : Nat} {w : World} {a : Option Addr} {m c n : Nat} {M : List Sh} (h : StW B D w (.slice a m c) n M) : RdSt w a n M := by
  rcases h.2 with ⟨h0, hv⟩ | ⟨g, gs, cs, c', hv, hs, _⟩
  · cases hv
    subst h0
    exact ⟨h.1, by omega, fun i hi => by omega⟩
  · cases hv
    exact hs.rd
theorem StW.form {B D : Nat} {w : World} {v : Value} {n : Nat} {M : List Sh} (h : StW B D w v n M) : ∃ a c, v = .slice a n c := by
  rcases h.2 with ⟨rfl, rfl⟩ | ⟨g, gs, cs, c, hv, _⟩
  · exact ⟨none, 0, rfl⟩
  · exact ⟨_, c, hv⟩
theorem StW.kept {B D : Nat} {L : List Nat} {w w' : World} {v : Value} {n : Nat} {M : List Sh} (h : StW B D w v n M) (k : Kept L w w') (hL : ∀ x, x ∈ L → x < B ∨ D ≤ x) : StW B D w' v n M := by
  refine ⟨h.1, ?_⟩
  rcases h.2 with h0 | ⟨g, gs, cs, c, hv, hs, ha⟩
  · exact .inl h0
  · exact .inr ⟨g, gs, cs, c, hv, hs.kept k (fun hm => by have := hL _ hm; have := ha _ (blksS_g g gs n); omega) (fun i hi hm => by have := hL _ hm; have := ha _ (blksS_mem hi); omega), ha⟩
theorem StW.kept0 {B D : Nat} {w w' : World} {v : Value} {n : Nat} {M : List Sh} (h : StW B D w v n M) (k : Kept [] w w') : StW B D w' v n M := h.kept k (by simp)
def StM (B D : Nat) (w : World) (v : Value) (n : Nat) (M : List Sh) (k : Int) (e : Ending) (w' : World) : Prop :=
  e = .returned (.int .i64 (kAt M k n)) ∧ StW B D w' v n (markL M k n) ∧ ∃ L, (∀ x, x ∈ L → B ≤ x ∧ x < D) ∧ Kept L w w'

theorem szAt_max (M : List Sh) (c : Nat) : ∀ n, (∀ i, i < n → (M.getD i sh0).nm.length + (M.getD i sh0).n ≤ c) → szAt M n ≤ n * c
  | 0, _ => by simp [szAt]
  | n + 1, h => by
    have h1 := szAt_max M c n (fun i hi => h i (by omega))
    have h2 := h n (by omega)
    simp only [szAt]
    rw [Nat.add_mul]
    omega

end Go.Proofs.Ytbljpeefekhoeab
