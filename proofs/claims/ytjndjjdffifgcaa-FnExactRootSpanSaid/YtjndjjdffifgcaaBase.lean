/-
  Plain facts on worlds: a block of int64 cells, what a call keeps of memory, a slice that reads as a list of numbers. Used by all walks of this seat. No condition.
-/
import Derived.Test.YtjndjjdffifgcaaProg
import Derived.WalkKit
import Derived.WalkSpells
import Derived.WalkLawsBesides
import Derived.Lib.Hide
namespace Go.Proofs.Ytjndjjdffifgcaa
open Go.RowKit

def ints (cs : List Int) : Array Value := (cs.map (Value.int .i64)).toArray
theorem ints_size (cs : List Int) : (ints cs).size = cs.length := by simp [ints]
theorem ints_get (cs : List Int) (j : Nat) (h : j < cs.length) : (ints cs)[j]? = some (.int .i64 (cs.getD j 0)) := by
  simp [ints, List.getD_eq_getElem?_getD, h]

/-- Block g is one of cells (of int64, or of an array of them), not frozen; its first cells hold the numbers cs. -/
def Blk (w : World) (g : Nat) (cs : List Int) : Prop :=
  ∃ cur : Array Value × TypeId, w.heap[g]? = some (.cells cur.1 cur.2 (0, 0)) ∧ cs.length ≤ cur.1.size ∧ ∀ k, k < cs.length → cur.1[k]? = some (.int .i64 (cs.getD k 0))

theorem Blk.lt {w : World} {g : Nat} {cs : List Int} (h : Blk w g cs) : g < w.heap.size := by obtain ⟨_, h, _⟩ := h; exact (Array.getElem?_eq_some_iff.1 h).1
theorem Blk.cell {w : World} {g : Nat} {cs : List Int} (h : Blk w g cs) {j : Nat} (hj : j < cs.length) : w.cell? ⟨g, j, none⟩ = some (.int .i64 (cs.getD j 0)) := by
  obtain ⟨cur, h1, _, h3⟩ := h
  rw [cell_of_row w g j cur.1 _ _ h1, h3 j hj]
theorem Blk.frozen {w : World} {g : Nat} {cs : List Int} (h : Blk w g cs) (j : Nat) : w.frozen? ⟨g, j, none⟩ = false := by
  obtain ⟨cur, h1, _, h3⟩ := h; exact frozen_of_row w g j _ _ h1
theorem Blk.set {w : World} {g : Nat} {cs : List Int} (h : Blk w g cs) (j : Nat) (y : Int) : Blk (w.setCell ⟨g, j, none⟩ (.int .i64 y)) g (cs.set j y) := by
  obtain ⟨cur, h1, h2, h3⟩ := h
  refine ⟨(cur.1.setIfInBounds j (.int .i64 y), cur.2), heap_setCell_same w g j _ _ _ h1, by simpa using h2, fun k hk => ?_⟩
  simp only [List.length_set] at hk
  show (cur.1.setIfInBounds j (.int .i64 y))[k]? = _
  rw [Array.getElem?_setIfInBounds]
  by_cases e : j = k
  · subst e
    rw [if_pos rfl, if_pos (by omega)]
    simp [List.getD_eq_getElem?_getD, hk]
  · rw [if_neg e, h3 k hk]
    simp [List.getD_eq_getElem?_getD, e]
theorem Blk.new (w : World) (cs : List Int) : Blk (w.alloc (.cells (ints cs) 2)) w.heap.size cs :=
  ⟨(ints cs, 2), heap_alloc_new w _, by show cs.length ≤ (ints cs).size; rw [ints_size]; exact Nat.le_refl _, fun k hk => ints_get cs k hk⟩
theorem Blk.ofHeap {w w' : World} {g : Nat} {cs : List Int} (h : Blk w g cs) (e : w'.heap[g]? = w.heap[g]?) : Blk w' g cs := by
  obtain ⟨cur, h1, h2⟩ := h; exact ⟨cur, by rw [e]; exact h1, h2⟩
theorem Blk.other {w : World} {g : Nat} {cs : List Int} (h : Blk w g cs) (a : Addr) (v : Value) (hne : g ≠ a.block) : Blk (w.setCell a v) g cs := h.ofHeap (heap_setCell_other w a g v hne)
theorem Blk.alloc {w : World} {g : Nat} {cs : List Int} (h : Blk w g cs) (o : Obj) : Blk (w.alloc o) g cs := h.ofHeap (Below.heap_alloc w o g h.lt)
theorem Blk.drew {w : World} {g : Nat} {cs : List Int} (h : Blk w g cs) : Blk w.drew g cs := h
theorem Blk.drewN {w : World} {g : Nat} {cs : List Int} (h : Blk w g cs) (n : Nat) : Blk (w.drewN n) g cs := h
/-- A shorter list of the same block. -/
theorem Blk.short {w : World} {g : Nat} {cs : List Int} (h : Blk w g cs) (n : Nat) : Blk w g (cs.take n) := by
  obtain ⟨cur, h1, h2, h3⟩ := h
  refine ⟨cur, h1, by rw [List.length_take]; omega, fun k hk => ?_⟩
  rw [List.length_take] at hk
  rw [h3 k (by omega)]
  simp [List.getD_eq_getElem?_getD, show k < n by omega]

/-- The blocks that were there in w hold what they held, but for those of L. -/
structure Kept (L : List Nat) (w w' : World) : Prop where
  os : w'.os = w.os
  tape : w'.tape = w.tape
  output : w'.output = w.output
  size : w.heap.size ≤ w'.heap.size
  block : ∀ k, k < w.heap.size → k ∉ L → w'.heap[k]? = w.heap[k]?

theorem Kept.refl (L : List Nat) (w : World) : Kept L w w := ⟨rfl, rfl, rfl, Nat.le_refl _, fun _ _ _ => rfl⟩
theorem Kept.trans {L M : List Nat} {a b c : World} (h : Kept L a b) (k : Kept M b c) (hM : ∀ x, x ∈ M → x < a.heap.size → x ∈ L) : Kept L a c :=
  ⟨k.os.trans h.os, k.tape.trans h.tape, k.output.trans h.output, Nat.le_trans h.size k.size,
    fun i hi hL => (k.block i (Nat.lt_of_lt_of_le hi h.size) (fun hm => hL (hM i hm hi))).trans (h.block i hi hL)⟩
theorem Kept.trans0 {L : List Nat} {a b c : World} (h : Kept L a b) (k : Kept [] b c) : Kept L a c := h.trans k (by simp)
theorem Kept.trans1 {L : List Nat} {a b c : World} {g : Nat} (h : Kept L a b) (k : Kept [g] b c) (hg : g < a.heap.size → g ∈ L) : Kept L a c :=
  h.trans k (by intro x hx hlt; simp at hx; subst hx; exact hg hlt)
theorem Kept.mono {L M : List Nat} {a b : World} (h : Kept L a b) (hs : ∀ x, x ∈ L → x < a.heap.size → x ∈ M) : Kept M a b :=
  ⟨h.os, h.tape, h.output, h.size, fun i hi hM => h.block i hi (fun hL => hM (hs i hL hi))⟩
theorem Kept.alloc {L : List Nat} {a b : World} (h : Kept L a b) (o : Obj) : Kept L a (b.alloc o) :=
  h.trans0 ⟨rfl, rfl, rfl, by simp, fun k hk _ => Below.heap_alloc b o k hk⟩
theorem Kept.drew {L : List Nat} {a b : World} (h : Kept L a b) : Kept L a b.drew := ⟨h.os, h.tape, h.output, h.size, h.block⟩
theorem Kept.drewN {L : List Nat} {a b : World} (h : Kept L a b) (n : Nat) : Kept L a (b.drewN n) := ⟨h.os, h.tape, h.output, h.size, h.block⟩
theorem Kept.setCell {L : List Nat} {a b : World} (h : Kept L a b) (p : Addr) (v : Value) (hp : p.block < a.heap.size → p.block ∈ L) : Kept L a (b.setCell p v) :=
  h.trans1 (g := p.block) ⟨rfl, rfl, rfl, by simp, fun k _ hk => heap_setCell_other b p k v (by simpa using hk)⟩ hp
theorem Kept.grown {L : List Nat} {a b c : World} {row : Option Nat} (h : Kept L a b) (hg : b.grownBy c row) (hr : ∀ k, row = some k → k < a.heap.size → k ∈ L) : Kept L a c :=
  ⟨hg.os.trans h.os, hg.tape.trans h.tape, hg.output.trans h.output, Nat.le_trans h.size hg.size,
    fun i hi hL => (hg.block i (Nat.lt_of_lt_of_le hi h.size) (fun e => hL (hr i e.symm hi))).trans (h.block i hi hL)⟩
theorem Kept.below {w w' : World} (h : Kept [] w w') : Below w.heap.size w w' := ⟨h.os, h.tape, h.output, h.size, fun k hk => h.block k hk (by simp)⟩
theorem Kept.ofBelow {w w' : World} (h : Below w.heap.size w w') : Kept [] w w' := ⟨h.os, h.tape, h.output, h.size, fun k hk _ => h.block k hk⟩
theorem Kept.blk {L : List Nat} {w w' : World} (h : Kept L w w') {g : Nat} {cs : List Int} (hb : Blk w g cs) (hg : g ∉ L) : Blk w' g cs := hb.ofHeap (h.block g hb.lt hg)
theorem Kept.cell {L : List Nat} {w w' : World} (h : Kept L w w') {p : Addr} {v : Value} (hc : w.cell? p = some v) (hg : p.block ∉ L) : w'.cell? p = some v := by
  rw [World.cell?_of_block (w := w) (h.block p.block (World.block_lt_of_cell? w p hc) hg)]; exact hc

theorem Kept.free {L : List Nat} {w w' : World} (h : Kept L w w') {p : Addr} (hc : w.frozen? p = false) (hlt : p.block < w.heap.size) (hg : p.block ∉ L) : w'.frozen? p = false := by
  rw [World.frozen?_of_block (w := w) (h.block p.block hlt hg)]; exact hc

/-- The slice value with head a and length n reads as the numbers xs. -/
def Rd (w : World) (a : Option Addr) (n : Nat) (xs : List Int) : Prop :=
  xs.length = n ∧ n ≤ 9223372036854775807 ∧ ∀ k, k < n → ∃ g off, a = some ⟨g, off, none⟩ ∧ w.cell? ⟨g, off + k, none⟩ = some (.int .i64 (xs.getD k 0))

theorem Rd.kept {L : List Nat} {w w' : World} {a : Option Addr} {n : Nat} {xs : List Int} (h : Rd w a n xs) (k : Kept L w w') (hL : 0 < n → ∀ x, a = some x → x.block ∉ L) : Rd w' a n xs :=
  ⟨h.1, h.2.1, fun i hi => by obtain ⟨g, off, ha, hc⟩ := h.2.2 i hi; exact ⟨g, off, ha, k.cell hc (by have := hL (by omega) _ ha; simpa using this)⟩⟩
theorem Rd.kept0 {w w' : World} {a : Option Addr} {n : Nat} {xs : List Int} (h : Rd w a n xs) (k : Kept [] w w') : Rd w' a n xs := h.kept k (by simp)

/-- The slice value (a, n, c) is empty or lies in a block of int64 cells; it reads as xs. -/
def Sl (w : World) (a : Option Addr) (n c : Nat) (xs : List Int) : Prop :=
  xs.length = n ∧ n ≤ c ∧ c ≤ 9223372036854775807 ∧ (a = none → c = 0) ∧
    (n = 0 ∨ ∃ g off cs, a = some ⟨g, off, none⟩ ∧ Blk w g cs ∧ off + n ≤ cs.length ∧ ∀ k, k < n → cs.getD (off + k) 0 = xs.getD k 0)

theorem Sl.rd {w : World} {a : Option Addr} {n c : Nat} {xs : List Int} (h : Sl w a n c xs) : Rd w a n xs := by
  obtain ⟨h1, h2, h3, _, h4⟩ := h
  refine ⟨h1, by omega, fun k hk => ?_⟩
  rcases h4 with h4 | ⟨g, off, cs, ha, hb, hl, he⟩
  · omega
  · exact ⟨g, off, ha, by rw [hb.cell (by omega), he k hk]⟩
theorem Sl.kept {L : List Nat} {w w' : World} {a : Option Addr} {n c : Nat} {xs : List Int} (h : Sl w a n c xs) (k : Kept L w w') (hL : 0 < n → ∀ x, a = some x → x.block ∉ L) : Sl w' a n c xs := by
  obtain ⟨h1, h2, h3, h5, h4⟩ := h
  refine ⟨h1, h2, h3, h5, ?_⟩
  rcases h4 with h4 | ⟨g, off, cs, ha, hb, hl, he⟩
  · exact Or.inl h4
  · by_cases hn : n = 0
    · exact Or.inl hn
    · exact Or.inr ⟨g, off, cs, ha, k.blk hb (hL (by omega) _ ha), hl, he⟩
theorem Sl.kept0 {w w' : World} {a : Option Addr} {n c : Nat} {xs : List Int} (h : Sl w a n c xs) (k : Kept [] w w') : Sl w' a n c xs := h.kept k (by simp)
theorem Sl.ofBlkC {w : World} {g : Nat} {cs : List Int} {c : Nat} (h : Blk w g cs) (hc : cs.length ≤ c) (hm : c ≤ 9223372036854775807) : Sl w (some ⟨g, 0, none⟩) cs.length c cs :=
  ⟨rfl, hc, hm, by simp, Or.inr ⟨g, 0, cs, rfl, h, by omega, fun k _ => by rw [Nat.zero_add]⟩⟩
theorem Sl.ofBlk {w : World} {g : Nat} {cs : List Int} (h : Blk w g cs) (hm : cs.length ≤ 9223372036854775807) : Sl w (some ⟨g, 0, none⟩) cs.length cs.length cs := Sl.ofBlkC h (Nat.le_refl _) hm
theorem Sl.nil (w : World) : Sl w none 0 0 [] := ⟨rfl, Nat.le_refl _, by omega, fun _ => rfl, Or.inl rfl⟩
theorem Sl.length {w : World} {a : Option Addr} {n c : Nat} {xs : List Int} (h : Sl w a n c xs) : xs.length = n := h.1
theorem Sl.lt {w : World} {a : Option Addr} {n c : Nat} {xs : List Int} (h : Sl w a n c xs) (hn : 0 < n) : ∀ x, a = some x → x.block < w.heap.size := by
  intro x hx
  rcases h.2.2.2.2 with h4 | ⟨g, off, cs, ha, hb, hl, he⟩
  · omega
  · rw [ha] at hx; cases hx; exact hb.lt

/-- What is not empty lies in a block from B on. -/
def Fr (B : Nat) (a : Option Addr) (n : Nat) : Prop := 0 < n → ∀ x, a = some x → B ≤ x.block
theorem Fr.mono {B B' n : Nat} {a : Option Addr} (h : Fr B a n) (hB : B' ≤ B) : Fr B' a n := fun hn x hx => Nat.le_trans hB (h hn x hx)

/-- The owned row of a slice as a block of numbers. -/
theorem blk_of_owns {w : World} {base g n c : Nat} {xs : List Int} (h : w.ownsRow base 2 1 (.slice (some ⟨g, 0, none⟩) n c) n (xs.map (Value.int .i64))) : Blk w g xs ∧ base ≤ g ∧ xs.length = n ∧ n ≤ c ∧ c ≤ maxLen := by
  obtain ⟨hl, h2⟩ := h
  have hl' : xs.length = n := by simpa using hl
  rcases h2 with ⟨h2, _⟩ | ⟨g', cap, cur, hv, hg, hh, hc, hm, hs, ht⟩
  · cases h2
  · cases hv
    refine ⟨⟨(cur, _), hh, by show xs.length ≤ cur.size; omega, fun k hk => ?_⟩, hg, hl', hc, hm⟩
    have : (cur.toList.take (n * 1))[k]? = (xs.map (Value.int .i64))[k]? := by rw [ht]
    rw [List.getElem?_take, if_pos (by omega)] at this
    show cur[k]? = _
    rw [← Array.getElem?_toList, this]
    simp [List.getD_eq_getElem?_getD, hk]
theorem sl_of_owns {w : World} {base n : Nat} {v : Value} {xs : List Int} (h : w.ownsRow base 2 1 v n (xs.map (Value.int .i64))) : ∃ a c, v = .slice a n c ∧ Sl w a n c xs ∧ Fr base a n ∧ xs.length = n := by
  have h0 := h
  obtain ⟨hl, h2⟩ := h
  have hl' : xs.length = n := by simpa using hl
  rcases h2 with ⟨rfl, rfl⟩ | ⟨g', cap, cur, rfl, hg, hh, hc, hm, hs, ht⟩
  · exact ⟨none, 0, rfl, ⟨hl', Nat.le_refl _, by omega, fun _ => rfl, Or.inl rfl⟩, fun h => by omega, hl'⟩
  · obtain ⟨hb, _⟩ := blk_of_owns h0
    unfold maxLen at hm
    refine ⟨_, cap, rfl, ?_, fun _ x hx => ?_, hl'⟩
    · subst hl'; exact Sl.ofBlkC hb hc (by omega)
    · cases hx; exact hg

/-- Two cells of one block, stored one behind the other. -/
theorem cells2 {w : World} {g : Nat} {x y : Value} (u v : Value) (h0 : w.cell? ⟨g, 0, none⟩ = some x) (h1 : w.cell? ⟨g, 1, none⟩ = some y) :
    (w.setCell ⟨g, 0, none⟩ u).cell? ⟨g, 0, none⟩ = some u ∧ ((w.setCell ⟨g, 0, none⟩ u).setCell ⟨g, 1, none⟩ v).cell? ⟨g, 0, none⟩ = some u ∧ ((w.setCell ⟨g, 0, none⟩ u).setCell ⟨g, 1, none⟩ v).cell? ⟨g, 1, none⟩ = some v := by
  have e0 := World.cell?_setCell_same w ⟨g, 0, none⟩ u h0
  have e1 : (w.setCell ⟨g, 0, none⟩ u).cell? ⟨g, 1, none⟩ = some y := by rw [World.cell?_setCell_other _ _ _ _ (by simp)]; exact h1
  exact ⟨e0, by rw [World.cell?_setCell_other _ _ _ _ (by simp)]; exact e0, World.cell?_setCell_same _ _ _ e1⟩

/-- A made row of zeros. -/
theorem made_zeros (n : Nat) : madeCells #[Value.int .i64 0] n = ints (List.replicate n 0) := by
  apply Array.ext'
  rw [toList_madeCells_one]
  simp [ints]

theorem setCell_ne_block {w : World} (p : Addr) (v : Value) (g : Nat) (h : g ≠ p.block) : (w.setCell p v).heap[g]? = w.heap[g]? := heap_setCell_other w p g v h

theorem Try.info64 : (Try.prog.info? 2).map (fun i => (i.zero, i.size, i.bytes)) = some (some (.int .i64 0), 1, 8) := by kernel_rfl

/-- The numbers of a slice of int64 that came in. -/
theorem rd_of_row {w : World} {a : Option Addr} {len cap : Nat} {zs : List Int}
    (h : (a = none ∧ len = 0 ∧ cap = 0 ∧ zs = []) ∨
      ∃ x, a = some x ∧ len ≤ cap ∧ cap ≤ maxLen ∧ zs.length = cap ∧ (∀ i, i < zs.length → w.cell? (x.add i) = some (.int .i64 (zs.getD i 0))) ∧ ∀ n ∈ zs, (Lit.int .i64 n).wf = true) :
    Rd w a len (zs.take len) := by
  rcases h with ⟨rfl, rfl, rfl, rfl⟩ | ⟨x, rfl, hl, hm, hz, hc, _⟩
  · exact ⟨rfl, by omega, fun k hk => by omega⟩
  · unfold maxLen at hm
    refine ⟨by simp; omega, by omega, fun k hk => ?_⟩
    have h0 := hc k (by omega)
    obtain ⟨g, off, spot⟩ := x
    have hs : spot = none := by simpa [Addr.add] using World.cell?_spot (hc 0 (by omega))
    subst hs
    rw [Addr.add_lit] at h0
    refine ⟨g, off, rfl, ?_⟩
    rw [h0]
    simp [List.getD_eq_getElem?_getD, hk]

theorem rd_new {w : World} {g : Nat} {xs : List Int} {n : Nat} (h : Blk w g xs) (hn : xs.length = n) (hm : n ≤ 2000000) : Rd w (some ⟨g, 0, none⟩) n xs := by
  subst hn; exact (Sl.ofBlk h (by omega)).rd

theorem sl_new {w : World} {g : Nat} {xs : List Int} {n : Nat} (h : Blk w g xs) (hn : xs.length = n) (hm : n ≤ 2000000) : Sl w (some ⟨g, 0, none⟩) n n xs := by
  subst hn; exact Sl.ofBlk h (by omega)

end Go.Proofs.Ytjndjjdffifgcaa
