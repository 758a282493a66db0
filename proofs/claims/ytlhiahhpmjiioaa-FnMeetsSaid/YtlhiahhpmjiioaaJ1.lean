/-
  Several of my texts in one, each as it was: Base, Lib, Plain, Own, Marks, LBig, Plain2, Plain3, Plain4, Plain5, Plain6, Plain7, PlainS, PlainT, PlainU, PlainV, PlainW, PlainY, PlainZ, SpanO. No condition but theirs.
-/
import Derived.Test.YtlhiahhpmjiioaaProg
import Derived.WalkKit
import Derived.WalkSpells
import Derived.WalkLawsBesides
import Derived.Lib.Hide
import Derived.BigQuiet
import Derived.Deep.DeepFit
import Derived.Deep.OwnRows
import Derived.Below
import Derived.Handy
import Derived.Outline
import Derived.ProofKit
import Derived.Lib.SmallJoins
namespace Go.Proofs.Ytlhiahhpmjiioaa
open Go.RowKit

def ints (cs : List Int) : Array Value := (cs.map (Value.int .i64)).toArray
theorem ints_size (cs : List Int) : (ints cs).size = cs.length := by simp [ints]
theorem ints_get (cs : List Int) (j : Nat) (h : j < cs.length) : (ints cs)[j]? = some (.int .i64 (cs.getD j 0)) := by
  simp [ints, List.getD_eq_getElem?_getD, h]

/-- Block g is one of cells (of int64, or of an array of them), not frozen; its first cells hold the numbers cs. -/
def Blk (w : World) (g : Nat) (cs : List Int) : Prop :=
  ∃ cur : Array Value × TypeId, w.heap[g]? = some (.cells cur.1 cur.2 (0, 0)) ∧ cs.length ≤ cur.1.size ∧ ∀ k, k < cs.length → cur.1[k]? = some (.int .i64 (cs.getD k 0))

theorem Blk.lt {w : World} {g : Nat} {cs : List Int} (h : Blk w g cs) : g < w.heap.size := by obtain ⟨_, h, _⟩ := h; exact (Array.getElem?_eq_some_iff.1 h).1
theorem Blk.cell {w : World} {g : Nat} {cs : List Int} (h : Blk w g cs) {j : Nat} (hj : j < cs.length) : w.cell? ⟨g, j, none⟩ = some (.int .i64 (cs.getD j 0)) := by
  obtain ⟨cur, h1, _, h3⟩ := h
  rw [cell_of_row w g j cur.1 _ _ h1, h3 j hj]
theorem Blk.frozen {w : World} {g : Nat} {cs : List Int} (h : Blk w g cs) (j : Nat) : w.frozen? ⟨g, j, none⟩ = false := by
  obtain ⟨cur, h1, _, h3⟩ := h; exact frozen_of_row w g j _ _ h1
theorem Blk.set {w : World} {g : Nat} {cs : List Int} (h : Blk w g cs) (j : Nat) (y : Int) : Blk (w.setCell ⟨g, j, none⟩ (.int .i64 y)) g (cs.set j y) := by
  obtain ⟨cur, h1, h2, h3⟩ := h
  refine ⟨(cur.1.setIfInBounds j (.int .i64 y), cur.2), heap_setCell_same w g j _ _ _ h1, by simpa using h2, fun k hk => ?_⟩
  simp only [List.length_set] at hk
  show (cur.1.setIfInBounds j (.int .i64 y))[k]? = _
  rw [Array.getElem?_setIfInBounds]
  by_cases e : j = k
  · subst e
    rw [if_pos rfl, if_pos (by omega)]
    simp [List.getD_eq_getElem?_getD, hk]
  · rw [if_neg e, h3 k hk]
    simp [List.getD_eq_getElem?_getD, e]
theorem Blk.new (w : World) (cs : List Int) : Blk (w.alloc (.cells (ints cs) 2)) w.heap.size cs :=
  ⟨(ints cs, 2), heap_alloc_new w _, by show cs.length ≤ (ints cs).size; rw [ints_size]; exact Nat.le_refl _, fun k hk => ints_get cs k hk⟩
theorem Blk.ofHeap {w w' : World} {g : Nat} {cs : List Int} (h : Blk w g cs) (e : w'.heap[g]? = w.heap[g]?) : Blk w' g cs := by
  obtain ⟨cur, h1, h2⟩ := h; exact ⟨cur, by rw [e]; exact h1, h2⟩
theorem Blk.other {w : World} {g : Nat} {cs : List Int} (h : Blk w g cs) (a : Addr) (v : Value) (hne : g ≠ a.block) : Blk (w.setCell a v) g cs := h.ofHeap (heap_setCell_other w a g v hne)
theorem Blk.alloc {w : World} {g : Nat} {cs : List Int} (h : Blk w g cs) (o : Obj) : Blk (w.alloc o) g cs := h.ofHeap (Below.heap_alloc w o g h.lt)
theorem Blk.drew {w : World} {g : Nat} {cs : List Int} (h : Blk w g cs) : Blk w.drew g cs := h
theorem Blk.drewN {w : World} {g : Nat} {cs : List Int} (h : Blk w g cs) (n : Nat) : Blk (w.drewN n) g cs := h
/-- A shorter list of the same block. -/
theorem Blk.short {w : World} {g : Nat} {cs : List Int} (h : Blk w g cs) (n : Nat) : Blk w g (cs.take n) := by
  obtain ⟨cur, h1, h2, h3⟩ := h
  refine ⟨cur, h1, by rw [List.length_take]; omega, fun k hk => ?_⟩
  rw [List.length_take] at hk
  rw [h3 k (by omega)]
  simp [List.getD_eq_getElem?_getD, show k < n by omega]

/-- The blocks that were there in w hold what they held, but for those of L. -/
structure Kept (L : List Nat) (w w' : World) : Prop where
  os : w'.os = w.os
  tape : w'.tape = w.tape
  output : w'.output = w.output
  size : w.heap.size ≤ w'.heap.size
  block : ∀ k, k < w.heap.size → k ∉ L → w'.heap[k]? = w.heap[k]?

theorem Kept.refl (L : List Nat) (w : World) : Kept L w w := ⟨rfl, rfl, rfl, Nat.le_refl _, fun _ _ _ => rfl⟩
theorem Kept.trans {L M : List Nat} {a b c : World} (h : Kept L a b) (k : Kept M b c) (hM : ∀ x, x ∈ M → x < a.heap.size → x ∈ L) : Kept L a c :=
  ⟨k.os.trans h.os, k.tape.trans h.tape, k.output.trans h.output, Nat.le_trans h.size k.size,
    fun i hi hL => (k.block i (Nat.lt_of_lt_of_le hi h.size) (fun hm => hL (hM i hm hi))).trans (h.block i hi hL)⟩
theorem Kept.trans0 {L : List Nat} {a b c : World} (h : Kept L a b) (k : Kept [] b c) : Kept L a c := h.trans k (by simp)
theorem Kept.trans1 {L : List Nat} {a b c : World} {g : Nat} (h : Kept L a b) (k : Kept [g] b c) (hg : g < a.heap.size → g ∈ L) : Kept L a c :=
  h.trans k (by intro x hx hlt; simp at hx; subst hx; exact hg hlt)
theorem Kept.mono {L M : List Nat} {a b : World} (h : Kept L a b) (hs : ∀ x, x ∈ L → x < a.heap.size → x ∈ M) : Kept M a b :=
  ⟨h.os, h.tape, h.output, h.size, fun i hi hM => h.block i hi (fun hL => hM (hs i hL hi))⟩
theorem Kept.alloc {L : List Nat} {a b : World} (h : Kept L a b) (o : Obj) : Kept L a (b.alloc o) :=
  h.trans0 ⟨rfl, rfl, rfl, by simp, fun k hk _ => Below.heap_alloc b o k hk⟩
theorem Kept.drew {L : List Nat} {a b : World} (h : Kept L a b) : Kept L a b.drew := ⟨h.os, h.tape, h.output, h.size, h.block⟩
theorem Kept.drewN {L : List Nat} {a b : World} (h : Kept L a b) (n : Nat) : Kept L a (b.drewN n) := ⟨h.os, h.tape, h.output, h.size, h.block⟩
theorem Kept.setCell {L : List Nat} {a b : World} (h : Kept L a b) (p : Addr) (v : Value) (hp : p.block < a.heap.size → p.block ∈ L) : Kept L a (b.setCell p v) :=
  h.trans1 (g := p.block) ⟨rfl, rfl, rfl, by simp, fun k _ hk => heap_setCell_other b p k v (by simpa using hk)⟩ hp
theorem Kept.grown {L : List Nat} {a b c : World} {row : Option Nat} (h : Kept L a b) (hg : b.grownBy c row) (hr : ∀ k, row = some k → k < a.heap.size → k ∈ L) : Kept L a c :=
  ⟨hg.os.trans h.os, hg.tape.trans h.tape, hg.output.trans h.output, Nat.le_trans h.size hg.size,
    fun i hi hL => (hg.block i (Nat.lt_of_lt_of_le hi h.size) (fun e => hL (hr i e.symm hi))).trans (h.block i hi hL)⟩
theorem Kept.below {w w' : World} (h : Kept [] w w') : Below w.heap.size w w' := ⟨h.os, h.tape, h.output, h.size, fun k hk => h.block k hk (by simp)⟩
theorem Kept.ofBelow {w w' : World} (h : Below w.heap.size w w') : Kept [] w w' := ⟨h.os, h.tape, h.output, h.size, fun k hk _ => h.block k hk⟩
theorem Kept.blk {L : List Nat} {w w' : World} (h : Kept L w w') {g : Nat} {cs : List Int} (hb : Blk w g cs) (hg : g ∉ L) : Blk w' g cs := hb.ofHeap (h.block g hb.lt hg)
theorem Kept.cell {L : List Nat} {w w' : World} (h : Kept L w w') {p : Addr} {v : Value} (hc : w.cell? p = some v) (hg : p.block ∉ L) : w'.cell? p = some v := by
  rw [World.cell?_of_block (w := w) (h.block p.block (World.block_lt_of_cell? w p hc) hg)]; exact hc

theorem Kept.free {L : List Nat} {w w' : World} (h : Kept L w w') {p : Addr} (hc : w.frozen? p = false) (hlt : p.block < w.heap.size) (hg : p.block ∉ L) : w'.frozen? p = false := by
  rw [World.frozen?_of_block (w := w) (h.block p.block hlt hg)]; exact hc

/-- The slice value with head a and length n reads as the numbers xs. -/
def Rd (w : World) (a : Option Addr) (n : Nat) (xs : List Int) : Prop :=
  xs.length = n ∧ n ≤ 9223372036854775807 ∧ ∀ k, k < n → ∃ g off, a = some ⟨g, off, none⟩ ∧ w.cell? ⟨g, off + k, none⟩ = some (.int .i64 (xs.getD k 0))

theorem Rd.kept {L : List Nat} {w w' : World} {a : Option Addr} {n : Nat} {xs : List Int} (h : Rd w a n xs) (k : Kept L w w') (hL : 0 < n → ∀ x, a = some x → x.block ∉ L) : Rd w' a n xs :=
  ⟨h.1, h.2.1, fun i hi => by obtain ⟨g, off, ha, hc⟩ := h.2.2 i hi; exact ⟨g, off, ha, k.cell hc (by have := hL (by omega) _ ha; simpa using this)⟩⟩
theorem Rd.kept0 {w w' : World} {a : Option Addr} {n : Nat} {xs : List Int} (h : Rd w a n xs) (k : Kept [] w w') : Rd w' a n xs := h.kept k (by simp)

/-- The slice value (a, n, c) is empty or lies in a block of int64 cells; it reads as xs. -/
def Sl (w : World) (a : Option Addr) (n c : Nat) (xs : List Int) : Prop :=
  xs.length = n ∧ n ≤ c ∧ c ≤ 9223372036854775807 ∧ (a = none → c = 0) ∧
    (n = 0 ∨ ∃ g off cs, a = some ⟨g, off, none⟩ ∧ Blk w g cs ∧ off + n ≤ cs.length ∧ ∀ k, k < n → cs.getD (off + k) 0 = xs.getD k 0)

theorem Sl.rd {w : World} {a : Option Addr} {n c : Nat} {xs : List Int} (h : Sl w a n c xs) : Rd w a n xs := by
  obtain ⟨h1, h2, h3, _, h4⟩ := h
  refine ⟨h1, by omega, fun k hk => ?_⟩
  rcases h4 with h4 | ⟨g, off, cs, ha, hb, hl, he⟩
  · omega
  · exact ⟨g, off, ha, by rw [hb.cell (by omega), he k hk]⟩
theorem Sl.kept {L : List Nat} {w w' : World} {a : Option Addr} {n c : Nat} {xs : List Int} (h : Sl w a n c xs) (k : Kept L w w') (hL : 0 < n → ∀ x, a = some x → x.block ∉ L) : Sl w' a n c xs := by
  obtain ⟨h1, h2, h3, h5, h4⟩ := h
  refine ⟨h1, h2, h3, h5, ?_⟩
  rcases h4 with h4 | ⟨g, off, cs, ha, hb, hl, he⟩
  · exact Or.inl h4
  · by_cases hn : n = 0
    · exact Or.inl hn
    · exact Or.inr ⟨g, off, cs, ha, k.blk hb (hL (by omega) _ ha), hl, he⟩
theorem Sl.kept0 {w w' : World} {a : Option Addr} {n c : Nat} {xs : List Int} (h : Sl w a n c xs) (k : Kept [] w w') : Sl w' a n c xs := h.kept k (by simp)
theorem Sl.ofBlkC {w : World} {g : Nat} {cs : List Int} {c : Nat} (h : Blk w g cs) (hc : cs.length ≤ c) (hm : c ≤ 9223372036854775807) : Sl w (some ⟨g, 0, none⟩) cs.length c cs :=
  ⟨rfl, hc, hm, by simp, Or.inr ⟨g, 0, cs, rfl, h, by omega, fun k _ => by rw [Nat.zero_add]⟩⟩
theorem Sl.ofBlk {w : World} {g : Nat} {cs : List Int} (h : Blk w g cs) (hm : cs.length ≤ 9223372036854775807) : Sl w (some ⟨g, 0, none⟩) cs.length cs.length cs := Sl.ofBlkC h (Nat.le_refl _) hm
theorem Sl.nil (w : World) : Sl w none 0 0 [] := ⟨rfl, Nat.le_refl _, by omega, fun _ => rfl, Or.inl rfl⟩
theorem Sl.length {w : World} {a : Option Addr} {n c : Nat} {xs : List Int} (h : Sl w a n c xs) : xs.length = n := h.1
theorem Sl.lt {w : World} {a : Option Addr} {n c : Nat} {xs : List Int} (h : Sl w a n c xs) (hn : 0 < n) : ∀ x, a = some x → x.block < w.heap.size := by
  intro x hx
  rcases h.2.2.2.2 with h4 | ⟨g, off, cs, ha, hb, hl, he⟩
  · omega
  · rw [ha] at hx; cases hx; exact hb.lt

/-- What is not empty lies in a block from B on. -/
def Fr (B : Nat) (a : Option Addr) (n : Nat) : Prop := 0 < n → ∀ x, a = some x → B ≤ x.block
theorem Fr.mono {B B' n : Nat} {a : Option Addr} (h : Fr B a n) (hB : B' ≤ B) : Fr B' a n := fun hn x hx => Nat.le_trans hB (h hn x hx)

/-- The owned row of a slice as a block of numbers. -/
theorem blk_of_owns {w : World} {base g n c : Nat} {xs : List Int} (h : w.ownsRow base 2 1 (.slice (some ⟨g, 0, none⟩) n c) n (xs.map (Value.int .i64))) : Blk w g xs ∧ base ≤ g ∧ xs.length = n ∧ n ≤ c ∧ c ≤ maxLen := by
  obtain ⟨hl, h2⟩ := h
  have hl' : xs.length = n := by simpa using hl
  rcases h2 with ⟨h2, _⟩ | ⟨g', cap, cur, hv, hg, hh, hc, hm, hs, ht⟩
  · cases h2
  · cases hv
    refine ⟨⟨(cur, _), hh, by show xs.length ≤ cur.size; omega, fun k hk => ?_⟩, hg, hl', hc, hm⟩
    have : (cur.toList.take (n * 1))[k]? = (xs.map (Value.int .i64))[k]? := by rw [ht]
    rw [List.getElem?_take, if_pos (by omega)] at this
    show cur[k]? = _
    rw [← Array.getElem?_toList, this]
    simp [List.getD_eq_getElem?_getD, hk]
theorem sl_of_owns {w : World} {base n : Nat} {v : Value} {xs : List Int} (h : w.ownsRow base 2 1 v n (xs.map (Value.int .i64))) : ∃ a c, v = .slice a n c ∧ Sl w a n c xs ∧ Fr base a n ∧ xs.length = n := by
  have h0 := h
  obtain ⟨hl, h2⟩ := h
  have hl' : xs.length = n := by simpa using hl
  rcases h2 with ⟨rfl, rfl⟩ | ⟨g', cap, cur, rfl, hg, hh, hc, hm, hs, ht⟩
  · exact ⟨none, 0, rfl, ⟨hl', Nat.le_refl _, by omega, fun _ => rfl, Or.inl rfl⟩, fun h => by omega, hl'⟩
  · obtain ⟨hb, _⟩ := blk_of_owns h0
    unfold maxLen at hm
    refine ⟨_, cap, rfl, ?_, fun _ x hx => ?_, hl'⟩
    · subst hl'; exact Sl.ofBlkC hb hc (by omega)
    · cases hx; exact hg

/-- Two cells of one block, stored one behind the other. -/
theorem cells2 {w : World} {g : Nat} {x y : Value} (u v : Value) (h0 : w.cell? ⟨g, 0, none⟩ = some x) (h1 : w.cell? ⟨g, 1, none⟩ = some y) :
    (w.setCell ⟨g, 0, none⟩ u).cell? ⟨g, 0, none⟩ = some u ∧ ((w.setCell ⟨g, 0, none⟩ u).setCell ⟨g, 1, none⟩ v).cell? ⟨g, 0, none⟩ = some u ∧ ((w.setCell ⟨g, 0, none⟩ u).setCell ⟨g, 1, none⟩ v).cell? ⟨g, 1, none⟩ = some v := by
  have e0 := World.cell?_setCell_same w ⟨g, 0, none⟩ u h0
  have e1 : (w.setCell ⟨g, 0, none⟩ u).cell? ⟨g, 1, none⟩ = some y := by rw [World.cell?_setCell_other _ _ _ _ (by simp)]; exact h1
  exact ⟨e0, by rw [World.cell?_setCell_other _ _ _ _ (by simp)]; exact e0, World.cell?_setCell_same _ _ _ e1⟩

/-- A made row of zeros. -/
theorem made_zeros (n : Nat) : madeCells #[Value.int .i64 0] n = ints (List.replicate n 0) := by
  apply Array.ext'
  rw [toList_madeCells_one]
  simp [ints]

theorem setCell_ne_block {w : World} (p : Addr) (v : Value) (g : Nat) (h : g ≠ p.block) : (w.setCell p v).heap[g]? = w.heap[g]? := heap_setCell_other w p g v h

theorem Try.info64 : (Try.prog.info? 2).map (fun i => (i.zero, i.size, i.bytes)) = some (some (.int .i64 0), 1, 8) := by kernel_rfl

/-- The numbers of a slice of int64 that came in. -/
theorem rd_of_row {w : World} {a : Option Addr} {len cap : Nat} {zs : List Int}
    (h : (a = none ∧ len = 0 ∧ cap = 0 ∧ zs = []) ∨
      ∃ x, a = some x ∧ len ≤ cap ∧ cap ≤ maxLen ∧ zs.length = cap ∧ (∀ i, i < zs.length → w.cell? (x.add i) = some (.int .i64 (zs.getD i 0))) ∧ ∀ n ∈ zs, (Lit.int .i64 n).wf = true) :
    Rd w a len (zs.take len) := by
  rcases h with ⟨rfl, rfl, rfl, rfl⟩ | ⟨x, rfl, hl, hm, hz, hc, _⟩
  · exact ⟨rfl, by omega, fun k hk => by omega⟩
  · unfold maxLen at hm
    refine ⟨by simp; omega, by omega, fun k hk => ?_⟩
    have h0 := hc k (by omega)
    obtain ⟨g, off, spot⟩ := x
    have hs : spot = none := by simpa [Addr.add] using World.cell?_spot (hc 0 (by omega))
    subst hs
    rw [Addr.add_lit] at h0
    refine ⟨g, off, rfl, ?_⟩
    rw [h0]
    simp [List.getD_eq_getElem?_getD, hk]

theorem rd_new {w : World} {g : Nat} {xs : List Int} {n : Nat} (h : Blk w g xs) (hn : xs.length = n) (hm : n ≤ 2000000) : Rd w (some ⟨g, 0, none⟩) n xs := by
  subst hn; exact (Sl.ofBlk h (by omega)).rd

theorem sl_new {w : World} {g : Nat} {xs : List Int} {n : Nat} (h : Blk w g xs) (hn : xs.length = n) (hm : n ≤ 2000000) : Sl w (some ⟨g, 0, none⟩) n n xs := by
  subst hn; exact Sl.ofBlk h (by omega)

/-! The same, in few words: facts that are hidden from the walk, carried to the next world. -/
theorem kc {w w' : World} {p : Addr} {v : Value} (k : Kept [] w w') (h : Hid (w.cell? p = some v)) : Hid (w'.cell? p = some v) := Lib.hid (k.cell h.out (by simp))
theorem kd {L : List Nat} {w w' : World} {p : Addr} {v : Value} (k : Kept L w w') (h : Hid (w.cell? p = some v)) (hg : p.block ∉ L) : Hid (w'.cell? p = some v) := Lib.hid (k.cell h.out hg)
theorem kf {w w' : World} {p : Addr} {v : Value} (k : Kept [] w w') (h : Hid (w.cell? p = some v)) (f : Hid (w.frozen? p = false)) : Hid (w'.frozen? p = false) := Lib.hid (k.free f.out (World.block_lt_of_cell? w p h.out) (by simp))
theorem kg {L : List Nat} {w w' : World} {p : Addr} {v : Value} (k : Kept L w w') (h : Hid (w.cell? p = some v)) (f : Hid (w.frozen? p = false)) (hg : p.block ∉ L) : Hid (w'.frozen? p = false) := Lib.hid (k.free f.out (World.block_lt_of_cell? w p h.out) hg)
theorem kz {w w' : World} {p : Addr} (h : ∀ x, w'.frozen? x = w.frozen? x) (f : Hid (w.frozen? p = false)) : Hid (w'.frozen? p = false) := Lib.hid ((h p).trans f.out)
theorem st2 {w W : World} {g : Nat} {v0 v1 x0 x1 : Value} (e : W = ((w.setCell ⟨g, 0, none⟩ v0).setCell ⟨g, 1, none⟩ v1)) (h0 : w.cell? ⟨g, 0, none⟩ = some x0) (h1 : w.cell? ⟨g, 1, none⟩ = some x1) : W.cell? ⟨g, 0, none⟩ = some v0 ∧ W.cell? ⟨g, 1, none⟩ = some v1 := by
  subst e
  exact ⟨by rw [World.cell?_setCell_other _ _ _ _ (by simp)]; exact World.cell?_setCell_same _ _ _ (by exact h0), by exact World.cell?_setCell_same _ _ _ (by rw [World.cell?_setCell_other _ _ _ _ (by simp)]; exact h1)⟩
theorem st4 {w W : World} {g : Nat} {v0 v1 v2 v3 x0 x1 x2 x3 : Value} (e : W = ((((w.setCell ⟨g, 0, none⟩ v0).setCell ⟨g, 1, none⟩ v1).setCell ⟨g, 2, none⟩ v2).setCell ⟨g, 3, none⟩ v3)) (h0 : w.cell? ⟨g, 0, none⟩ = some x0) (h1 : w.cell? ⟨g, 1, none⟩ = some x1) (h2 : w.cell? ⟨g, 2, none⟩ = some x2) (h3 : w.cell? ⟨g, 3, none⟩ = some x3) : W.cell? ⟨g, 0, none⟩ = some v0 ∧ W.cell? ⟨g, 1, none⟩ = some v1 ∧ W.cell? ⟨g, 2, none⟩ = some v2 ∧ W.cell? ⟨g, 3, none⟩ = some v3 := by
  subst e
  exact ⟨by rw [World.cell?_setCell_other _ _ _ _ (by simp), World.cell?_setCell_other _ _ _ _ (by simp), World.cell?_setCell_other _ _ _ _ (by simp)]; exact World.cell?_setCell_same _ _ _ (by exact h0), by rw [World.cell?_setCell_other _ _ _ _ (by simp), World.cell?_setCell_other _ _ _ _ (by simp)]; exact World.cell?_setCell_same _ _ _ (by rw [World.cell?_setCell_other _ _ _ _ (by simp)]; exact h1), by rw [World.cell?_setCell_other _ _ _ _ (by simp)]; exact World.cell?_setCell_same _ _ _ (by rw [World.cell?_setCell_other _ _ _ _ (by simp), World.cell?_setCell_other _ _ _ _ (by simp)]; exact h2), by exact World.cell?_setCell_same _ _ _ (by rw [World.cell?_setCell_other _ _ _ _ (by simp), World.cell?_setCell_other _ _ _ _ (by simp), World.cell?_setCell_other _ _ _ _ (by simp)]; exact h3)⟩
theorem st5 {w W : World} {g : Nat} {v0 v1 v2 v3 v4 x0 x1 x2 x3 x4 : Value} (e : W = (((((w.setCell ⟨g, 0, none⟩ v0).setCell ⟨g, 1, none⟩ v1).setCell ⟨g, 2, none⟩ v2).setCell ⟨g, 3, none⟩ v3).setCell ⟨g, 4, none⟩ v4)) (h0 : w.cell? ⟨g, 0, none⟩ = some x0) (h1 : w.cell? ⟨g, 1, none⟩ = some x1) (h2 : w.cell? ⟨g, 2, none⟩ = some x2) (h3 : w.cell? ⟨g, 3, none⟩ = some x3) (h4 : w.cell? ⟨g, 4, none⟩ = some x4) : W.cell? ⟨g, 0, none⟩ = some v0 ∧ W.cell? ⟨g, 1, none⟩ = some v1 ∧ W.cell? ⟨g, 2, none⟩ = some v2 ∧ W.cell? ⟨g, 3, none⟩ = some v3 ∧ W.cell? ⟨g, 4, none⟩ = some v4 := by
  subst e
  exact ⟨by rw [World.cell?_setCell_other _ _ _ _ (by simp), World.cell?_setCell_other _ _ _ _ (by simp), World.cell?_setCell_other _ _ _ _ (by simp), World.cell?_setCell_other _ _ _ _ (by simp)]; exact World.cell?_setCell_same _ _ _ (by exact h0), by rw [World.cell?_setCell_other _ _ _ _ (by simp), World.cell?_setCell_other _ _ _ _ (by simp), World.cell?_setCell_other _ _ _ _ (by simp)]; exact World.cell?_setCell_same _ _ _ (by rw [World.cell?_setCell_other _ _ _ _ (by simp)]; exact h1), by rw [World.cell?_setCell_other _ _ _ _ (by simp), World.cell?_setCell_other _ _ _ _ (by simp)]; exact World.cell?_setCell_same _ _ _ (by rw [World.cell?_setCell_other _ _ _ _ (by simp), World.cell?_setCell_other _ _ _ _ (by simp)]; exact h2), by rw [World.cell?_setCell_other _ _ _ _ (by simp)]; exact World.cell?_setCell_same _ _ _ (by rw [World.cell?_setCell_other _ _ _ _ (by simp), World.cell?_setCell_other _ _ _ _ (by simp), World.cell?_setCell_other _ _ _ _ (by simp)]; exact h3), by exact World.cell?_setCell_same _ _ _ (by rw [World.cell?_setCell_other _ _ _ _ (by simp), World.cell?_setCell_other _ _ _ _ (by simp), World.cell?_setCell_other _ _ _ _ (by simp), World.cell?_setCell_other _ _ _ _ (by simp)]; exact h4)⟩
theorem st8 {w W : World} {g : Nat} {v0 v1 v2 v3 v4 v5 v6 v7 x0 x1 x2 x3 x4 x5 x6 x7 : Value} (e : W = ((((((((w.setCell ⟨g, 0, none⟩ v0).setCell ⟨g, 1, none⟩ v1).setCell ⟨g, 2, none⟩ v2).setCell ⟨g, 3, none⟩ v3).setCell ⟨g, 4, none⟩ v4).setCell ⟨g, 5, none⟩ v5).setCell ⟨g, 6, none⟩ v6).setCell ⟨g, 7, none⟩ v7)) (h0 : w.cell? ⟨g, 0, none⟩ = some x0) (h1 : w.cell? ⟨g, 1, none⟩ = some x1) (h2 : w.cell? ⟨g, 2, none⟩ = some x2) (h3 : w.cell? ⟨g, 3, none⟩ = some x3) (h4 : w.cell? ⟨g, 4, none⟩ = some x4) (h5 : w.cell? ⟨g, 5, none⟩ = some x5) (h6 : w.cell? ⟨g, 6, none⟩ = some x6) (h7 : w.cell? ⟨g, 7, none⟩ = some x7) : W.cell? ⟨g, 0, none⟩ = some v0 ∧ W.cell? ⟨g, 1, none⟩ = some v1 ∧ W.cell? ⟨g, 2, none⟩ = some v2 ∧ W.cell? ⟨g, 3, none⟩ = some v3 ∧ W.cell? ⟨g, 4, none⟩ = some v4 ∧ W.cell? ⟨g, 5, none⟩ = some v5 ∧ W.cell? ⟨g, 6, none⟩ = some v6 ∧ W.cell? ⟨g, 7, none⟩ = some v7 := by
  subst e
  exact ⟨by rw [World.cell?_setCell_other _ _ _ _ (by simp), World.cell?_setCell_other _ _ _ _ (by simp), World.cell?_setCell_other _ _ _ _ (by simp), World.cell?_setCell_other _ _ _ _ (by simp), World.cell?_setCell_other _ _ _ _ (by simp), World.cell?_setCell_other _ _ _ _ (by simp), World.cell?_setCell_other _ _ _ _ (by simp)]; exact World.cell?_setCell_same _ _ _ (by exact h0), by rw [World.cell?_setCell_other _ _ _ _ (by simp), World.cell?_setCell_other _ _ _ _ (by simp), World.cell?_setCell_other _ _ _ _ (by simp), World.cell?_setCell_other _ _ _ _ (by simp), World.cell?_setCell_other _ _ _ _ (by simp), World.cell?_setCell_other _ _ _ _ (by simp)]; exact World.cell?_setCell_same _ _ _ (by rw [World.cell?_setCell_other _ _ _ _ (by simp)]; exact h1), by rw [World.cell?_setCell_other _ _ _ _ (by simp), World.cell?_setCell_other _ _ _ _ (by simp), World.cell?_setCell_other _ _ _ _ (by simp), World.cell?_setCell_other _ _ _ _ (by simp), World.cell?_setCell_other _ _ _ _ (by simp)]; exact World.cell?_setCell_same _ _ _ (by rw [World.cell?_setCell_other _ _ _ _ (by simp), World.cell?_setCell_other _ _ _ _ (by simp)]; exact h2), by rw [World.cell?_setCell_other _ _ _ _ (by simp), World.cell?_setCell_other _ _ _ _ (by simp), World.cell?_setCell_other _ _ _ _ (by simp), World.cell?_setCell_other _ _ _ _ (by simp)]; exact World.cell?_setCell_same _ _ _ (by rw [World.cell?_setCell_other _ _ _ _ (by simp), World.cell?_setCell_other _ _ _ _ (by simp), World.cell?_setCell_other _ _ _ _ (by simp)]; exact h3), by rw [World.cell?_setCell_other _ _ _ _ (by simp), World.cell?_setCell_other _ _ _ _ (by simp), World.cell?_setCell_other _ _ _ _ (by simp)]; exact World.cell?_setCell_same _ _ _ (by rw [World.cell?_setCell_other _ _ _ _ (by simp), World.cell?_setCell_other _ _ _ _ (by simp), World.cell?_setCell_other _ _ _ _ (by simp), World.cell?_setCell_other _ _ _ _ (by simp)]; exact h4), by rw [World.cell?_setCell_other _ _ _ _ (by simp), World.cell?_setCell_other _ _ _ _ (by simp)]; exact World.cell?_setCell_same _ _ _ (by rw [World.cell?_setCell_other _ _ _ _ (by simp), World.cell?_setCell_other _ _ _ _ (by simp), World.cell?_setCell_other _ _ _ _ (by simp), World.cell?_setCell_other _ _ _ _ (by simp), World.cell?_setCell_other _ _ _ _ (by simp)]; exact h5), by rw [World.cell?_setCell_other _ _ _ _ (by simp)]; exact World.cell?_setCell_same _ _ _ (by rw [World.cell?_setCell_other _ _ _ _ (by simp), World.cell?_setCell_other _ _ _ _ (by simp), World.cell?_setCell_other _ _ _ _ (by simp), World.cell?_setCell_other _ _ _ _ (by simp), World.cell?_setCell_other _ _ _ _ (by simp), World.cell?_setCell_other _ _ _ _ (by simp)]; exact h6), by exact World.cell?_setCell_same _ _ _ (by rw [World.cell?_setCell_other _ _ _ _ (by simp), World.cell?_setCell_other _ _ _ _ (by simp), World.cell?_setCell_other _ _ _ _ (by simp), World.cell?_setCell_other _ _ _ _ (by simp), World.cell?_setCell_other _ _ _ _ (by simp), World.cell?_setCell_other _ _ _ _ (by simp), World.cell?_setCell_other _ _ _ _ (by simp)]; exact h7)⟩

end Go.Proofs.Ytlhiahhpmjiioaa

namespace Go.Proofs.Ytlhiahhpmjiioaa
open Go.RowKit

/-- A call that answers a slice in a new block. -/
def NewS (w : World) (xs : List Int) (e : Ending) (w' : World) : Prop :=
  ∃ g, e = .returned (.slice (some ⟨g, 0, none⟩) xs.length xs.length) ∧ w.heap.size ≤ g ∧ Blk w' g xs ∧ Kept [] w w'

theorem set_part (xs : List Int) (n k : Nat) (hk : k < n) (hx : xs.length = n) :
    (xs.take k ++ List.replicate (n - k) 0).set k (xs.getD k 0) = xs.take (k + 1) ++ List.replicate (n - (k + 1)) 0 := by
  subst hx
  rw [List.set_append]
  simp only [List.length_take, Nat.min_eq_left (Nat.le_of_lt hk)]
  rw [if_neg (Nat.lt_irrefl k), Nat.sub_self]
  obtain ⟨m, hm⟩ : ∃ m, xs.length - k = m + 1 := ⟨xs.length - k - 1, by omega⟩
  rw [hm, show xs.length - (k + 1) = m by omega, List.replicate_succ]
  rw [List.take_succ_eq_append_getElem hk, List.append_assoc]
  congr 1
  simp [List.getD_eq_getElem?_getD, hk]

/-- A call that answers v and changes nothing that was there. -/
def Ans (w : World) (v : Value) (e : Ending) (w' : World) : Prop := e = .returned v ∧ Kept [] w w'

/-- Each number is not above the one behind it, below place k. -/
def OrdTo (xs : List Int) (k : Nat) : Prop := ∀ i, i + 1 < k → xs.getD i 0 ≤ xs.getD (i + 1) 0

set_option maxHeartbeats 400000 in
theorem inOrder_any (a : Option Addr) (n c : Nat) (xs : List Int) (w : World) (h : Rd w a n xs) (b : Bool) (hb : b = true ↔ OrdTo xs n) :
    Calls Try.prog 62 #[.slice a n c] w (Ans w (.bool b)) := by
  have hlen := h.1
  have hmax := h.2.1
  have HR := Lib.hid h
  have HL := Lib.hid hlen
  have HB := Lib.hid hb
  clear h hlen hb
  go_enter Try.func62, Try.ntmps62
  go_wp2
  go_loopw [3] (fun i wr => ∃ k : Nat, 1 ≤ k ∧ (k ≤ n ∨ k = 1) ∧ i = .int .i64 k ∧ Hid (OrdTo xs k) ∧ Hid (Kept [] w wr)) (fun i _ => n - (intOf i).toNat)
  case atStart => exact ⟨1, Nat.le_refl _, Or.inr rfl, rfl, fun i hi => by omega, Kept.refl [] w⟩
  case round =>
    obtain ⟨k, hk1, hk, rfl, hO, hK⟩ := hrel
    by_cases hlt : k < n
    · obtain ⟨g, off, rfl, hc0⟩ := HR.out.2.2 k hlt
      obtain ⟨g', off', he, hc0'⟩ := HR.out.2.2 (k - 1) (by omega)
      simp at he
      obtain ⟨rfl, rfl⟩ := he
      have hc := hK.out.cell hc0 (by simp)
      have hc' := hK.out.cell hc0' (by simp)
      have e1 : IntKind.i64.wrap ((k : Int) - 1) = (k : Int) - 1 := IntWalk.i64_in _ (by omega)
      have hlt1 : k - 1 < n := by omega
      have hlt2 : (k : Int) - 1 < n := by omega
      have hnn : (1 : Int) ≤ k := by omega
      have hcm : k ≤ 9223372036854775807 := by omega
      clear hc0 hc0' hk
      by_cases hle : xs.getD (k - 1) 0 ≤ xs.getD k 0
      · have hle' : ¬ xs.getD k 0 < xs.getD (k - 1) 0 := by omega
        have hO2 : Hid (OrdTo xs (k + 1)) := fun i hi => by
          by_cases he : i + 1 < k
          · exact hO.out i he
          · obtain rfl : i = k - 1 := by omega
            rw [Nat.sub_add_cancel hk1]; exact hle
        generalize hy : xs.getD (k - 1) 0 = y at *
        generalize hz : xs.getD k 0 = z at *
        have HY := Lib.hid hy
        have HZ := Lib.hid hz
        clear hy hz
        go_wp2
        go_quiet (fail)
        have hK2 : Hid (Kept [] w (wr.drewN nq)) := hK.out.drewN _
        clear hK
        go_wp2
        go_roundw
        case rel => exact ⟨k + 1, by omega, Or.inl (by omega), by go_num, hO2, hK2⟩
        case measure => simp [intOf]; omega
      · have hle' : xs.getD k 0 < xs.getD (k - 1) 0 := by omega
        have hf : Hid (b = false) := by
          cases b with
          | false => exact rfl
          | true =>
            have := HB.out.1 rfl (k - 1) (by omega)
            rw [Nat.sub_add_cancel hk1] at this
            omega
        generalize hy : xs.getD (k - 1) 0 = y at *
        generalize hz : xs.getD k 0 = z at *
        have HY := Lib.hid hy
        have HZ := Lib.hid hz
        clear hy hz
        go_wp2
        go_quiet (fail)
        have hK2 : Hid (Kept [] w (wr.drewN nq)) := hK.out.drewN _
        clear hK
        go_wp2
        go_ret
        exact ⟨by rw [hf.out]; rfl, hK2.out⟩
    · have ht : Hid (b = true) := HB.out.2 (fun i hi => hO.out i (by omega))
      go_wp2
      go_ret
      exact ⟨by rw [ht.out]; rfl, hK.out⟩

end Go.Proofs.Ytlhiahhpmjiioaa

namespace Go.Proofs.Ytlhiahhpmjiioaa

/-- Each of the first k numbers is a limb. -/
def LimbsTo (xs : List Int) (k : Nat) : Prop := ∀ i, i < k → 0 ≤ xs.getD i 0 ∧ xs.getD i 0 ≤ 65535
instance (xs : List Int) (k : Nat) : Decidable (LimbsTo xs k) := inferInstanceAs (Decidable (∀ i, i < k → _))

/-- The code that NatFault tells. -/
def natFault (xs : List Int) : Int :=
  if 40 < xs.length then 2 else if ¬ LimbsTo xs xs.length then 3 else if 0 < xs.length ∧ xs.getD (xs.length - 1) 0 = 0 then 1 else 0

theorem natFault_many {xs : List Int} (h : 40 < xs.length) : natFault xs = 2 := by unfold natFault; rw [if_pos h]
theorem natFault_range {xs : List Int} (h : ¬ 40 < xs.length) (k : Nat) (hk : k < xs.length) (hb : ¬ (0 ≤ xs.getD k 0 ∧ xs.getD k 0 ≤ 65535)) : natFault xs = 3 := by
  unfold natFault; rw [if_neg h, if_pos (fun hl => hb (hl k hk))]
theorem natFault_form {xs : List Int} (h : ¬ 40 < xs.length) (hl : LimbsTo xs xs.length) (hp : 0 < xs.length) (hz : xs.getD (xs.length - 1) 0 = 0) : natFault xs = 1 := by
  unfold natFault; rw [if_neg h, if_neg (fun hn => hn hl), if_pos ⟨hp, hz⟩]
theorem natFault_ok {xs : List Int} (h : ¬ 40 < xs.length) (hl : LimbsTo xs xs.length) (hz : 0 < xs.length → xs.getD (xs.length - 1) 0 ≠ 0) : natFault xs = 0 := by
  unfold natFault; rw [if_neg h, if_neg (fun hn => hn hl), if_neg (fun hn => hz hn.1 hn.2)]

/-- A list of numbers that is a natural: at most 40 limbs, none but 0 to 65535, no 0 at the top. -/
structure Nat40 (xs : List Int) : Prop where
  len : xs.length ≤ 40
  limb : LimbsTo xs xs.length
  top : 0 < xs.length → xs.getD (xs.length - 1) 0 ≠ 0

theorem natFault_zero {xs : List Int} (h : natFault xs = 0) : Nat40 xs := by
  unfold natFault at h
  by_cases h1 : 40 < xs.length
  · rw [if_pos h1] at h; omega
  rw [if_neg h1] at h
  by_cases h2 : LimbsTo xs xs.length
  · rw [if_neg (fun hn => hn h2)] at h
    by_cases h3 : 0 < xs.length ∧ xs.getD (xs.length - 1) 0 = 0
    · rw [if_pos h3] at h; omega
    · exact ⟨by omega, h2, fun hp hz => h3 ⟨hp, hz⟩⟩
  · rw [if_pos h2] at h; omega
theorem natFault_cases (xs : List Int) : natFault xs = 0 ∨ natFault xs = 1 ∨ natFault xs = 2 ∨ natFault xs = 3 := by
  unfold natFault
  by_cases h1 : 40 < xs.length
  · rw [if_pos h1]; omega
  rw [if_neg h1]
  by_cases h2 : LimbsTo xs xs.length
  · rw [if_neg (fun hn => hn h2)]
    by_cases h3 : 0 < xs.length ∧ xs.getD (xs.length - 1) 0 = 0
    · rw [if_pos h3]; omega
    · rw [if_neg h3]; omega
  · rw [if_pos h2]; omega

/-- Two lists: the first fault that is told. -/
def fault2 (xs ys : List Int) : Int := if natFault xs = 0 then natFault ys else natFault xs
theorem fault2_first {xs ys : List Int} (h : natFault xs ≠ 0) : fault2 xs ys = natFault xs := if_neg h
theorem fault2_second {xs ys : List Int} (h : natFault xs = 0) : fault2 xs ys = natFault ys := if_pos h
theorem fault2_zero {xs ys : List Int} (h : fault2 xs ys = 0) : natFault xs = 0 ∧ natFault ys = 0 := by
  by_cases h1 : natFault xs = 0
  · rw [fault2_second h1] at h; exact ⟨h1, h⟩
  · rw [fault2_first h1] at h; exact absurd h h1

/-- The number of n limbs that a function gives, the lowest first. -/
def vf (f : Nat → Int) : Nat → Int
  | 0 => 0
  | n + 1 => f 0 + 65536 * vf (fun i => f (i + 1)) n

theorem vf_congr : ∀ (n : Nat) (f g : Nat → Int), (∀ i, i < n → f i = g i) → vf f n = vf g n
  | 0, _, _, _ => rfl
  | n + 1, f, g, h => by
    have := vf_congr n (fun i => f (i + 1)) (fun i => g (i + 1)) (fun i hi => h (i + 1) (by omega))
    simp only [vf, h 0 (by omega), this]

/-- The number whose limbs a list holds, the lowest first. -/
def val : List Int → Int
  | [] => 0
  | x :: xs => x + 65536 * val xs

theorem vf_val : ∀ (xs : List Int) (n : Nat), xs.length ≤ n → vf (fun i => xs.getD i 0) n = val xs
  | [], n, _ => by
    have : ∀ n, vf (fun i => ([] : List Int).getD i 0) n = 0 := by
      intro n
      induction n with
      | zero => rfl
      | succ n ih => simp only [vf] at *; simp at ih ⊢; omega
    rw [this, val]
  | x :: xs, 0, h => by simp at h
  | x :: xs, n + 1, h => by
    have := vf_val xs n (by simpa using h)
    simp only [vf, val]
    simp at this ⊢
    omega

theorem vf_nonneg : ∀ (n : Nat) (f : Nat → Int), (∀ i, i < n → 0 ≤ f i) → 0 ≤ vf f n
  | 0, _, _ => by simp [vf]
  | n + 1, f, h => by
    have := vf_nonneg n (fun i => f (i + 1)) (fun i hi => h (i + 1) (by omega))
    have := h 0 (by omega)
    simp only [vf]; omega

/-- What is less at the highest place where two numbers differ is less. -/
theorem vf_lt : ∀ (n : Nat) (f g : Nat → Int) (i : Nat), i < n → (∀ j, i < j → j < n → f j = g j) → f i < g i →
    (∀ j, j < n → 0 ≤ f j ∧ f j ≤ 65535) → (∀ j, j < n → 0 ≤ g j ∧ g j ≤ 65535) → vf f n < vf g n
  | 0, _, _, _, hi, _, _, _, _ => by omega
  | n + 1, f, g, 0, _, he, hl, _, _ => by
    have := vf_congr n (fun i => f (i + 1)) (fun i => g (i + 1)) (fun i hi => he (i + 1) (by omega) (by omega))
    simp only [vf, this]; omega
  | n + 1, f, g, i + 1, hi, he, hl, hf, hg => by
    have := vf_lt n (fun i => f (i + 1)) (fun i => g (i + 1)) i (by omega) (fun j h1 h2 => he (j + 1) (by omega) (by omega)) hl (fun j hj => hf (j + 1) (by omega)) (fun j hj => hg (j + 1) (by omega))
    have h1 := hf 0 (by omega)
    have h2 := hg 0 (by omega)
    simp only [vf]; omega

theorem limb_getD {xs : List Int} (h : LimbsTo xs xs.length) (i : Nat) : 0 ≤ xs.getD i 0 ∧ xs.getD i 0 ≤ 65535 := by
  by_cases hi : i < xs.length
  · exact h i hi
  · rw [List.getD_eq_getElem?_getD, List.getElem?_eq_none (by omega)]; simp

theorem val_lt_at {xs ys : List Int} (hx : LimbsTo xs xs.length) (hy : LimbsTo ys ys.length) (n i : Nat) (hi : i < n) (h1 : xs.length ≤ n) (h2 : ys.length ≤ n)
    (he : ∀ j, i < j → j < n → xs.getD j 0 = ys.getD j 0) (hl : xs.getD i 0 < ys.getD i 0) : val xs < val ys := by
  rw [← vf_val xs n h1, ← vf_val ys n h2]
  exact vf_lt n _ _ i hi he hl (fun j _ => limb_getD hx j) (fun j _ => limb_getD hy j)
theorem val_eq_at {xs ys : List Int} (n : Nat) (h1 : xs.length ≤ n) (h2 : ys.length ≤ n)
    (he : ∀ j, j < n → xs.getD j 0 = ys.getD j 0) : val xs = val ys := by
  rw [← vf_val xs n h1, ← vf_val ys n h2]
  exact vf_congr n _ _ he

/-- Which of two numbers is the less. -/
def cmpV (x y : Int) : Int := if x < y then -1 else if y < x then 1 else 0
theorem cmpV_lt {x y : Int} (h : x < y) : cmpV x y = -1 := if_pos h
theorem cmpV_gt {x y : Int} (h : y < x) : cmpV x y = 1 := by unfold cmpV; rw [if_neg (by omega), if_pos h]
theorem cmpV_eq {x y : Int} (h : x = y) : cmpV x y = 0 := by unfold cmpV; rw [if_neg (by omega), if_neg (by omega)]

theorem val_lt_len {xs ys : List Int} (hx : Nat40 xs) (hy : Nat40 ys) (h : xs.length < ys.length) : val xs < val ys := by
  refine val_lt_at hx.limb hy.limb ys.length (ys.length - 1) (by omega) (by omega) (Nat.le_refl _) (fun j h1 h2 => by omega) ?_
  have h1 := hy.top (by omega)
  have h2 := limb_getD hy.limb (ys.length - 1)
  have h3 : xs.getD (ys.length - 1) 0 = 0 := by rw [List.getD_eq_getElem?_getD, List.getElem?_eq_none (by omega)]; rfl
  omega

/-- The limb at a place, 0 where there is none. -/
def atP (xs : List Int) (p : Int) : Int := if p < 0 then 0 else xs.getD p.toNat 0
theorem atP_nat (xs : List Int) (k : Nat) : atP xs k = xs.getD k 0 := by
  unfold atP; rw [if_neg (by omega)]; simp

/-- The limbs of a number, the lowest first; so many at most. -/
def digitsF : Nat → Int → List Int
  | 0, _ => []
  | f + 1, n => if n ≤ 0 then [] else (n % 65536) :: digitsF f (n / 65536)
def digits (n : Int) : List Int := digitsF n.toNat n

theorem digitsF_zero (f : Nat) (n : Int) (h : n ≤ 0) : digitsF f n = [] := by
  cases f with
  | zero => rfl
  | succ f => simp only [digitsF]; rw [if_pos h]
theorem digitsF_fuel : ∀ (f g : Nat) (n : Int), n.toNat ≤ f → n.toNat ≤ g → digitsF f n = digitsF g n
  | 0, g, n, hf, _ => by rw [digitsF_zero g n (by omega)]; rfl
  | f + 1, 0, n, _, hg => by rw [digitsF_zero (f + 1) n (by omega)]; rfl
  | f + 1, g + 1, n, hf, hg => by
    simp only [digitsF]
    by_cases h : n ≤ 0
    · rw [if_pos h, if_pos h]
    · rw [if_neg h, if_neg h, digitsF_fuel f g (n / 65536) (by omega) (by omega)]
theorem digits_zero {n : Int} (h : n ≤ 0) : digits n = [] := digitsF_zero _ n h
theorem digits_pos {n : Int} (h : 0 < n) : digits n = (n % 65536) :: digits (n / 65536) := by
  unfold digits
  obtain ⟨f, hf⟩ : ∃ f, n.toNat = f + 1 := ⟨n.toNat - 1, by omega⟩
  rw [hf]
  simp only [digitsF]
  rw [if_neg (by omega), digitsF_fuel f (n / 65536).toNat (n / 65536) (by omega) (by omega)]

/-- So many places: 65536 to the power of k. -/
def pw : Nat → Int
  | 0 => 1
  | k + 1 => 65536 * pw k
theorem pw_pos : ∀ k, 1 ≤ pw k
  | 0 => by simp [pw]
  | k + 1 => by have := pw_pos k; simp only [pw]; omega
theorem pw_mono : ∀ (i j : Nat), i ≤ j → pw i ≤ pw j
  | 0, j, _ => by have := pw_pos j; simp only [pw]; omega
  | i + 1, 0, h => by omega
  | i + 1, j + 1, h => by have := pw_mono i j (by omega); simp only [pw]; omega

theorem digits_len : ∀ (k : Nat) (n : Int), n < pw k → (digits n).length ≤ k
  | 0, n, h => by simp only [pw] at h; rw [digits_zero (by omega)]; simp
  | k + 1, n, h => by
    by_cases hn : 0 < n
    · rw [digits_pos hn]
      simp only [pw] at h
      have := digits_len k (n / 65536) (by omega)
      simp only [List.length_cons]; omega
    · rw [digits_zero (by omega)]; simp

/-- A list of limbs, each 0 to 65535, with no 0 at the top. -/
def Canon : List Int → Prop
  | [] => True
  | x :: xs => 0 ≤ x ∧ x ≤ 65535 ∧ Canon xs ∧ (xs = [] → x ≠ 0)

theorem canon_nonneg : ∀ {xs : List Int}, Canon xs → 0 ≤ val xs ∧ (xs ≠ [] → 0 < val xs)
  | [], _ => by simp [val]
  | x :: xs, h => by
    obtain ⟨h1, h2, h3, h4⟩ := h
    obtain ⟨i1, i2⟩ := canon_nonneg h3
    simp only [val]
    refine ⟨by omega, fun _ => ?_⟩
    by_cases e : xs = []
    · have := h4 e; subst e; simp only [val] at *; omega
    · have := i2 e; omega
theorem digits_val : ∀ {xs : List Int}, Canon xs → digits (val xs) = xs
  | [], _ => digits_zero (by simp [val])
  | x :: xs, h => by
    have h0 := (canon_nonneg h).2 (by simp)
    obtain ⟨h1, h2, h3, h4⟩ := h
    have ih := digits_val h3
    have i1 := (canon_nonneg h3).1
    rw [digits_pos h0]
    simp only [val]
    rw [show (x + 65536 * val xs) % 65536 = x by omega, show (x + 65536 * val xs) / 65536 = val xs by omega, ih]
theorem val_digits : ∀ (f : Nat) (n : Int), n.toNat ≤ f → 0 ≤ n → val (digits n) = n
  | 0, n, hf, h => by rw [digits_zero (by omega)]; simp [val]; omega
  | f + 1, n, hf, h => by
    by_cases hn : 0 < n
    · rw [digits_pos hn]
      simp only [val]
      rw [val_digits f (n / 65536) (by omega) (by omega)]; omega
    · rw [digits_zero (by omega)]; simp [val]; omega
theorem val_digits' {n : Int} (h : 0 ≤ n) : val (digits n) = n := val_digits n.toNat n (Nat.le_refl _) h
theorem canon_digits : ∀ (f : Nat) (n : Int), n.toNat ≤ f → Canon (digits n)
  | 0, n, hf => by rw [digits_zero (by omega)]; trivial
  | f + 1, n, hf => by
    by_cases hn : 0 < n
    · rw [digits_pos hn]
      refine ⟨by omega, by omega, canon_digits f (n / 65536) (by omega), fun e => ?_⟩
      by_cases h2 : 0 < n / 65536
      · rw [digits_pos h2] at e; cases e
      · omega
    · rw [digits_zero (by omega)]; trivial
theorem canon_digits' (n : Int) : Canon (digits n) := canon_digits n.toNat n (Nat.le_refl _)

theorem canon_of_get : ∀ (xs : List Int), (∀ i, i < xs.length → 0 ≤ xs.getD i 0 ∧ xs.getD i 0 ≤ 65535) → (0 < xs.length → xs.getD (xs.length - 1) 0 ≠ 0) → Canon xs
  | [], _, _ => trivial
  | x :: xs, h, ht => by
    have h0 := h 0 (by simp)
    refine ⟨by simpa using h0.1, by simpa using h0.2, canon_of_get xs (fun i hi => by have := h (i + 1) (by simpa using hi); simpa using this) (fun hp => ?_), fun e => ?_⟩
    · have := ht (by simp)
      obtain ⟨k, hk⟩ : ∃ k, xs.length = k + 1 := ⟨xs.length - 1, by omega⟩
      simp only [List.length_cons, hk] at this ⊢
      simpa using this
    · subst e; simpa using ht (by simp)
theorem Nat40.canon {xs : List Int} (h : Nat40 xs) : Canon xs := canon_of_get xs h.limb h.top
theorem canon_get : ∀ {xs : List Int}, Canon xs → LimbsTo xs xs.length ∧ (0 < xs.length → xs.getD (xs.length - 1) 0 ≠ 0)
  | [], _ => ⟨fun i hi => by simp at hi, fun h => by simp at h⟩
  | x :: xs, h => by
    obtain ⟨h1, h2, h3, h4⟩ := h
    obtain ⟨i1, i2⟩ := canon_get h3
    refine ⟨fun i hi => ?_, fun _ => ?_⟩
    · cases i with
      | zero => simpa using ⟨h1, h2⟩
      | succ i => simpa using i1 i (by simpa using hi)
    · cases xs with
      | nil => simpa using h4 rfl
      | cons y ys => simpa using i2 (by simp)
theorem nat40_of_canon {xs : List Int} (h : Canon xs) (hl : xs.length ≤ 40) : Nat40 xs := ⟨hl, (canon_get h).1, (canon_get h).2⟩

/-- The numbers from k on, so many. -/
def cnt (k : Int) (n : Nat) : List Int := (List.range n).map (fun (i : Nat) => k + (i : Int))
theorem cnt_length (k : Int) (n : Nat) : (cnt k n).length = n := by simp [cnt]
theorem cnt_getD (k : Int) (n i : Nat) (h : i < n) : (cnt k n).getD i 0 = k + i := by
  simp [cnt, List.getD_eq_getElem?_getD, h]

end Go.Proofs.Ytlhiahhpmjiioaa

namespace Go.Proofs.Ytlhiahhpmjiioaa
open Go.RowKit

/-- The call owns, from block B on, a slice that holds the numbers xs. -/
def Ow (B : Nat) (w : World) (v : Value) (xs : List Int) : Prop := w.ownsRow B 2 1 v xs.length (xs.map (Value.int .i64))
theorem Ow.alloc {B : Nat} {w : World} {v : Value} {xs : List Int} (h : Ow B w v xs) (o : Obj) : Ow B (w.alloc o) v xs := World.ownsRow.alloc h o
theorem Ow.sl {B : Nat} {w : World} {v : Value} {xs : List Int} (h : Ow B w v xs) : ∃ a c, v = .slice a xs.length c ∧ Sl w a xs.length c xs ∧ Fr B a xs.length := by
  obtain ⟨a, c, h1, h2, h3, _⟩ := sl_of_owns h; exact ⟨a, c, h1, h2, h3⟩
theorem Ow.nil (B : Nat) (w : World) : Ow B w (.slice none 0 0) [] := World.ownsRow_nil w B 2 1
theorem Ow.empty (B : Nat) (w : World) (hB : B ≤ w.heap.size) : Ow B (w.alloc (.cells #[] 2)) (.slice (some ⟨w.heap.size, 0, none⟩) 0 0) [] :=
  World.ownsRow_made (e := 2) (size := 1) w #[] 0 hB (Nat.zero_le _) rfl
theorem Ow.kept {B : Nat} {w w' : World} {v : Value} {xs : List Int} {L : List Nat} (h : Ow B w v xs) (k : Kept L w w') (hL : ∀ g, v.ownBlock = some g → g ∉ L) : Ow B w' v xs := by
  have hlt := World.ownsRow.lt h
  obtain ⟨h1, h2⟩ := h
  refine ⟨h1, ?_⟩
  rcases h2 with h2 | ⟨g, cap, cur, hv, hg, hh, r⟩
  · exact Or.inl h2
  · exact Or.inr ⟨g, cap, cur, hv, hg, by rw [k.block g (hlt g (by rw [hv]; rfl)).2 (hL g (by rw [hv]; rfl))]; exact hh, r⟩
theorem Ow.kept0 {B : Nat} {w w' : World} {v : Value} {xs : List Int} (h : Ow B w v xs) (k : Kept [] w w') : Ow B w' v xs := h.kept k (by simp)
theorem Ow.mono {B B' : Nat} {w : World} {v : Value} {xs : List Int} (h : Ow B w v xs) (hB : B' ≤ B) : Ow B' w v xs := by
  obtain ⟨h1, h2⟩ := h
  refine ⟨h1, ?_⟩
  rcases h2 with h2 | ⟨g, cap, cur, hv, hg, r⟩
  · exact Or.inl h2
  · exact Or.inr ⟨g, cap, cur, hv, Nat.le_trans hB hg, r⟩

/-- One number more at the end of a slice that the call owns. -/
theorem app1 {w : World} {ops : Array Oper} {rest : List Oper} {o : Oper} {a : Act} {Q : Exit → Act → World → Prop} (hgd : o.guard = none) (s x : Operand)
    (ho : o.op = .call { callee := .builtin .append, args := #[s, x], argTypes := #[24, 24] })
    (base : Nat) (v : Value) (xs : List Int) (hs : a.eval s = v) (hown : Ow base w v xs)
    (g0 : Nat) (y : Int) (hx : a.eval x = .slice (some ⟨g0, 0, none⟩) 1 1) (hc : w.cell? ⟨g0, 0, none⟩ = some (.int .i64 y))
    (hlen : xs.length ≤ 1099511627776) (hbase : base ≤ w.heap.size)
    (h : ∀ v' w', Ow base w' v' (xs ++ [y]) → w.grownBy w' v.ownBlock → wpList Try.prog ops Q rest (a.put o.dst v') w') :
    wpList Try.prog ops Q (o :: rest) a w := by
  obtain ⟨i0, hi, hz0, hz1, hz2⟩ := info_parts Try.info64
  refine wpList_append_own w hgd s x 24 ho base 2 i0 (.int .i64 0) 1 8 Try.underlying24 hi hz0 hz1 hz2 rfl (by decide) v xs.length _ hs hown ⟨g0, 0, none⟩ 1 1 [.int .i64 y] hx rfl ?_ ?_ ?_ ?_ hbase ?_
  · intro j u hj
    have hj0 : j = 0 := by
      have := (List.getElem?_eq_some_iff.1 hj).1
      simp at this; exact this
    subst hj0
    simp at hj
    subst hj
    rw [Addr.add_lit]; exact hc
  · intro u hu; simp at hu; subst hu; rfl
  · unfold maxLen; omega
  · omega
  · intro v' w' h1 h2 _
    refine h v' w' ?_ h2
    have e : (xs ++ [y]).length = xs.length + 1 := by simp
    unfold Ow
    rw [e, List.map_append]
    exact h1

/-- A call that answers a code and a slice in memory of its own. -/
def NatR (w : World) (code : Int) (xs : List Int) (e : Ending) (w' : World) : Prop :=
  ∃ a c, e = .returned (.agg #[.int .i64 code, .slice a xs.length c]) ∧ Sl w' a xs.length c xs ∧ Fr w.heap.size a xs.length ∧ Kept [] w w'
/-- A call that answers a slice in memory of its own. -/
def SlR (w : World) (xs : List Int) (e : Ending) (w' : World) : Prop :=
  ∃ v, e = .returned v ∧ Ow w.heap.size w' v xs ∧ Kept [] w w'

/-- What happens to a slice of the call's own when memory grows by an append to it. -/
theorem kept_grown {L : List Nat} {w wr w' : World} {base : Nat} {v : Value} {xs : List Int} (h : Kept L w wr) (hown : Ow base wr v xs) (hg : wr.grownBy w' v.ownBlock) (hb : w.heap.size ≤ base) : Kept L w w' :=
  h.grown hg (fun k hk hlt => by have := (World.ownsRow.lt hown k hk).1; omega)

end Go.Proofs.Ytlhiahhpmjiioaa

namespace Go.Proofs.Ytlhiahhpmjiioaa
open Go.RowKit

/-- The block that a slice of n elements lies in. -/
def blkOf (a : Option Addr) (n : Nat) : List Nat := if n = 0 then [] else match a with | some x => [x.block] | none => []
theorem blkOf_mem {a : Option Addr} {n k : Nat} (h : k ∈ blkOf a n) : 0 < n ∧ ∃ x, a = some x ∧ x.block = k := by
  unfold blkOf at h
  split at h
  · cases h
  · cases a with
    | none => cases h
    | some x => simp at h; exact ⟨by omega, x, rfl, h.symm⟩

theorem blkOf_one {g n k : Nat} (h : k ∈ blkOf (some ⟨g, 0, none⟩) n) : k = g := by
  obtain ⟨_, y, hy, e⟩ := blkOf_mem h
  cases hy; exact e.symm

end Go.Proofs.Ytlhiahhpmjiioaa

namespace Go.Proofs.Ytlhiahhpmjiioaa
open Go.RowKit

/-- A call that answers a big in a new block. -/
def NewB (w : World) (b : Bool) (xs : List Int) (e : Ending) (w' : World) : Prop :=
  ∃ g, e = .returned (.agg #[.bool b, .slice (some ⟨g, 0, none⟩) xs.length xs.length]) ∧ w.heap.size ≤ g ∧ Blk w' g xs ∧ Kept [] w w'

theorem Kept.peel {L : List Nat} {w w1 : World} {o : Obj} (hk : Kept L (w.alloc o) w1) : Kept L w w1 :=
  ((Kept.refl L w).alloc o).trans hk (fun _ hx _ => hx)
/-- A cell of the block that was made last, behind whatever leaves it alone. -/
theorem Kept.top {L : List Nat} {w w1 : World} {c : Array Value} {T : TypeId} (hk : Kept L (w.alloc (.cells c T)) w1) {g : Nat} (hb : w.heap.size = g) (hL : g ∉ L) (i : Nat) {v : Value} (hv : c[i]? = some v) :
    w1.cell? ⟨g, i, none⟩ = some v ∧ w1.frozen? ⟨g, i, none⟩ = false ∧ g < w1.heap.size := by
  subst hb
  have h := hk.size
  rw [World.size_alloc] at h
  refine ⟨hk.cell (p := ⟨w.heap.size, i, none⟩) (by rw [World.cell?_alloc_new]; exact hv) hL, hk.free (p := ⟨w.heap.size, i, none⟩) ?_ (by simp) hL, by omega⟩
  exact frozen_of_row _ _ _ _ _ (heap_alloc_new w _)

/-! The cells of a block that was just made, and that they are free, all at once. -/
theorem tp1 {L : List Nat} {w w1 : World} {v0 : Value} {T : TypeId} (hk : Kept L (w.alloc (.cells #[v0] T)) w1) {g : Nat} (hb : w.heap.size = g) (hL : g ∉ L) :
    (Hid (w1.cell? ⟨g, 0, none⟩ = some v0)) ∧ (Hid (w1.frozen? ⟨g, 0, none⟩ = false)) :=
  ⟨Lib.hid (hk.top hb hL 0 rfl).1, Lib.hid (hk.top hb hL 0 rfl).2.1⟩
theorem tp2 {L : List Nat} {w w1 : World} {v0 v1 : Value} {T : TypeId} (hk : Kept L (w.alloc (.cells #[v0, v1] T)) w1) {g : Nat} (hb : w.heap.size = g) (hL : g ∉ L) :
    (Hid (w1.cell? ⟨g, 0, none⟩ = some v0) ∧ Hid (w1.cell? ⟨g, 1, none⟩ = some v1)) ∧ (Hid (w1.frozen? ⟨g, 0, none⟩ = false) ∧ Hid (w1.frozen? ⟨g, 1, none⟩ = false)) :=
  ⟨⟨Lib.hid (hk.top hb hL 0 rfl).1, Lib.hid (hk.top hb hL 1 rfl).1⟩, ⟨Lib.hid (hk.top hb hL 0 rfl).2.1, Lib.hid (hk.top hb hL 1 rfl).2.1⟩⟩
theorem tp3 {L : List Nat} {w w1 : World} {v0 v1 v2 : Value} {T : TypeId} (hk : Kept L (w.alloc (.cells #[v0, v1, v2] T)) w1) {g : Nat} (hb : w.heap.size = g) (hL : g ∉ L) :
    (Hid (w1.cell? ⟨g, 0, none⟩ = some v0) ∧ Hid (w1.cell? ⟨g, 1, none⟩ = some v1) ∧ Hid (w1.cell? ⟨g, 2, none⟩ = some v2)) ∧ (Hid (w1.frozen? ⟨g, 0, none⟩ = false) ∧ Hid (w1.frozen? ⟨g, 1, none⟩ = false) ∧ Hid (w1.frozen? ⟨g, 2, none⟩ = false)) :=
  ⟨⟨Lib.hid (hk.top hb hL 0 rfl).1, Lib.hid (hk.top hb hL 1 rfl).1, Lib.hid (hk.top hb hL 2 rfl).1⟩, ⟨Lib.hid (hk.top hb hL 0 rfl).2.1, Lib.hid (hk.top hb hL 1 rfl).2.1, Lib.hid (hk.top hb hL 2 rfl).2.1⟩⟩
theorem tp4 {L : List Nat} {w w1 : World} {v0 v1 v2 v3 : Value} {T : TypeId} (hk : Kept L (w.alloc (.cells #[v0, v1, v2, v3] T)) w1) {g : Nat} (hb : w.heap.size = g) (hL : g ∉ L) :
    (Hid (w1.cell? ⟨g, 0, none⟩ = some v0) ∧ Hid (w1.cell? ⟨g, 1, none⟩ = some v1) ∧ Hid (w1.cell? ⟨g, 2, none⟩ = some v2) ∧ Hid (w1.cell? ⟨g, 3, none⟩ = some v3)) ∧ (Hid (w1.frozen? ⟨g, 0, none⟩ = false) ∧ Hid (w1.frozen? ⟨g, 1, none⟩ = false) ∧ Hid (w1.frozen? ⟨g, 2, none⟩ = false) ∧ Hid (w1.frozen? ⟨g, 3, none⟩ = false)) :=
  ⟨⟨Lib.hid (hk.top hb hL 0 rfl).1, Lib.hid (hk.top hb hL 1 rfl).1, Lib.hid (hk.top hb hL 2 rfl).1, Lib.hid (hk.top hb hL 3 rfl).1⟩, ⟨Lib.hid (hk.top hb hL 0 rfl).2.1, Lib.hid (hk.top hb hL 1 rfl).2.1, Lib.hid (hk.top hb hL 2 rfl).2.1, Lib.hid (hk.top hb hL 3 rfl).2.1⟩⟩
theorem tp5 {L : List Nat} {w w1 : World} {v0 v1 v2 v3 v4 : Value} {T : TypeId} (hk : Kept L (w.alloc (.cells #[v0, v1, v2, v3, v4] T)) w1) {g : Nat} (hb : w.heap.size = g) (hL : g ∉ L) :
    (Hid (w1.cell? ⟨g, 0, none⟩ = some v0) ∧ Hid (w1.cell? ⟨g, 1, none⟩ = some v1) ∧ Hid (w1.cell? ⟨g, 2, none⟩ = some v2) ∧ Hid (w1.cell? ⟨g, 3, none⟩ = some v3) ∧ Hid (w1.cell? ⟨g, 4, none⟩ = some v4)) ∧ (Hid (w1.frozen? ⟨g, 0, none⟩ = false) ∧ Hid (w1.frozen? ⟨g, 1, none⟩ = false) ∧ Hid (w1.frozen? ⟨g, 2, none⟩ = false) ∧ Hid (w1.frozen? ⟨g, 3, none⟩ = false) ∧ Hid (w1.frozen? ⟨g, 4, none⟩ = false)) :=
  ⟨⟨Lib.hid (hk.top hb hL 0 rfl).1, Lib.hid (hk.top hb hL 1 rfl).1, Lib.hid (hk.top hb hL 2 rfl).1, Lib.hid (hk.top hb hL 3 rfl).1, Lib.hid (hk.top hb hL 4 rfl).1⟩, ⟨Lib.hid (hk.top hb hL 0 rfl).2.1, Lib.hid (hk.top hb hL 1 rfl).2.1, Lib.hid (hk.top hb hL 2 rfl).2.1, Lib.hid (hk.top hb hL 3 rfl).2.1, Lib.hid (hk.top hb hL 4 rfl).2.1⟩⟩

theorem Kept.allocH {L : List Nat} {W w : World} {o : Obj} (h : Hid (Kept L W w)) : Hid (Kept L W (w.alloc o)) := Lib.hid (h.out.alloc o)
theorem alloc_cell {w : World} {o : Obj} {p : Addr} {v : Value} (h : w.cell? p = some v) : (w.alloc o).cell? p = some v := ((Kept.refl [] w).alloc o).cell h (by simp)

end Go.Proofs.Ytlhiahhpmjiioaa

namespace Go.Proofs.Ytlhiahhpmjiioaa

/-- The number of the limbs of a list with a number behind the last one. -/
def ap : List Int → Int → Int
  | [], x => x
  | d :: ds, x => d + 65536 * ap ds x
theorem ap_snoc : ∀ (ds : List Int) (d x : Int), ap (ds ++ [d]) x = ap ds (d + 65536 * x)
  | [], _, _ => rfl
  | e :: ds, d, x => by simp only [List.cons_append, ap]; rw [ap_snoc ds d x]
theorem ap_zero : ∀ (ds : List Int), ap ds 0 = val ds
  | [] => rfl
  | d :: ds => by simp only [ap, val]; rw [ap_zero ds]
theorem ap_pw : ∀ (ds : List Int) (x : Int), ap ds x = val ds + pw ds.length * x
  | [], x => by simp [ap, val, pw]
  | d :: ds, x => by
    simp only [ap, val, pw, List.length_cons]
    rw [ap_pw ds x, Int.mul_add, Int.mul_assoc]; omega

/-- Each number of a list is a limb. -/
def AllLimbs (xs : List Int) : Prop := ∀ i, i < xs.length → 0 ≤ xs.getD i 0 ∧ xs.getD i 0 ≤ 65535
theorem AllLimbs.snoc {xs : List Int} (h : AllLimbs xs) {d : Int} (hd : 0 ≤ d ∧ d ≤ 65535) : AllLimbs (xs ++ [d]) := by
  intro i hi
  by_cases e : i < xs.length
  · have := h i e
    simp only [List.getD_eq_getElem?_getD, List.getElem?_append_left e] at this ⊢; exact this
  · have : i = xs.length := by simp at hi; omega
    subst this
    simpa [List.getD_eq_getElem?_getD] using hd
theorem AllLimbs.tail {x : Int} {xs : List Int} (h : AllLimbs (x :: xs)) : AllLimbs xs := fun i hi => by
  have := h (i + 1) (by simpa using hi); simpa using this
theorem AllLimbs.head {x : Int} {xs : List Int} (h : AllLimbs (x :: xs)) : 0 ≤ x ∧ x ≤ 65535 := by have := h 0 (by simp); simpa using this
theorem AllLimbs.val : ∀ {xs : List Int}, AllLimbs xs → 0 ≤ val xs ∧ val xs < pw xs.length
  | [], _ => by simp [Proofs.Ytlhiahhpmjiioaa.val, pw]
  | x :: xs, h => by
    have h1 := h.head
    have h2 := h.tail.val
    simp only [Proofs.Ytlhiahhpmjiioaa.val, pw, List.length_cons]
    omega
theorem AllLimbs.take {xs : List Int} (h : AllLimbs xs) (k : Nat) : AllLimbs (xs.take k) := by
  intro i hi
  simp only [List.length_take] at hi
  have := h i (by omega)
  simp only [List.getD_eq_getElem?_getD, List.getElem?_take, show i < k by omega, if_true] at this ⊢; exact this
theorem AllLimbs.drop {xs : List Int} (h : AllLimbs xs) (k : Nat) : AllLimbs (xs.drop k) := by
  intro i hi
  simp only [List.length_drop] at hi
  have := h (k + i) (by omega)
  simp only [List.getD_eq_getElem?_getD, List.getElem?_drop] at this ⊢; exact this

/-- Where the numbers behind place k are all 0, and the one ahead of it is not, the first k are the number's limbs. -/
theorem take_digits {xs : List Int} (h : AllLimbs xs) (k : Nat) (hk : k ≤ xs.length) (hz : ∀ j, k ≤ j → j < xs.length → xs.getD j 0 = 0) (ht : 0 < k → xs.getD (k - 1) 0 ≠ 0) : xs.take k = digits (val xs) := by
  have hl : (xs.take k).length = k := by simp; omega
  have hg : ∀ i, i < k → (xs.take k).getD i 0 = xs.getD i 0 := fun i hi => by
    simp only [List.getD_eq_getElem?_getD, List.getElem?_take, hi, if_true]
  have hc : Canon (xs.take k) := canon_of_get _ (h.take k) (fun hp => by rw [hl] at hp ⊢; rw [hg _ (by omega)]; exact ht hp)
  have hv : val (xs.take k) = val xs := by
    refine val_eq_at xs.length (by omega) (Nat.le_refl _) (fun j hj => ?_)
    by_cases e : j < k
    · exact hg j e
    · rw [hz j (by omega) hj, List.getD_eq_getElem?_getD, List.getElem?_eq_none (by omega)]; rfl
  rw [← hv, digits_val hc]

/-- From place off on a list was overwritten by out. -/
structure Upd (cs : List Int) (off : Nat) (out ds : List Int) : Prop where
  len : ds.length = cs.length
  new : ∀ i, i < out.length → ds.getD (off + i) 0 = out.getD i 0
  old : ∀ j, (j < off ∨ off + out.length ≤ j) → ds.getD j 0 = cs.getD j 0
theorem Upd.refl (cs : List Int) (off : Nat) : Upd cs off [] cs := ⟨rfl, fun i hi => by simp at hi, fun _ _ => rfl⟩
theorem Upd.snoc {cs ds out : List Int} {off : Nat} (h : Upd cs off out ds) (y : Int) (hl : off + out.length < cs.length) : Upd cs off (out ++ [y]) (ds.set (off + out.length) y) := by
  refine ⟨by rw [List.length_set]; exact h.len, fun i hi => ?_, fun j hj => ?_⟩
  · have hlen := h.len
    by_cases e : i = out.length
    · subst e
      simp [List.getD_eq_getElem?_getD, show off + out.length < ds.length by omega]
    · have hi2 : i < out.length := by simp at hi; omega
      have := h.new i hi2
      simp only [List.getD_eq_getElem?_getD, List.getElem?_append_left hi2] at this ⊢
      rw [List.getElem?_set_ne (by omega)]; exact this
  · have hj2 : j < off ∨ off + (out.length + 1) ≤ j := by simpa using hj
    have := h.old j (by omega)
    simp only [List.getD_eq_getElem?_getD] at this ⊢
    rw [List.getElem?_set_ne (by omega)]; exact this
theorem getD_ext {xs ys : List Int} (hl : xs.length = ys.length) (h : ∀ i, i < xs.length → xs.getD i 0 = ys.getD i 0) : xs = ys := by
  apply List.ext_getElem hl
  intro i h1 h2
  have := h i h1
  simpa [List.getD_eq_getElem?_getD, h1, h2] using this
theorem Upd.whole {cs ds out : List Int} (h : Upd cs 0 out ds) (hl : out.length = cs.length) : ds = out :=
  getD_ext (by rw [h.len, hl]) (fun i hi => by have := h.new i (by rw [hl, ← h.len]; exact hi); rwa [Nat.zero_add] at this)

/-- What is left to be added at place k: the limbs ss from there on, and t times the number f from there on. -/
def rest (ss : List Int) (f : Nat → Int) (t : Int) (k : Nat) : Int := val (ss.drop k) + t * vf (fun i => f (k + i)) (ss.length - k)
theorem rest_step (ss : List Int) (f : Nat → Int) (t : Int) (k : Nat) (hk : k < ss.length) : rest ss f t k = ss.getD k 0 + t * f k + 65536 * rest ss f t (k + 1) := by
  unfold rest
  obtain ⟨m, hm⟩ : ∃ m, ss.length - k = m + 1 := ⟨ss.length - k - 1, by omega⟩
  rw [hm, show ss.length - (k + 1) = m by omega, List.drop_eq_getElem_cons hk]
  have e : (fun i => f (k + (i + 1))) = (fun i => f (k + 1 + i)) := by funext i; congr 1; omega
  simp only [val, vf, Nat.add_zero, e]
  rw [Int.mul_add, Int.mul_add, Int.mul_left_comm]
  simp [List.getD_eq_getElem?_getD, hk]
  omega
theorem rest_end (ss : List Int) (f : Nat → Int) (t : Int) : rest ss f t ss.length = 0 := by
  unfold rest; simp [val, vf]
theorem rest_start (ss : List Int) (f : Nat → Int) (t : Int) : rest ss f t 0 = val ss + t * vf f ss.length := by
  unfold rest; simp
theorem mul_bd (t y : Int) (ht : -1048576 ≤ t ∧ t ≤ 1048576) (hy : 0 ≤ y ∧ y ≤ 65535) : -68719476736 ≤ t * y ∧ t * y ≤ 68719476736 := by
  have h1 : t * y ≤ 1048576 * y := Int.mul_le_mul_of_nonneg_right ht.2 hy.1
  have h2 : -1048576 * y ≤ t * y := Int.mul_le_mul_of_nonneg_right ht.1 hy.1
  omega

theorem val_drop : ∀ (xs : List Int) (k : Nat), val (xs.drop k) = xs.getD k 0 + 65536 * val (xs.drop (k + 1))
  | [], k => by simp [val]
  | x :: xs, 0 => by simp [val]
  | x :: xs, k + 1 => by have := val_drop xs k; simpa using this

/-- A list of limbs whose last is not 0 is what its number's limbs are. -/
theorem digits_of_limbs {xs : List Int} (h : AllLimbs xs) (ht : 0 < xs.length → xs.getD (xs.length - 1) 0 ≠ 0) : xs = digits (val xs) :=
  (digits_val (canon_of_get xs h ht)).symm
theorem canon_limbs {xs : List Int} (h : Canon xs) : AllLimbs xs := (canon_get h).1
theorem canon_top {xs : List Int} (h : Canon xs) (k : Nat) (hk : k + 1 = xs.length) : 0 < xs.getD k 0 := by
  have h1 := (canon_get h).2 (by omega)
  have h2 := canon_limbs h k (by omega)
  rw [show xs.length - 1 = k by omega] at h1
  omega
theorem getD_limb {xs : List Int} (h : AllLimbs xs) (k : Nat) : 0 ≤ xs.getD k 0 ∧ xs.getD k 0 ≤ 65535 := by
  by_cases e : k < xs.length
  · exact h k e
  · rw [List.getD_eq_getElem?_getD, List.getElem?_eq_none (by omega)]; simp
theorem getD_past {xs : List Int} {k : Nat} (h : xs.length ≤ k) : xs.getD k 0 = 0 := by
  rw [List.getD_eq_getElem?_getD, List.getElem?_eq_none (by omega)]; rfl
theorem getD_last (xs : List Int) (d : Int) : (xs ++ [d]).getD ((xs ++ [d]).length - 1) 0 = d := by simp [List.getD_eq_getElem?_getD]

end Go.Proofs.Ytlhiahhpmjiioaa

namespace Go.Proofs.Ytlhiahhpmjiioaa

theorem val_append : ∀ (L W : List Int), val (L ++ W) = ap L (val W)
  | [], _ => rfl
  | d :: L, W => by simp only [List.cons_append, val, ap]; rw [val_append L W]
theorem val_zeros : ∀ (n : Nat), val (List.replicate n 0) = 0
  | 0 => rfl
  | n + 1 => by simp only [List.replicate_succ, val]; rw [val_zeros n]; rfl
theorem val_take_succ (xs : List Int) (i : Nat) (hi : i < xs.length) : val (xs.take (i + 1)) = val (xs.take i) + pw i * xs.getD i 0 := by
  rw [List.take_succ_eq_append_getElem hi, val_append, ap_pw]
  have e : (xs.take i).length = i := by simp; omega
  rw [e]
  congr 2
  simp [val, List.getD_eq_getElem?_getD, hi]
theorem AllLimbs.append {xs ys : List Int} (h : AllLimbs xs) (h' : AllLimbs ys) : AllLimbs (xs ++ ys) := fun i hi => by
  by_cases e : i < xs.length
  · have := h i e
    simp only [List.getD_eq_getElem?_getD, List.getElem?_append_left e] at this ⊢; exact this
  · have := h' (i - xs.length) (by simp at hi; omega)
    simp only [List.getD_eq_getElem?_getD, List.getElem?_append_right (Nat.not_lt.1 e)] at this ⊢; exact this
theorem AllLimbs.zeros (n : Nat) : AllLimbs (List.replicate n 0) := fun i hi => by
  have : i < n := by simpa using hi
  simp [List.getD_eq_getElem?_getD, this]
theorem no_carryP {out : List Int} {cy T : Int} {n : Nat} (ho : AllLimbs out) (hl : out.length = n) (hT : 0 ≤ T ∧ T < pw n) (h : ap out cy = T) : cy = 0 ∧ val out = T := by
  have h1 := ho.val
  rw [ap_pw, hl] at h
  rw [hl] at h1
  have hp := pw_pos n
  generalize pw n = P at *
  have hc : cy = 0 := by
    rcases Int.lt_trichotomy cy 0 with hc | hc | hc
    · have : P * cy ≤ P * (-1) := Int.mul_le_mul_of_nonneg_left (by omega) (by omega)
      omega
    · exact hc
    · have : P * 1 ≤ P * cy := Int.mul_le_mul_of_nonneg_left (by omega) (by omega)
      omega
  subst hc
  simp at h; exact ⟨rfl, h⟩

theorem Upd.eq {cs ds out : List Int} {off : Nat} (h : Upd cs off out ds) (hl : off + out.length ≤ cs.length) : ds = cs.take off ++ (out ++ cs.drop (off + out.length)) := by
  have hlen : (cs.take off).length = off := by simp; omega
  refine getD_ext (by rw [h.len]; simp; omega) (fun i hi => ?_)
  rw [h.len] at hi
  by_cases e1 : i < off
  · rw [h.old i (Or.inl e1)]
    simp only [List.getD_eq_getElem?_getD]
    rw [List.getElem?_append_left (by omega), List.getElem?_take, if_pos e1]
  · by_cases e2 : i < off + out.length
    · have := h.new (i - off) (by omega)
      rw [show off + (i - off) = i by omega] at this
      rw [this]
      simp only [List.getD_eq_getElem?_getD]
      rw [List.getElem?_append_right (by omega), hlen, List.getElem?_append_left (by omega)]
    · rw [h.old i (Or.inr (by omega))]
      simp only [List.getD_eq_getElem?_getD]
      rw [List.getElem?_append_right (by omega), hlen, List.getElem?_append_right (by omega), List.getElem?_drop]
      congr 2
      omega
theorem Upd.pad {cs ds out : List Int} {off : Nat} (h : Upd cs off out ds) (_hl : off + out.length < cs.length) (hz : cs.getD (off + out.length) 0 = 0) : Upd cs off (out ++ [0]) ds := by
  refine ⟨h.len, fun i hi => ?_, fun j hj => h.old j (by simp at hj; omega)⟩
  by_cases e : i < out.length
  · rw [h.new i e]
    simp only [List.getD_eq_getElem?_getD]
    rw [List.getElem?_append_left e]
  · have : i = out.length := by simp at hi; omega
    subst this
    rw [h.old _ (Or.inr (Nat.le_refl _)), hz]
    simp [List.getD_eq_getElem?_getD]

/-- A product behind i limbs of the first factor: the limbs that are done, the window that still turns, zeros. -/
def MulAt (xs ys : List Int) (i : Nat) (P : List Int) : Prop :=
  ∃ L W, P = L ++ (W ++ List.replicate (xs.length - i) 0) ∧ L.length = i ∧ W.length = ys.length ∧ AllLimbs L ∧ AllLimbs W ∧ ap L (val W) = val (xs.take i) * val ys

theorem MulAt.start (xs ys : List Int) : MulAt xs ys 0 (List.replicate (xs.length + ys.length) 0) :=
  ⟨[], List.replicate ys.length 0, by rw [List.nil_append, List.replicate_append_replicate]; congr 1; omega, rfl, by simp, fun i hi => by simp at hi, AllLimbs.zeros _, by simp [ap, val_zeros, val]⟩
theorem MulAt.length {xs ys P : List Int} {i : Nat} (h : MulAt xs ys i P) (hi : i ≤ xs.length) : P.length = xs.length + ys.length := by
  obtain ⟨L, W, rfl, h1, h2, _⟩ := h
  simp; omega
theorem MulAt.limbs {xs ys P : List Int} {i : Nat} (h : MulAt xs ys i P) : AllLimbs P := by
  obtain ⟨L, W, rfl, _, _, h3, h4, _⟩ := h
  exact h3.append (h4.append (AllLimbs.zeros _))
theorem MulAt.done {xs ys P : List Int} (h : MulAt xs ys xs.length P) : val P = val xs * val ys := by
  obtain ⟨L, W, rfl, _, _, _, _, h5⟩ := h
  rw [Nat.sub_self, List.replicate_zero, List.append_nil, val_append, h5, List.take_of_length_le (Nat.le_refl _)]

/-- The window at place i: as many limbs as the second factor has, and a 0 above them. -/
theorem MulAt.window {xs ys P : List Int} {i : Nat} (h : MulAt xs ys i P) (hi : i < xs.length) :
    ∃ W, W.length = ys.length ∧ AllLimbs (W ++ [0]) ∧ (∀ j, j < ys.length + 1 → P.getD (i + j) 0 = (W ++ [0]).getD j 0) ∧ 0 ≤ val W ∧ val W < pw ys.length ∧
      ∀ x out ds, 0 ≤ x → x ≤ 65535 → AllLimbs ys → x = xs.getD i 0 → AllLimbs out → out.length = ys.length + 1 → val out = val W + x * val ys → Upd P i out ds → MulAt xs ys (i + 1) ds := by
  obtain ⟨L, W, rfl, h1, h2, h3, h4, h5⟩ := h
  have hw := h4.val
  rw [h2] at hw
  refine ⟨W, h2, h4.snoc (by omega), fun j hj => ?_, hw.1, hw.2, ?_⟩
  · simp only [List.getD_eq_getElem?_getD]
    rw [List.getElem?_append_right (by omega), show i + j - L.length = j by omega]
    by_cases e : j < W.length
    · rw [List.getElem?_append_left e, List.getElem?_append_left e]
    · have e2 : j = W.length := by omega
      subst e2
      rw [List.getElem?_append_right (Nat.le_refl _), List.getElem?_append_right (Nat.le_refl _), Nat.sub_self]
      obtain ⟨r, hr⟩ : ∃ r, xs.length - i = r + 1 := ⟨xs.length - i - 1, by omega⟩
      rw [hr, List.replicate_succ]; rfl
  · intro x out ds hx0 hx1 hys hx ho hol hv hu
    have hlen : (L ++ (W ++ List.replicate (xs.length - i) 0)).length = xs.length + ys.length := by simp; omega
    have heq := hu.eq (by rw [hlen, hol]; omega)
    have e1 : (L ++ (W ++ List.replicate (xs.length - i) 0)).take i = L := by rw [← h1]; exact List.take_left
    have e3 : (L ++ (W ++ List.replicate (xs.length - i) (0 : Int))).drop i = W ++ List.replicate (xs.length - i) 0 := by rw [← h1]; exact List.drop_left
    have e4 : (W ++ List.replicate (xs.length - i) (0 : Int)).drop ys.length = List.replicate (xs.length - i) 0 := by rw [← h2]; exact List.drop_left
    have e2 : (L ++ (W ++ List.replicate (xs.length - i) 0)).drop (i + out.length) = List.replicate (xs.length - (i + 1)) 0 := by
      rw [← List.drop_drop, e3, hol, ← List.drop_drop, e4, List.drop_replicate]
      congr 1
    rw [e1, e2] at heq
    cases out with
    | nil => simp at hol
    | cons o O =>
      refine ⟨L ++ [o], O, by rw [heq]; simp, by simp [h1], by simpa using hol, h3.snoc ho.head, ho.tail, ?_⟩
      rw [ap_snoc, val_take_succ xs i hi, ← hx]
      have e3 : o + 65536 * val O = val W + x * val ys := by rw [← hv]; rfl
      rw [e3, ap_pw, h1, Int.mul_add, ← Int.add_assoc, Int.add_mul, ← h5, ap_pw, h1, Int.mul_assoc]

theorem mul_fits {A B x : Int} {m : Nat} (hA : 0 ≤ A ∧ A < pw m) (hB : 0 ≤ B ∧ B < pw m) (hx : 0 ≤ x ∧ x ≤ 65535) : 0 ≤ A + x * B ∧ A + x * B < pw (m + 1) := by
  have h1 : 0 ≤ x * B := Int.mul_nonneg hx.1 hB.1
  have h2 : x * B ≤ 65535 * B := Int.mul_le_mul_of_nonneg_right hx.2 hB.1
  simp only [pw]
  omega

end Go.Proofs.Ytlhiahhpmjiioaa

namespace Go.Proofs.Ytlhiahhpmjiioaa

theorem val_split (xs : List Int) (k : Nat) (hk : k ≤ xs.length) : val xs = val (xs.take k) + pw k * val (xs.drop k) := by
  have h : val (xs.take k ++ xs.drop k) = val xs := by rw [List.take_append_drop]
  rw [← h, val_append, ap_pw]
  have e : (xs.take k).length = k := by simp; omega
  rw [e]

/-- The guess of a quotient's limb by the two highest limbs of the divisor. -/
def guessV (R ys : List Int) : Int :=
  ((atP R ys.length * 65536 + atP R ((ys.length : Int) - 1)) * 65536 + atP R ((ys.length : Int) - 2)) / (atP ys ((ys.length : Int) - 1) * 65536 + atP ys ((ys.length : Int) - 2))

theorem ediv_spec {X V : Int} (hV : 0 < V) : X = V * (X / V) + X % V ∧ 0 ≤ X % V ∧ X % V < V :=
  ⟨(Int.mul_ediv_add_emod X V).symm, Int.emod_nonneg X (by omega), Int.emod_lt_of_pos X hV⟩

theorem atP_neg {xs : List Int} {p : Int} (h : p < 0) : atP xs p = 0 := if_pos h
theorem atP_of {xs : List Int} {p : Int} {k : Nat} (h : p = k) : atP xs p = xs.getD k 0 := by rw [h, atP_nat]

theorem guess_bounds {R ys : List Int} (hR : AllLimbs R) (hRl : R.length = ys.length + 1) (hy : AllLimbs ys) (hm : 0 < ys.length) (ht : ys.getD (ys.length - 1) 0 ≠ 0) (hlt : val R < 65536 * val ys) :
    val R / val ys ≤ guessV R ys ∧ guessV R ys ≤ 65537 ∧ 0 ≤ guessV R ys := by
  have htop : 1 ≤ ys.getD (ys.length - 1) 0 := by have := hy (ys.length - 1) (by omega); omega
  rcases (by omega : ys.length = 1 ∨ 2 ≤ ys.length) with h1 | h2
  · have e1 : atP ys ((ys.length : Int) - 1) = ys.getD 0 0 := atP_of (by omega)
    have e2 : atP ys ((ys.length : Int) - 2) = 0 := atP_neg (by omega)
    have e3 : atP R (ys.length : Int) = R.getD 1 0 := by rw [atP_nat, h1]
    have e4 : atP R ((ys.length : Int) - 1) = R.getD 0 0 := atP_of (by omega)
    have e5 : atP R ((ys.length : Int) - 2) = 0 := atP_neg (by omega)
    have vR : val R = R.getD 0 0 + 65536 * R.getD 1 0 := by
      have a := val_drop R 0
      have b := val_drop R 1
      have c : val (R.drop 2) = 0 := by rw [List.drop_of_length_le (by omega)]; rfl
      simp only [List.drop_zero] at a
      rw [a, b, c]; omega
    have vy : val ys = ys.getD 0 0 := by
      have a := val_drop ys 0
      have c : val (ys.drop 1) = 0 := by rw [List.drop_of_length_le (by omega)]; rfl
      simp only [List.drop_zero] at a
      rw [a, c]; omega
    rw [h1] at htop
    simp only [Nat.sub_self] at htop
    have h0 := hR 0 (by omega)
    have h01 := hR 1 (by omega)
    have g : guessV R ys = val R / val ys := by
      unfold guessV
      rw [e1, e2, e3, e4, e5, vR, vy]
      generalize R.getD 0 0 = r0 at *
      generalize R.getD 1 0 = r1 at *
      generalize ys.getD 0 0 = y0 at *
      rw [show (r1 * 65536 + r0) * 65536 + 0 = 65536 * (r0 + 65536 * r1) by omega, show y0 * 65536 + 0 = 65536 * y0 by omega]
      exact Int.mul_ediv_mul_of_pos _ _ (by omega)
    have hq : val R / val ys < 65536 := Int.ediv_lt_of_lt_mul (by omega) hlt
    have hq0 : 0 ≤ val R / val ys := Int.ediv_nonneg (by omega) (by omega)
    rw [g]; omega
  · obtain ⟨p, hp⟩ : ∃ p, ys.length = p + 2 := ⟨ys.length - 2, by omega⟩
    have e1 : atP ys ((ys.length : Int) - 1) = ys.getD (p + 1) 0 := atP_of (by omega)
    have e2 : atP ys ((ys.length : Int) - 2) = ys.getD p 0 := atP_of (by omega)
    have e3 : atP R (ys.length : Int) = R.getD (p + 2) 0 := by rw [atP_nat, hp]
    have e4 : atP R ((ys.length : Int) - 1) = R.getD (p + 1) 0 := atP_of (by omega)
    have e5 : atP R ((ys.length : Int) - 2) = R.getD p 0 := atP_of (by omega)
    have sR := val_split R p (by omega)
    have sy := val_split ys p (by omega)
    have dR : val (R.drop p) = (R.getD (p + 2) 0 * 65536 + R.getD (p + 1) 0) * 65536 + R.getD p 0 := by
      have a := val_drop R p
      have b : val (R.drop (p + 1)) = R.getD (p + 1) 0 + 65536 * val (R.drop (p + 2)) := val_drop R (p + 1)
      have b2 : val (R.drop (p + 2)) = R.getD (p + 2) 0 + 65536 * val (R.drop (p + 3)) := val_drop R (p + 2)
      have c : val (R.drop (p + 3)) = 0 := by rw [List.drop_of_length_le (by omega)]; rfl
      omega
    have dy : val (ys.drop p) = ys.getD (p + 1) 0 * 65536 + ys.getD p 0 := by
      have a := val_drop ys p
      have b : val (ys.drop (p + 1)) = ys.getD (p + 1) 0 + 65536 * val (ys.drop (p + 2)) := val_drop ys (p + 1)
      have c : val (ys.drop (p + 2)) = 0 := by rw [List.drop_of_length_le (by omega)]; rfl
      omega
    have tR := (hR.take p).val
    have ty := (hy.take p).val
    have lR : (R.take p).length = p := by simp; omega
    have ly : (ys.take p).length = p := by simp; omega
    rw [lR] at tR
    rw [ly] at ty
    have hg : guessV R ys = val (R.drop p) / val (ys.drop p) := by
      unfold guessV
      rw [e1, e2, e3, e4, e5, dR, dy]
    have y1 := hy p (by omega)
    rw [hp, show p + 2 - 1 = p + 1 by omega] at htop
    have r0 := hR p (by omega)
    have r1 := hR (p + 1) (by omega)
    have r2 := hR (p + 2) (by omega)
    have hP := pw_pos p
    rw [hg]
    generalize hH : val (R.drop p) = H at *
    generalize hD : val (ys.drop p) = D at *
    generalize hX : val R = X at *
    generalize hV : val ys = V at *
    generalize val (R.take p) = a at *
    generalize val (ys.take p) = b at *
    generalize pw p = P at *
    have hD1 : 65536 ≤ D := by omega
    have hH0 : 0 ≤ H := by omega
    have hPD : 0 ≤ P * D := Int.mul_nonneg (by omega) (by omega)
    have hPD1 : 65536 * P ≤ P * D := by
      have : P * 65536 ≤ P * D := Int.mul_le_mul_of_nonneg_left hD1 (by omega)
      omega
    have hPH : 0 ≤ P * H := Int.mul_nonneg (by omega) hH0
    have hVp : 0 < V := by omega
    obtain ⟨q1, q2, q3⟩ := ediv_spec (X := X) hVp
    have hX0 : 0 ≤ X := by omega
    have hq0 : 0 ≤ X / V := Int.ediv_nonneg hX0 (by omega)
    generalize X / V = q at *
    generalize X % V = r at *
    refine ⟨?_, ?_, Int.ediv_nonneg hH0 (by omega)⟩
    · refine (Int.le_ediv_iff_mul_le (by omega)).2 ?_
      -- q * D ≤ H
      have h1 : P * (q * D) ≤ V * q := by
        have e : V * q = P * (q * D) + b * q := by rw [sy, Int.add_mul, Int.mul_assoc, Int.mul_comm D q]; omega
        have := Int.mul_nonneg ty.1 hq0
        omega
      have h3 : P * (q * D) < P * (H + 1) := by
        rw [Int.mul_add, Int.mul_one]; omega
      have := Int.lt_of_mul_lt_mul_left h3 (by omega)
      omega
    · -- H / D ≤ 65537
      have h4 : P * H < P * (65536 * (D + 1)) := by
        have e : P * (65536 * (D + 1)) = 65536 * (P * D) + 65536 * P := by rw [Int.mul_left_comm, Int.mul_add, Int.mul_one]; omega
        omega
      have h5 := Int.lt_of_mul_lt_mul_left h4 (by omega)
      have h6 : H / D < 65538 := Int.ediv_lt_of_lt_mul (by omega) (by omega)
      omega

/-- One try: what is left under a guess, as so many limbs and a carry. -/
theorem guess_end {out : List Int} {cy X V g : Int} {n : Nat} (ho : AllLimbs out) (hl : out.length = n) (hV : 0 < V) (h : val out + pw n * cy = X - g * V) (hg : X / V ≤ g) (hg2 : g ≤ 65537) (hX : 0 ≤ X ∧ X < pw n) (hVn : 32769 * V ≤ pw n) :
    -3 ≤ cy ∧ cy ≤ 0 ∧ (cy < 0 → X / V ≤ g - 1) ∧ (¬ cy < 0 → g = X / V ∧ val out = X % V) := by
  have h1 := ho.val
  rw [hl] at h1
  have hp := pw_pos n
  generalize pw n = P at *
  obtain ⟨q1, q2, q3⟩ := ediv_spec (X := X) hV
  have hq0 : 0 ≤ X / V := Int.ediv_nonneg hX.1 (by omega)
  generalize X / V = q at *
  generalize X % V = r at *
  obtain ⟨e, he⟩ : ∃ e, g = q + e := ⟨g - q, by omega⟩
  subst he
  have hE : X - (q + e) * V = r - e * V := by rw [Int.add_mul, Int.mul_comm q V]; omega
  rw [hE] at h
  have heV : e * V ≤ 65537 * V := Int.mul_le_mul_of_nonneg_right (by omega) (by omega)
  have heV0 : 0 ≤ e * V := Int.mul_nonneg (by omega) (by omega)
  have hc3 : -3 ≤ cy := by
    rcases Int.lt_or_le cy (-3) with hc | hc
    · have : P * cy ≤ P * (-4) := Int.mul_le_mul_of_nonneg_left (by omega) (by omega)
      omega
    · exact hc
  have hc0 : cy ≤ 0 := by
    rcases Int.lt_or_le 0 cy with hc | hc
    · have : P * 1 ≤ P * cy := Int.mul_le_mul_of_nonneg_left (by omega) (by omega)
      omega
    · exact hc
  refine ⟨hc3, hc0, fun hc => ?_, fun hc => ?_⟩
  · have : P * cy ≤ P * (-1) := Int.mul_le_mul_of_nonneg_left (by omega) (by omega)
    rcases (by omega : e = 0 ∨ 1 ≤ e) with h0 | h0
    · subst h0; simp at h; omega
    · omega
  · obtain rfl : cy = 0 := by omega
    rcases (by omega : e = 0 ∨ 1 ≤ e) with h0 | h0
    · subst h0; simp at h; exact ⟨by omega, h⟩
    · have : 1 * V ≤ e * V := Int.mul_le_mul_of_nonneg_right h0 (by omega)
      simp at h; omega

end Go.Proofs.Ytlhiahhpmjiioaa

namespace Go.Proofs.Ytlhiahhpmjiioaa

theorem val_set : ∀ (Q : List Int) (i : Nat) (q : Int), i < Q.length → Q.getD i 0 = 0 → val (Q.set i q) = val Q + pw i * q
  | [], i, q, h, _ => by simp at h
  | x :: Q, 0, q, _, h => by
    have hx : x = 0 := by simpa using h
    subst hx
    simp [val, pw]; omega
  | x :: Q, i + 1, q, hi, h => by
    have := val_set Q i q (by simpa using hi) (by simpa using h)
    simp only [List.set_cons_succ, val, pw, this]
    rw [Int.mul_add, Int.mul_assoc]; omega
theorem AllLimbs.set {Q : List Int} (h : AllLimbs Q) (i : Nat) {q : Int} (hq : 0 ≤ q ∧ q ≤ 65535) : AllLimbs (Q.set i q) := fun j hj => by
  rw [List.length_set] at hj
  have := h j hj
  simp only [List.getD_eq_getElem?_getD, List.getElem?_set] at this ⊢
  by_cases e : i = j
  · subst e; simp [hj]; exact hq
  · rw [if_neg e]; exact this
theorem pw_le_val {ys : List Int} (hy : AllLimbs ys) (hm : 0 < ys.length) (ht : ys.getD (ys.length - 1) 0 ≠ 0) : pw (ys.length - 1) ≤ val ys := by
  have h := val_split ys (ys.length - 1) (by omega)
  have d := val_drop ys (ys.length - 1)
  have z : val (ys.drop (ys.length - 1 + 1)) = 0 := by rw [List.drop_of_length_le (by omega)]; rfl
  have t := hy (ys.length - 1) (by omega)
  have tk := (hy.take (ys.length - 1)).val.1
  rw [z] at d
  have hd : 1 ≤ val (ys.drop (ys.length - 1)) := by omega
  have hp := pw_pos (ys.length - 1)
  have : pw (ys.length - 1) * 1 ≤ pw (ys.length - 1) * val (ys.drop (ys.length - 1)) := Int.mul_le_mul_of_nonneg_left hd (by omega)
  omega

/-- A long division with k steps to go: what is left, and the quotient so far. -/
def DivAt (xs ys : List Int) (ql k : Nat) (R Q : List Int) : Prop :=
  ∃ L V, R = L ++ (V ++ List.replicate (xs.length + 1 - k - ys.length) 0) ∧ L.length = k ∧ V.length = ys.length ∧ AllLimbs L ∧ AllLimbs V ∧ val V < val ys ∧ AllLimbs Q ∧ Q.length = ql ∧
    (∀ j, j < k → Q.getD j 0 = 0) ∧ ap L (val V) + val ys * val Q = val xs

theorem DivAt.start {xs ys : List Int} (ql : Nat) (hx : AllLimbs xs) (hy : AllLimbs ys) (hm : 0 < ys.length) (ht : ys.getD (ys.length - 1) 0 ≠ 0) (hn : ys.length ≤ xs.length) :
    DivAt xs ys ql (xs.length - ys.length + 1) (xs ++ List.replicate (xs.length + 1 - xs.length) 0) (List.replicate ql 0) := by
  have e1 : xs.length + 1 - xs.length = 1 := by omega
  have e2 : xs.length + 1 - (xs.length - ys.length + 1) - ys.length = 0 := by omega
  refine ⟨xs.take (xs.length - ys.length + 1), xs.drop (xs.length - ys.length + 1) ++ [0], ?_, by simp; omega, by simp; omega, hx.take _, (hx.drop _).snoc (by omega), ?_, AllLimbs.zeros _, by simp, fun j hj => ?_, ?_⟩
  · rw [e1, e2, List.replicate_zero, List.append_nil, ← List.append_assoc, List.take_append_drop]; rfl
  · rw [show xs.drop (xs.length - ys.length + 1) ++ [0] = xs.drop (xs.length - ys.length + 1) ++ List.replicate 1 0 from rfl, val_append, ap_pw, val_zeros]
    have h1 := (hx.drop (xs.length - ys.length + 1)).val
    rw [List.length_drop, show xs.length - (xs.length - ys.length + 1) = ys.length - 1 by omega] at h1
    have h2 := pw_le_val hy hm ht
    simp; omega
  · by_cases e : j < ql
    · simp [List.getD_eq_getElem?_getD, e]
    · rw [List.getD_eq_getElem?_getD, List.getElem?_eq_none (by simp; omega)]; rfl
  · rw [val_zeros, Int.mul_zero, Int.add_zero, ← val_append, ← List.append_assoc, List.take_append_drop, show xs ++ [0] = xs ++ List.replicate 1 0 from rfl, val_append, ap_pw, val_zeros]
    simp
theorem DivAt.length {xs ys R Q : List Int} {ql k : Nat} (h : DivAt xs ys ql k R Q) (hk : k + ys.length ≤ xs.length + 1) : R.length = xs.length + 1 := by
  obtain ⟨L, V, rfl, h1, h2, _⟩ := h
  simp; omega
theorem DivAt.limbs {xs ys R Q : List Int} {ql k : Nat} (h : DivAt xs ys ql k R Q) : AllLimbs R ∧ AllLimbs Q ∧ Q.length = ql := by
  obtain ⟨L, V, rfl, _, _, h3, h4, _, h6, h7, _⟩ := h
  exact ⟨h3.append (h4.append (AllLimbs.zeros _)), h6, h7⟩
theorem DivAt.done {xs ys R Q : List Int} {ql : Nat} (h : DivAt xs ys ql 0 R Q) : val Q = val xs / val ys ∧ val R = val xs % val ys := by
  obtain ⟨L, V, rfl, h1, h2, h3, h4, h5, h6, h7, h8, h9⟩ := h
  have hL : L = [] := List.eq_nil_of_length_eq_zero h1
  subst hL
  simp only [ap] at h9
  have hv := h4.val.1
  have hr : val ([] ++ (V ++ List.replicate (xs.length + 1 - 0 - ys.length) 0)) = val V := by rw [List.nil_append, val_append, ap_pw, val_zeros]; simp
  rw [hr]
  have := (Int.ediv_emod_unique (a := val xs) (b := val ys) (r := val V) (q := val Q) (by omega)).2 ⟨h9, hv, h5⟩
  exact ⟨this.1.symm, this.2.symm⟩

theorem DivAt.window {xs ys R Q : List Int} {ql i : Nat} (h : DivAt xs ys ql (i + 1) R Q) (hi : i + 1 + ys.length ≤ xs.length + 1) (hql : i < ql) (hV0 : 0 < val ys) :
    ∃ ss, ss.length = ys.length + 1 ∧ AllLimbs ss ∧ (∀ j, j < ys.length + 1 → R.getD (i + j) 0 = ss.getD j 0) ∧ val ss < 65536 * val ys ∧
      ∀ out ds, AllLimbs ys → AllLimbs out → out.length = ys.length + 1 → val out = val ss % val ys → Upd R i out ds → DivAt xs ys ql i ds (Q.set i (val ss / val ys)) := by
  obtain ⟨L, V, rfl, h1, h2, h3, h4, h5, h6, h7, h8, h9⟩ := h
  obtain ⟨L', l, rfl⟩ : ∃ L' l, L = L' ++ [l] := by
    rcases List.eq_nil_or_concat L with e | ⟨a, b, e⟩
    · subst e; simp at h1
    · exact ⟨a, b, by simpa using e⟩
  have hL' : L'.length = i := by simpa using h1
  have hLL : AllLimbs L' := by
    intro j hj
    have := h3 j (by simp; omega)
    simp only [List.getD_eq_getElem?_getD, List.getElem?_append_left hj] at this ⊢; exact this
  have hl : 0 ≤ l ∧ l ≤ 65535 := by
    have := h3 i (by simp; omega)
    simpa [List.getD_eq_getElem?_getD, ← hL'] using this
  have hv := h4.val
  have hs : AllLimbs (l :: V) := fun j hj => by
    cases j with
    | zero => simpa using hl
    | succ j => have := h4 j (by simpa using hj); simpa using this
  have hvs : val (l :: V) = l + 65536 * val V := rfl
  refine ⟨l :: V, by simp [h2], hs, fun j hj => ?_, by rw [hvs]; omega, ?_⟩
  · simp only [List.getD_eq_getElem?_getD, List.append_assoc]
    rw [List.getElem?_append_right (by omega), show i + j - L'.length = j by omega, List.singleton_append, ← List.cons_append]
    rw [List.getElem?_append_left (by simp; omega)]
  · intro out ds hy ho hol hvo hu
    have hlen : (L' ++ [l] ++ (V ++ List.replicate (xs.length + 1 - (i + 1) - ys.length) (0 : Int))).length = xs.length + 1 := by simp; omega
    have heq := hu.eq (by rw [hlen, hol]; omega)
    have e1 : (L' ++ [l] ++ (V ++ List.replicate (xs.length + 1 - (i + 1) - ys.length) (0 : Int))).take i = L' := by
      rw [List.append_assoc, ← hL']; exact List.take_left
    have e2 : (L' ++ [l] ++ (V ++ List.replicate (xs.length + 1 - (i + 1) - ys.length) (0 : Int))).drop (i + out.length) = List.replicate (xs.length + 1 - (i + 1) - ys.length) 0 := by
      rw [hol, ← h2, show L' ++ [l] ++ (V ++ List.replicate (xs.length + 1 - (i + 1) - V.length) (0 : Int)) = (L' ++ [l] ++ V) ++ List.replicate (xs.length + 1 - (i + 1) - V.length) 0 by simp]
      have e : i + (V.length + 1) = (L' ++ [l] ++ V).length := by simp; omega
      rw [e]; exact List.drop_left
    rw [e1, e2] at heq
    -- the limb at the top of what is left is 0
    have hm := ediv_spec (X := val (l :: V)) hV0
    have hmp : 0 < ys.length := by
      rcases (by omega : ys.length = 0 ∨ 0 < ys.length) with e | e
      · rw [List.eq_nil_of_length_eq_zero e] at hV0; simp [val] at hV0
      · exact e
    have hyv := hy.val
    have sp := val_split out ys.length (by omega)
    have dp := val_drop out ys.length
    have zp : val (out.drop (ys.length + 1)) = 0 := by rw [List.drop_of_length_le (by omega)]; rfl
    have tk := (ho.take ys.length).val
    have tp := ho ys.length (by omega)
    have hp := pw_pos ys.length
    have ltk : (out.take ys.length).length = ys.length := by simp; omega
    rw [zp] at dp
    have htop : out.getD ys.length 0 = 0 := by
      rcases (by omega : out.getD ys.length 0 = 0 ∨ 1 ≤ out.getD ys.length 0) with h0 | h0
      · exact h0
      · have : pw ys.length * 1 ≤ pw ys.length * val (out.drop ys.length) := Int.mul_le_mul_of_nonneg_left (by omega) (by omega)
        omega
    have hov : val (out.take ys.length) = val out := by
      rw [htop] at dp
      rw [sp, dp]; simp
    have hout : out = out.take ys.length ++ [0] := by
      have h0 : out.drop ys.length = [0] := by
        rw [List.drop_eq_getElem_cons (by omega), List.drop_of_length_le (by omega)]
        congr 1
        have := htop
        simpa [List.getD_eq_getElem?_getD, show ys.length < out.length by omega] using this
      rw [← h0, List.take_append_drop]
    have hqb : 0 ≤ val (l :: V) / val ys ∧ val (l :: V) / val ys ≤ 65535 := by
      have : val (l :: V) / val ys < 65536 := Int.ediv_lt_of_lt_mul hV0 (by rw [hvs]; omega)
      have := Int.ediv_nonneg (a := val (l :: V)) (b := val ys) (by rw [hvs]; omega) (by omega)
      omega
    refine ⟨L', out.take ys.length, ?_, hL', ltk, hLL, ho.take _, by rw [hov, hvo]; exact hm.2.2, h6.set i hqb, by rw [List.length_set]; exact h7, fun j hj => ?_, ?_⟩
    · rw [heq]
      conv => lhs; rw [hout]
      have hlz : xs.length + 1 - i - ys.length = (xs.length + 1 - (i + 1) - ys.length) + 1 := by clear heq hu hlen hout hL' h1; omega
      rw [hlz, List.replicate_succ]
      simp
    · have := h8 j (by omega)
      simp only [List.getD_eq_getElem?_getD, List.getElem?_set] at this ⊢
      rw [if_neg (by omega)]; exact this
    · rw [val_set Q i _ (by rw [h7]; omega) (h8 i (by omega)), hov, hvo, ap_pw, hL']
      rw [ap_snoc, ap_pw, hL', ← hvs] at h9
      have e : pw i * val (l :: V) = pw i * (val (l :: V) % val ys) + val ys * (pw i * (val (l :: V) / val ys)) := by
        conv => lhs; rw [hm.1]
        rw [Int.mul_add, Int.mul_left_comm (pw i) (val ys)]; omega
      rw [Int.mul_add]; omega

theorem guess_ge {X V H D a b P : Int} (hX : X = a + P * H) (hV : V = b + P * D) (hP : 1 ≤ P) (ha : 0 ≤ a ∧ a < P) (hb : 0 ≤ b) (hD : 1 ≤ D) (hH : 0 ≤ H) : X / V ≤ H / D := by
  have hPD : P * 1 ≤ P * D := Int.mul_le_mul_of_nonneg_left hD (by omega)
  have hPH : 0 ≤ P * H := Int.mul_nonneg (by omega) hH
  have hVp : 0 < V := by omega
  obtain ⟨q1, q2, q3⟩ := ediv_spec (X := X) hVp
  have hq0 : 0 ≤ X / V := Int.ediv_nonneg (by omega) (by omega)
  generalize X / V = q at *
  generalize X % V = r at *
  refine (Int.le_ediv_iff_mul_le (by omega)).2 ?_
  have h1 : P * (q * D) ≤ V * q := by
    have e : V * q = P * (q * D) + b * q := by rw [hV, Int.add_mul, Int.mul_assoc, Int.mul_comm D q]; omega
    have := Int.mul_nonneg hb hq0
    omega
  have h3 : P * (q * D) < P * (H + 1) := by rw [Int.mul_add, Int.mul_one]; omega
  have := Int.lt_of_mul_lt_mul_left h3 (by omega)
  omega

/-- The guess of a quotient's limb by the highest limb of the divisor alone. -/
def guess1 (R ys : List Int) : Int := (R.getD ys.length 0 * 65536 + R.getD (ys.length - 1) 0) / ys.getD (ys.length - 1) 0
theorem guess1_ge {R ys : List Int} (hR : AllLimbs R) (hRl : R.length = ys.length + 1) (hy : AllLimbs ys) (hm : 0 < ys.length) (ht : ys.getD (ys.length - 1) 0 ≠ 0) : val R / val ys ≤ guess1 R ys ∧ 0 ≤ guess1 R ys ∧ guess1 R ys ≤ 4294967295 := by
  obtain ⟨p, hp⟩ : ∃ p, ys.length = p + 1 := ⟨ys.length - 1, by omega⟩
  have sR := val_split R p (by omega)
  have sy := val_split ys p (by omega)
  have dR : val (R.drop p) = R.getD (p + 1) 0 * 65536 + R.getD p 0 := by
    have a := val_drop R p
    have b : val (R.drop (p + 1)) = R.getD (p + 1) 0 + 65536 * val (R.drop (p + 2)) := val_drop R (p + 1)
    have c : val (R.drop (p + 2)) = 0 := by rw [List.drop_of_length_le (by omega)]; rfl
    omega
  have dy : val (ys.drop p) = ys.getD p 0 := by
    have a := val_drop ys p
    have c : val (ys.drop (p + 1)) = 0 := by rw [List.drop_of_length_le (by omega)]; rfl
    omega
  have tR := (hR.take p).val
  have ty := (hy.take p).val
  have lR : (R.take p).length = p := by simp; omega
  rw [lR] at tR
  have y1 := hy p (by omega)
  rw [hp, show p + 1 - 1 = p by omega] at ht
  have r0 := hR p (by omega)
  have r1 := hR (p + 1) (by omega)
  have hg : guess1 R ys = (R.getD (p + 1) 0 * 65536 + R.getD p 0) / ys.getD p 0 := by
    unfold guess1
    rw [hp, show p + 1 - 1 = p by omega]
  rw [hg]
  refine ⟨?_, Int.ediv_nonneg (by omega) (by omega), ?_⟩
  · rw [← dR, ← dy]
    exact guess_ge sR sy (pw_pos p) tR ty.1 (by omega) (by omega)
  · have := Int.ediv_le_self (b := ys.getD p 0) (show 0 ≤ R.getD (p + 1) 0 * 65536 + R.getD p 0 by omega)
    omega

/-- A long division by one limb: what is left over at place k, and the quotient from there on. -/
def ShortAt (xs : List Int) (d : Int) (k : Nat) (Q : List Int) : Prop :=
  Q.length = xs.length ∧ AllLimbs Q ∧ val (Q.drop k) = val (xs.drop k) / d
theorem ShortAt.start (xs : List Int) (d : Int) : ShortAt xs d xs.length (List.replicate xs.length 0) :=
  ⟨by simp, AllLimbs.zeros _, by rw [List.drop_of_length_le (by simp), List.drop_of_length_le (Nat.le_refl _)]; simp [val]⟩
theorem ShortAt.step {xs Q : List Int} {d : Int} {k : Nat} (h : ShortAt xs d (k + 1) Q) (hx : AllLimbs xs) (hd : 1 ≤ d ∧ d ≤ 65536) (hk : k < xs.length) :
    ShortAt xs d k (Q.set k ((val (xs.drop (k + 1)) % d * 65536 + xs.getD k 0) / d)) ∧ val (xs.drop k) % d = (val (xs.drop (k + 1)) % d * 65536 + xs.getD k 0) % d ∧
      0 ≤ (val (xs.drop (k + 1)) % d * 65536 + xs.getD k 0) / d ∧ (val (xs.drop (k + 1)) % d * 65536 + xs.getD k 0) / d ≤ 65535 := by
  obtain ⟨h1, h2, h3⟩ := h
  have hs := val_drop xs k
  have hx0 := hx k hk
  obtain ⟨q1, q2, q3⟩ := ediv_spec (X := val (xs.drop (k + 1))) (V := d) (by omega)
  have hdr : (Q.set k ((val (xs.drop (k + 1)) % d * 65536 + xs.getD k 0) / d)).drop (k + 1) = Q.drop (k + 1) := List.drop_set_of_lt (by omega)
  have hv := val_drop (Q.set k ((val (xs.drop (k + 1)) % d * 65536 + xs.getD k 0) / d)) k
  rw [hdr] at hv
  have hg : (Q.set k ((val (xs.drop (k + 1)) % d * 65536 + xs.getD k 0) / d)).getD k 0 = (val (xs.drop (k + 1)) % d * 65536 + xs.getD k 0) / d := by
    simp [List.getD_eq_getElem?_getD, show k < Q.length by omega]
  rw [hg, h3] at hv
  generalize hr : val (xs.drop (k + 1)) % d = r at *
  generalize hq : val (xs.drop (k + 1)) / d = q at *
  generalize hX : val (xs.drop (k + 1)) = X at *
  generalize hxk : xs.getD k 0 = x at *
  have hb1 : 0 ≤ (r * 65536 + x) / d := Int.ediv_nonneg (by omega) (by omega)
  have hb2 : (r * 65536 + x) / d < 65536 := Int.ediv_lt_of_lt_mul (by omega) (by omega)
  have e : val (xs.drop k) = (r * 65536 + x) + d * (65536 * q) := by
    rw [hs, q1, Int.mul_left_comm]; omega
  refine ⟨⟨by rw [List.length_set]; exact h1, h2.set k (by omega), ?_⟩, ?_, hb1, by omega⟩
  · rw [hv, e, Int.add_mul_ediv_left _ _ (by omega : d ≠ 0)]
  · rw [e, Int.add_mul_emod_self_left]

end Go.Proofs.Ytlhiahhpmjiioaa

namespace Go.Proofs.Ytlhiahhpmjiioaa

/-- The decimal digits of a number as bytes, the lowest first. -/
def decF : Nat → Int → List Int
  | 0, _ => []
  | f + 1, n => if n ≤ 0 then [] else (48 + n % 10) :: decF f (n / 10)
def dec (n : Int) : List Int := decF n.toNat n
theorem decF_zero (f : Nat) (n : Int) (h : n ≤ 0) : decF f n = [] := by
  cases f with
  | zero => rfl
  | succ f => simp only [decF]; rw [if_pos h]
theorem decF_fuel : ∀ (f g : Nat) (n : Int), n.toNat ≤ f → n.toNat ≤ g → decF f n = decF g n
  | 0, g, n, hf, _ => by rw [decF_zero g n (by omega)]; rfl
  | f + 1, 0, n, _, hg => by rw [decF_zero (f + 1) n (by omega)]; rfl
  | f + 1, g + 1, n, hf, hg => by
    simp only [decF]
    by_cases h : n ≤ 0
    · rw [if_pos h, if_pos h]
    · rw [if_neg h, if_neg h, decF_fuel f g (n / 10) (by omega) (by omega)]
theorem dec_zero {n : Int} (h : n ≤ 0) : dec n = [] := decF_zero _ n h
theorem dec_pos {n : Int} (h : 0 < n) : dec n = (48 + n % 10) :: dec (n / 10) := by
  unfold dec
  obtain ⟨f, hf⟩ : ∃ f, n.toNat = f + 1 := ⟨n.toNat - 1, by omega⟩
  rw [hf]
  simp only [decF]
  rw [if_neg (by omega), decF_fuel f (n / 10).toNat (n / 10) (by omega) (by omega)]

/-- Two to the power of b. -/
def p2 : Nat → Int
  | 0 => 1
  | b + 1 => 2 * p2 b
theorem dec_len2 : ∀ (b : Nat) (n : Int), n < p2 b → (dec n).length ≤ b
  | 0, n, h => by simp only [p2] at h; rw [dec_zero (by omega)]; simp
  | b + 1, n, h => by
    by_cases hn : 0 < n
    · rw [dec_pos hn]
      simp only [p2] at h
      have := dec_len2 b (n / 10) (by omega)
      simp only [List.length_cons]; omega
    · rw [dec_zero (by omega)]; simp
theorem pw_p2 : ∀ k, pw k = p2 (16 * k)
  | 0 => rfl
  | k + 1 => by
    have := pw_p2 k
    rw [show 16 * (k + 1) = 16 * k + 16 by omega]
    simp only [pw, p2]
    omega
theorem dec_len {n : Int} {k : Nat} (h : n < pw k) : (dec n).length ≤ 16 * k := dec_len2 (16 * k) n (by rw [← pw_p2]; exact h)

/-- The decimal text of a number, as bytes. -/
def decText (n : Int) : List Int := if n = 0 then [48] else (dec n).reverse

end Go.Proofs.Ytlhiahhpmjiioaa

namespace Go.Proofs.Ytlhiahhpmjiioaa

/-- So far from 0, and below it if neg. -/
def sg (neg : Bool) (v : Int) : Int := if neg = true then -v else v
theorem sg_true (v : Int) : sg true v = -v := rfl
theorem sg_false (v : Int) : sg false v = v := rfl
/-- The number of a big. -/
def sv (neg : Bool) (xs : List Int) : Int := sg neg (val xs)
def isNeg (z : Int) : Bool := decide (z < 0)
def mag (z : Int) : List Int := digits (if z < 0 then -z else z)
theorem isNeg_yes {z : Int} (h : z < 0) : isNeg z = true := decide_eq_true h
theorem isNeg_no {z : Int} (h : 0 ≤ z) : isNeg z = false := decide_eq_false (by omega)
theorem mag_yes {z : Int} (h : z < 0) : mag z = digits (-z) := by unfold mag; rw [if_pos h]
theorem mag_no {z : Int} (h : 0 ≤ z) : mag z = digits z := by unfold mag; rw [if_neg (by omega)]
theorem mag_zero : mag 0 = [] := by rw [mag_no (by omega), digits_zero (by omega)]
theorem digits_len_pos {v : Int} (h : 0 < v) : 0 < (digits v).length := by rw [digits_pos h]; simp
theorem isNeg_sg {neg : Bool} {v : Int} (h : 0 ≤ v) : isNeg (sg neg v) = (neg && decide (0 < (digits v).length)) := by
  cases neg with
  | false => rw [sg_false, isNeg_no h]; rfl
  | true =>
    rw [sg_true]
    by_cases e : v = 0
    · subst e; rw [digits_zero (by omega)]; rfl
    · rw [isNeg_yes (by omega), decide_eq_true (digits_len_pos (by omega))]; rfl
theorem mag_sg {neg : Bool} {v : Int} (h : 0 ≤ v) : mag (sg neg v) = digits v := by
  cases neg with
  | false => rw [sg_false, mag_no h]
  | true =>
    rw [sg_true]
    by_cases e : v = 0
    · subst e; exact mag_zero
    · rw [mag_yes (by omega), Int.neg_neg]
theorem mag_canon (z : Int) : Canon (mag z) := canon_digits' _
theorem val_mag_nonneg (z : Int) : 0 ≤ val (mag z) := (canon_nonneg (mag_canon z)).1
theorem val_mag (z : Int) : val (mag z) = if z < 0 then -z else z := by
  unfold mag; exact val_digits' (by split <;> omega)
theorem sv_mag (z : Int) : sv (isNeg z) (mag z) = z := by
  unfold sv
  rw [val_mag]
  by_cases h : z < 0
  · rw [isNeg_yes h, sg_true, if_pos h, Int.neg_neg]
  · rw [isNeg_no (by omega), sg_false, if_neg h]
theorem val_zero_nil {xs : List Int} (h : Canon xs) (hz : val xs = 0) : xs = [] := by
  by_cases e : xs = []
  · exact e
  · have := (canon_nonneg h).2 e; omega

/-- The code that BigFault tells. -/
def bigFault (neg : Bool) (xs : List Int) : Int := if natFault xs = 0 then (if neg = true ∧ xs.length = 0 then 1 else 0) else natFault xs
theorem bigFault_nat {neg : Bool} {xs : List Int} (h : natFault xs ≠ 0) : bigFault neg xs = natFault xs := if_neg h
theorem bigFault_form {xs : List Int} (h : natFault xs = 0) (hl : xs.length = 0) : bigFault true xs = 1 := by unfold bigFault; rw [if_pos h, if_pos ⟨rfl, hl⟩]
theorem bigFault_ok {neg : Bool} {xs : List Int} (h : natFault xs = 0) (hl : neg = true → xs.length ≠ 0) : bigFault neg xs = 0 := by
  unfold bigFault; rw [if_pos h, if_neg (fun hn => hl hn.1 hn.2)]
/-- A big without a fault. -/
structure BigOk (neg : Bool) (xs : List Int) : Prop where
  nat : natFault xs = 0
  sign : neg = true → xs.length ≠ 0
theorem bigFault_zero {neg : Bool} {xs : List Int} (h : bigFault neg xs = 0) : BigOk neg xs := by
  unfold bigFault at h
  by_cases h1 : natFault xs = 0
  · rw [if_pos h1] at h
    by_cases h2 : neg = true ∧ xs.length = 0
    · rw [if_pos h2] at h; omega
    · exact ⟨h1, fun hn hl => h2 ⟨hn, hl⟩⟩
  · rw [if_neg h1] at h; exact absurd h h1
theorem BigOk.fault {neg : Bool} {xs : List Int} (h : BigOk neg xs) : bigFault neg xs = 0 := bigFault_ok h.nat h.sign
theorem BigOk.n40 {neg : Bool} {xs : List Int} (h : BigOk neg xs) : Nat40 xs := natFault_zero h.nat
theorem BigOk.isNeg {neg : Bool} {xs : List Int} (h : BigOk neg xs) : isNeg (sv neg xs) = neg := by
  have hc := h.n40.canon
  have h0 := (canon_nonneg hc).1
  unfold sv
  rw [isNeg_sg h0, digits_val hc]
  cases neg with
  | false => rfl
  | true => have := h.sign rfl; rw [decide_eq_true (by omega)]; rfl
theorem BigOk.mag {neg : Bool} {xs : List Int} (h : BigOk neg xs) : mag (sv neg xs) = xs := by
  have hc := h.n40.canon
  unfold sv
  rw [mag_sg (canon_nonneg hc).1, digits_val hc]
theorem nat40_fault {xs : List Int} (h : Nat40 xs) : natFault xs = 0 := natFault_ok (by have := h.len; omega) h.limb h.top
theorem bigOk_of {z : Int} (h : (mag z).length ≤ 40) : BigOk (isNeg z) (mag z) := by
  refine ⟨nat40_fault (nat40_of_canon (mag_canon z) h), fun hn hl => ?_⟩
  have hz : z < 0 := of_decide_eq_true hn
  rw [mag_yes hz] at hl
  have := digits_len_pos (v := -z) (by omega)
  omega
/-- Two bigs: the first fault that is told. -/
def bigFault2 (na : Bool) (xs : List Int) (nb : Bool) (ys : List Int) : Int := if bigFault na xs = 0 then bigFault nb ys else bigFault na xs
theorem bigFault2_zero {na nb : Bool} {xs ys : List Int} (h : bigFault2 na xs nb ys = 0) : BigOk na xs ∧ BigOk nb ys := by
  unfold bigFault2 at h
  by_cases h1 : bigFault na xs = 0
  · rw [if_pos h1] at h; exact ⟨bigFault_zero h1, bigFault_zero h⟩
  · rw [if_neg h1] at h; exact absurd h h1

/-- An answer: a code, a sign and limbs. -/
structure BV where
  code : Int
  neg : Bool
  limbs : List Int
def noBig (code : Int) : BV := ⟨code, false, []⟩
/-- The number, if it has at most 40 limbs. -/
def fitB (z : Int) : BV := if 40 < (mag z).length then noBig 7 else ⟨0, isNeg z, mag z⟩
theorem fitB_len (z : Int) : (fitB z).limbs.length ≤ 40 := by
  unfold fitB
  by_cases h : 40 < (mag z).length
  · rw [if_pos h]; exact Nat.zero_le _
  · rw [if_neg h]; show (mag z).length ≤ 40; omega
def twoB (f : Int) (r : BV) : BV := if f = 0 then r else noBig f
theorem twoB_zero {f : Int} {r : BV} (h : f = 0) : twoB f r = r := if_pos h
theorem twoB_not {f : Int} {r : BV} (h : f ≠ 0) : twoB f r = noBig f := if_neg h
theorem twoB_len {f : Int} {r : BV} (h : r.limbs.length ≤ 40) : (twoB f r).limbs.length ≤ 40 := by
  unfold twoB; split
  · exact h
  · exact Nat.zero_le _
def addB (na : Bool) (xs : List Int) (nb : Bool) (ys : List Int) : BV := twoB (bigFault2 na xs nb ys) (fitB (sv na xs + sv nb ys))
def subB (na : Bool) (xs : List Int) (nb : Bool) (ys : List Int) : BV := twoB (bigFault2 na xs nb ys) (fitB (sv na xs - sv nb ys))
def mulB (na : Bool) (xs : List Int) (nb : Bool) (ys : List Int) : BV := twoB (bigFault2 na xs nb ys) (fitB (sv na xs * sv nb ys))
/-- A quotient, rounded down or up, by the signs and the sizes. -/
def divZ (up na nb : Bool) (X Y : Int) : Int := sg (na != nb) (if X % Y ≠ 0 ∧ (na != nb) ≠ up then X / Y + 1 else X / Y)
def divB (up na : Bool) (xs : List Int) (nb : Bool) (ys : List Int) : BV :=
  twoB (bigFault2 na xs nb ys) (if ys.length = 0 then noBig 6 else fitB (divZ up na nb (val xs) (val ys)))
theorem divB_len (up na : Bool) (xs : List Int) (nb : Bool) (ys : List Int) : (divB up na xs nb ys).limbs.length ≤ 40 := by
  refine twoB_len ?_
  split
  · exact Nat.zero_le _
  · exact fitB_len _
def cmpB (na : Bool) (xs : List Int) (nb : Bool) (ys : List Int) : Int := if bigFault2 na xs nb ys = 0 then cmpV (sv na xs) (sv nb ys) else 0

theorem sg_mul (na nb : Bool) (x y : Int) : sg na x * sg nb y = sg (na != nb) (x * y) := by
  cases na <;> cases nb <;> simp [sg, Int.neg_mul, Int.mul_neg]

/-- The greatest number whose square is not above v, up to f. -/
def isqF : Nat → Int → Int
  | 0, _ => 0
  | f + 1, v => if ((f : Int) + 1) * ((f : Int) + 1) ≤ v then (f : Int) + 1 else isqF f v
def isq (v : Int) : Int := isqF v.toNat v
structure IsRoot (v r : Int) : Prop where
  pos : 0 ≤ r
  low : r * r ≤ v
  high : v < (r + 1) * (r + 1)
theorem isqF_root : ∀ (f : Nat) (v : Int), 0 ≤ v → v < ((f : Int) + 1) * ((f : Int) + 1) → IsRoot v (isqF f v)
  | 0, v, h, hf => ⟨by simp [isqF], by simp [isqF]; exact h, by simp at hf; simp [isqF]; exact hf⟩
  | f + 1, v, h, hf => by
    simp only [isqF]
    by_cases hc : ((f : Int) + 1) * ((f : Int) + 1) ≤ v
    · rw [if_pos hc]; exact ⟨by omega, hc, by simpa using hf⟩
    · rw [if_neg hc]; exact isqF_root f v h (by omega)
theorem sq_ge (v : Int) (h : 0 ≤ v) : v < (v + 1) * (v + 1) := by
  have h1 : (v + 1) * 1 ≤ (v + 1) * (v + 1) := Int.mul_le_mul_of_nonneg_left (by omega) (by omega)
  omega
theorem isq_root {v : Int} (h : 0 ≤ v) : IsRoot v (isq v) := by
  refine isqF_root _ _ h ?_
  rw [Int.toNat_of_nonneg h]; exact sq_ge v h
theorem sq_mono {a b : Int} (ha : 0 ≤ a) (h : a ≤ b) : a * a ≤ b * b := Int.mul_le_mul h h ha (by omega)
theorem root_lt {v r x : Int} (h : IsRoot v r) (hx : 0 ≤ x) (hv : v < x * x) : r < x := by
  have hp := h.pos
  have hl := h.low
  rcases Int.lt_or_le r x with h1 | h1
  · exact h1
  · have := sq_mono hx h1; omega
theorem root_ge {v r x : Int} (h : IsRoot v r) (hv : x * x ≤ v) : x ≤ r := by
  have hp := h.pos
  have hh := h.high
  rcases Int.lt_or_le r x with h1 | h1
  · have := sq_mono (a := r + 1) (b := x) (by omega) (by omega); omega
  · exact h1
theorem root_unique {v r s : Int} (h : IsRoot v r) (k : IsRoot v s) : r = s := by
  have h1 := root_ge h k.low
  have h2 := root_ge k h.low
  omega
/-- A step of Newton's is never below the root. -/
theorem newton_ge {v r x : Int} (h : IsRoot v r) (hx : 0 < x) : r ≤ (x + v / x) / 2 := by
  have h1 : 2 * r - x ≤ v / x := by
    rw [Int.le_ediv_iff_mul_le hx]
    have e1 : (2 * r - x) * x = 2 * (r * x) - x * x := by rw [Int.sub_mul, Int.mul_assoc]
    have e2 : (r - x) * (r - x) = r * r - 2 * (r * x) + x * x := by
      rw [Int.sub_mul, Int.mul_sub, Int.mul_sub, Int.mul_comm x r]; omega
    have e3 : 0 ≤ (r - x) * (r - x) := by
      rcases Int.lt_or_le r x with h2 | h2
      · exact Int.mul_nonneg_of_nonpos_of_nonpos (by omega) (by omega)
      · exact Int.mul_nonneg (by omega) (by omega)
    have := h.low
    omega
  omega
/-- Where a step falls no more, the root is there. -/
theorem newton_stop {v r x : Int} (h : IsRoot v r) (hx : 0 < x) (hr : r ≤ x) (hs : x ≤ (x + v / x) / 2) : x = r := by
  have h1 : x ≤ v / x := by omega
  rw [Int.le_ediv_iff_mul_le hx] at h1
  have := root_ge h h1
  omega
theorem root_pos {v r : Int} (h : IsRoot v r) (hv : 0 < v) : 0 < r := by
  have h1 := h.pos
  have h2 := h.high
  rcases (by omega : r = 0 ∨ 0 < r) with e | e
  · subst e; simp at h2; omega
  · exact e

theorem p2_pos : ∀ k, 1 ≤ p2 k
  | 0 => by simp [p2]
  | k + 1 => by have := p2_pos k; simp only [p2]; omega
theorem p2_add : ∀ (i j : Nat), p2 (i + j) = p2 i * p2 j
  | 0, j => by simp [p2]
  | i + 1, j => by rw [show i + 1 + j = (i + j) + 1 by omega]; simp only [p2]; rw [p2_add i j, Int.mul_assoc]
theorem p2_mono : ∀ (i j : Nat), i ≤ j → p2 i ≤ p2 j
  | 0, j, _ => by have := p2_pos j; simp only [p2]; omega
  | i + 1, 0, h => by omega
  | i + 1, j + 1, h => by have := p2_mono i j (by omega); simp only [p2]; omega
theorem pw_add : ∀ (i j : Nat), pw (i + j) = pw i * pw j
  | 0, j => by simp [pw]
  | i + 1, j => by rw [show i + 1 + j = (i + j) + 1 by omega]; simp only [pw]; rw [pw_add i j, Int.mul_assoc]

/-- So many limbs hold at most so great a number. -/
theorem digits_lt {v : Int} (h : 0 ≤ v) : v < pw (digits v).length := by
  have := (canon_limbs (canon_digits' v)).val.2
  rwa [val_digits' h] at this
theorem digits_len_mono {u v : Int} (h : u ≤ v) : (digits u).length ≤ (digits v).length := by
  by_cases hu : 0 ≤ u
  · refine digits_len _ _ ?_
    have := digits_lt (v := v) (by omega)
    omega
  · rw [digits_zero (by omega)]; exact Nat.zero_le _

/-- The number that decimal digits are, behind another one. -/
def num : Int → List Int → Int
  | a, [] => a
  | a, d :: ds => num (a * 10 + (d - 48)) ds
theorem num_append : ∀ (xs ys : List Int) (a : Int), num a (xs ++ ys) = num (num a xs) ys
  | [], _, _ => rfl
  | x :: xs, ys, a => by simp only [List.cons_append, num]; exact num_append xs ys _
theorem num_dec : ∀ (f : Nat) (n : Int), n.toNat ≤ f → 0 ≤ n → num 0 (dec n).reverse = n
  | 0, n, hf, h => by rw [dec_zero (by omega)]; simp [num]; omega
  | f + 1, n, hf, h => by
    by_cases hn : 0 < n
    · rw [dec_pos hn, List.reverse_cons, num_append, num_dec f (n / 10) (by omega) (by omega)]
      simp only [num]; omega
    · rw [dec_zero (by omega)]; simp [num]; omega
theorem num_decText {n : Int} (h : 0 ≤ n) : num 0 (decText n) = n := by
  unfold decText
  split
  · simp [num]; omega
  · exact num_dec _ n (Nat.le_refl _) h
/-- Each byte is a decimal digit. -/
def Decs (ds : List Int) : Prop := ∀ d, d ∈ ds → 48 ≤ d ∧ d ≤ 57
theorem num_ge : ∀ (ds : List Int) (a : Int), Decs ds → 0 ≤ a → a ≤ num a ds
  | [], _, _, _ => Int.le_refl _
  | d :: ds, a, h, ha => by
    have h1 := h d (by simp)
    have := num_ge ds (a * 10 + (d - 48)) (fun x hx => h x (by simp [hx])) (by omega)
    simp only [num]; omega
theorem dec_decs : ∀ (f : Nat) (n : Int), n.toNat ≤ f → Decs (dec n)
  | 0, n, hf => by rw [dec_zero (by omega)]; intro d hd; simp at hd
  | f + 1, n, hf => by
    by_cases hn : 0 < n
    · rw [dec_pos hn]
      intro d hd
      rcases List.mem_cons.1 hd with e | e
      · subst e; omega
      · exact dec_decs f (n / 10) (by omega) d e
    · rw [dec_zero (by omega)]; intro d hd; simp at hd
theorem decText_decs (n : Int) : Decs (decText n) := by
  unfold decText
  split
  · intro d hd; simp at hd; omega
  · intro d hd; exact dec_decs _ n (Nat.le_refl _) d (by simpa using hd)
theorem num_take_le {ds : List Int} (h : Decs ds) (k : Nat) : 0 ≤ num 0 (ds.take k) ∧ num 0 (ds.take k) ≤ num 0 ds := by
  have h1 : Decs (ds.take k) := fun d hd => h d (List.mem_of_mem_take hd)
  have h2 := num_ge _ 0 h1 (by omega)
  have h3 := num_ge (ds.drop k) (num 0 (ds.take k)) (fun d hd => h d (List.mem_of_mem_drop hd)) h2
  rw [← num_append, List.take_append_drop] at h3
  exact ⟨h2, h3⟩
theorem num_take_succ {ds : List Int} (k : Nat) (hk : k < ds.length) : num 0 (ds.take (k + 1)) = num 0 (ds.take k) * 10 + (ds.getD k 0 - 48) := by
  rw [List.take_succ_eq_append_getElem hk, num_append]
  simp only [num, List.getD_eq_getElem?_getD, List.getElem?_eq_getElem hk, Option.getD_some]
/-- A text of digits with no 0 ahead, but 0 itself. -/
def TextOk (ds : List Int) : Prop := ds.length ≠ 0 ∧ Decs ds ∧ (ds.getD 0 0 = 48 → ds.length = 1)
theorem num_lead : ∀ (ds : List Int) (a : Int), Decs ds → 0 < a → (dec (num a ds)) = ds.reverse ++ dec a
  | [], a, _, _ => by simp [num]
  | d :: ds, a, h, ha => by
    have h1 := h d (by simp)
    simp only [num]
    rw [num_lead ds _ (fun x hx => h x (by simp [hx])) (by omega), dec_pos (by omega), List.reverse_cons,
      show (a * 10 + (d - 48)) / 10 = a by omega, show 48 + (a * 10 + (d - 48)) % 10 = d by omega]
    simp
theorem text_back {ds : List Int} (h : TextOk ds) : decText (num 0 ds) = ds := by
  obtain ⟨h1, h2, h3⟩ := h
  cases ds with
  | nil => simp at h1
  | cons d ds =>
    have hd := h2 d (by simp)
    by_cases e : d = 48
    · have := h3 (by simp [e])
      have hn : ds = [] := List.eq_nil_of_length_eq_zero (by simpa using this)
      subst hn e
      simp [num, decText]
    · have hg := num_ge ds (0 * 10 + (d - 48)) (fun x hx => h2 x (by simp [hx])) (by omega)
      simp only [num] at hg ⊢
      unfold decText
      rw [if_neg (by omega), num_lead ds _ (fun x hx => h2 x (by simp [hx])) (by omega), dec_pos (by omega), dec_zero (by omega)]
      simp; omega

end Go.Proofs.Ytlhiahhpmjiioaa

namespace Go.Proofs.Ytlhiahhpmjiioaa

/-- What SpanFault tells of a span whose ends are these signs and limbs. -/
def spanFault (p : Bool) (xs : List Int) (q : Bool) (ys : List Int) : Int :=
  if bigFault2 p xs q ys = 0 then (if 20 < xs.length ∨ 20 < ys.length then 2 else if sv q ys < sv p xs then 1 else 0) else bigFault2 p xs q ys

structure SpanOk (p : Bool) (xs : List Int) (q : Bool) (ys : List Int) : Prop where
  lo : BigOk p xs
  hi : BigOk q ys
  lx : xs.length ≤ 20
  ly : ys.length ≤ 20
  le : sv p xs ≤ sv q ys

theorem spanFault_big {p q : Bool} {xs ys : List Int} (h : bigFault2 p xs q ys ≠ 0) : spanFault p xs q ys = bigFault2 p xs q ys := if_neg h
theorem spanFault_many {p q : Bool} {xs ys : List Int} (h : bigFault2 p xs q ys = 0) (hl : 20 < xs.length ∨ 20 < ys.length) : spanFault p xs q ys = 2 := by
  unfold spanFault; rw [if_pos h, if_pos hl]
theorem spanFault_form {p q : Bool} {xs ys : List Int} (h : bigFault2 p xs q ys = 0) (hx : ¬ 20 < xs.length) (hy : ¬ 20 < ys.length) (hlt : sv q ys < sv p xs) : spanFault p xs q ys = 1 := by
  unfold spanFault; rw [if_pos h, if_neg (by omega), if_pos hlt]
theorem spanFault_ok {p q : Bool} {xs ys : List Int} (h : bigFault2 p xs q ys = 0) (hx : ¬ 20 < xs.length) (hy : ¬ 20 < ys.length) (hlt : ¬ sv q ys < sv p xs) : spanFault p xs q ys = 0 := by
  unfold spanFault; rw [if_pos h, if_neg (by omega), if_neg hlt]
theorem spanFault_zero {p q : Bool} {xs ys : List Int} (h : spanFault p xs q ys = 0) : SpanOk p xs q ys := by
  unfold spanFault at h
  by_cases h1 : bigFault2 p xs q ys = 0
  · rw [if_pos h1] at h
    by_cases h2 : 20 < xs.length ∨ 20 < ys.length
    · rw [if_pos h2] at h; omega
    · rw [if_neg h2] at h
      by_cases h3 : sv q ys < sv p xs
      · rw [if_pos h3] at h; omega
      · obtain ⟨a, b⟩ := bigFault2_zero h1
        exact ⟨a, b, by omega, by omega, by omega⟩
  · rw [if_neg h1] at h; exact absurd h h1

/-- The first code of two spans. -/
def spanFault2 (p : Bool) (xs : List Int) (q : Bool) (ys : List Int) (p' : Bool) (xs' : List Int) (q' : Bool) (ys' : List Int) : Int :=
  if spanFault p xs q ys = 0 then spanFault p' xs' q' ys' else spanFault p xs q ys
theorem spanFault2_first {p q p' q' : Bool} {xs ys xs' ys' : List Int} (h : spanFault p xs q ys ≠ 0) : spanFault2 p xs q ys p' xs' q' ys' = spanFault p xs q ys := if_neg h
theorem spanFault2_second {p q p' q' : Bool} {xs ys xs' ys' : List Int} (h : spanFault p xs q ys = 0) : spanFault2 p xs q ys p' xs' q' ys' = spanFault p' xs' q' ys' := if_pos h
theorem spanFault2_zero {p q p' q' : Bool} {xs ys xs' ys' : List Int} (h : spanFault2 p xs q ys p' xs' q' ys' = 0) : SpanOk p xs q ys ∧ SpanOk p' xs' q' ys' := by
  unfold spanFault2 at h
  by_cases h1 : spanFault p xs q ys = 0
  · rw [if_pos h1] at h; exact ⟨spanFault_zero h1, spanFault_zero h⟩
  · rw [if_neg h1] at h; exact absurd h h1

/-- An answer: a code, and the ends as numbers (0 where there is a code). -/
structure SV where
  code : Int
  lo : Int
  hi : Int
def noSpan (c : Int) : SV := ⟨c, 0, 0⟩
def fitS (lo hi : Int) : SV := if 20 < (mag lo).length ∨ 20 < (mag hi).length then noSpan 7 else ⟨0, lo, hi⟩
theorem fitS_many {lo hi : Int} (h : 20 < (mag lo).length ∨ 20 < (mag hi).length) : fitS lo hi = noSpan 7 := if_pos h
theorem fitS_ok {lo hi : Int} (h : (mag lo).length ≤ 20) (h' : (mag hi).length ≤ 20) : fitS lo hi = ⟨0, lo, hi⟩ := if_neg (by omega)
def twoS (f : Int) (r : SV) : SV := if f = 0 then r else noSpan f
theorem twoS_zero {f : Int} {r : SV} (h : f = 0) : twoS f r = r := if_pos h
theorem twoS_not {f : Int} {r : SV} (h : f ≠ 0) : twoS f r = noSpan f := if_neg h
/-- No end of an answer has more than 20 limbs. -/
def Short (r : SV) : Prop := (mag r.lo).length ≤ 20 ∧ (mag r.hi).length ≤ 20
theorem noSpan_short (c : Int) : Short (noSpan c) := by
  unfold Short noSpan; simp [mag_zero]
theorem fitS_short (lo hi : Int) : Short (fitS lo hi) := by
  unfold fitS
  by_cases h : 20 < (mag lo).length ∨ 20 < (mag hi).length
  · rw [if_pos h]; exact noSpan_short 7
  · rw [if_neg h]; exact ⟨by show (mag lo).length ≤ 20; omega, by show (mag hi).length ≤ 20; omega⟩
theorem twoS_short {f : Int} {r : SV} (h : Short r) : Short (twoS f r) := by
  unfold twoS
  by_cases e : f = 0
  · rw [if_pos e]; exact h
  · rw [if_neg e]; exact noSpan_short f

def addS (p : Bool) (xs : List Int) (q : Bool) (ys : List Int) (p' : Bool) (xs' : List Int) (q' : Bool) (ys' : List Int) : SV :=
  twoS (spanFault2 p xs q ys p' xs' q' ys') (fitS (sv p xs + sv p' xs') (sv q ys + sv q' ys'))
def subS (p : Bool) (xs : List Int) (q : Bool) (ys : List Int) (p' : Bool) (xs' : List Int) (q' : Bool) (ys' : List Int) : SV :=
  twoS (spanFault2 p xs q ys p' xs' q' ys') (fitS (sv p xs - sv q' ys') (sv q ys - sv p' xs'))
/-- The lower one, the higher one. -/
def minZ (x y : Int) : Int := if y < x then y else x
def maxZ (x y : Int) : Int := if x < y then y else x
def hullS (p : Bool) (xs : List Int) (q : Bool) (ys : List Int) (p' : Bool) (xs' : List Int) (q' : Bool) (ys' : List Int) : SV :=
  twoS (spanFault2 p xs q ys p' xs' q' ys') (fitS (minZ (sv p xs) (sv p' xs')) (maxZ (sv q ys) (sv q' ys')))
def meetS (p : Bool) (xs : List Int) (q : Bool) (ys : List Int) (p' : Bool) (xs' : List Int) (q' : Bool) (ys' : List Int) : SV :=
  twoS (spanFault2 p xs q ys p' xs' q' ys') (if minZ (sv q ys) (sv q' ys') < maxZ (sv p xs) (sv p' xs') then noSpan 4 else fitS (maxZ (sv p xs) (sv p' xs')) (minZ (sv q ys) (sv q' ys')))
def orderS (p : Bool) (xs : List Int) (q : Bool) (ys : List Int) (p' : Bool) (xs' : List Int) (q' : Bool) (ys' : List Int) : Int :=
  if spanFault2 p xs q ys p' xs' q' ys' = 0 then (if sv q ys < sv p' xs' then -1 else if sv q' ys' < sv p xs then 1 else 0) else 0
def withinS (p : Bool) (xs : List Int) (q : Bool) (ys : List Int) (p' : Bool) (xs' : List Int) (q' : Bool) (ys' : List Int) : Bool :=
  decide (spanFault2 p xs q ys p' xs' q' ys' = 0) && (decide (sv p' xs' ≤ sv p xs) && decide (sv q ys ≤ sv q' ys'))
theorem addS_short (p q p' q' : Bool) (xs ys xs' ys' : List Int) : Short (addS p xs q ys p' xs' q' ys') := twoS_short (fitS_short _ _)
theorem subS_short (p q p' q' : Bool) (xs ys xs' ys' : List Int) : Short (subS p xs q ys p' xs' q' ys') := twoS_short (fitS_short _ _)
theorem hullS_short (p q p' q' : Bool) (xs ys xs' ys' : List Int) : Short (hullS p xs q ys p' xs' q' ys') := twoS_short (fitS_short _ _)
theorem meetS_short (p q p' q' : Bool) (xs ys xs' ys' : List Int) : Short (meetS p xs q ys p' xs' q' ys') := by
  refine twoS_short ?_
  by_cases h : minZ (sv q ys) (sv q' ys') < maxZ (sv p xs) (sv p' xs')
  · rw [if_pos h]; exact noSpan_short 4
  · rw [if_neg h]; exact fitS_short _ _

theorem cmpB_ok {p q : Bool} {xs ys : List Int} (h : BigOk p xs) (h' : BigOk q ys) : cmpB p xs q ys = cmpV (sv p xs) (sv q ys) := by
  unfold cmpB
  rw [if_pos (by unfold bigFault2; rw [if_pos h.fault, h'.fault])]
theorem cmpV_neg {x y : Int} : decide (cmpV x y < 0) = decide (x < y) := by
  unfold cmpV
  by_cases h : x < y
  · simp [h]
  · by_cases h' : y < x <;> simp [h, h']
theorem cmpV_pos {x y : Int} : decide (0 < cmpV x y) = decide (y < x) := by
  unfold cmpV
  by_cases h : x < y
  · have : ¬ y < x := by omega
    simp [h, this]
  · by_cases h' : y < x <;> simp [h, h']
theorem bigFault2_of {p q : Bool} {xs ys : List Int} (h : BigOk p xs) (h' : BigOk q ys) : bigFault2 p xs q ys = 0 := by
  unfold bigFault2; rw [if_pos h.fault, h'.fault]
theorem minZ_cases (x y : Int) : (minZ x y = x ∧ ¬ y < x) ∨ (minZ x y = y ∧ y < x) := by
  unfold minZ
  by_cases h : y < x
  · rw [if_pos h]; exact Or.inr ⟨rfl, h⟩
  · rw [if_neg h]; exact Or.inl ⟨rfl, h⟩
theorem maxZ_cases (x y : Int) : (maxZ x y = x ∧ ¬ x < y) ∨ (maxZ x y = y ∧ x < y) := by
  unfold maxZ
  by_cases h : x < y
  · rw [if_pos h]; exact Or.inr ⟨rfl, h⟩
  · rw [if_neg h]; exact Or.inl ⟨rfl, h⟩

end Go.Proofs.Ytlhiahhpmjiioaa

namespace Go.Proofs.Ytlhiahhpmjiioaa

theorem mag_len_lt {z : Int} {k : Nat} (h : -pw k < z ∧ z < pw k) : (mag z).length ≤ k := by
  by_cases hz : z < 0
  · rw [mag_yes hz]; exact digits_len k _ (by omega)
  · rw [mag_no (by omega)]; exact digits_len k _ (by omega)
theorem sv_bound {p : Bool} {xs : List Int} {k : Nat} (h : Nat40 xs) (hl : xs.length ≤ k) : -pw k < sv p xs ∧ sv p xs < pw k := by
  have h1 := (show AllLimbs xs from h.limb).val
  have h2 := pw_mono xs.length k hl
  cases p
  · rw [show sv false xs = val xs from rfl]; omega
  · rw [show sv true xs = -val xs from rfl]; omega
theorem addZ_len {p q : Bool} {xs ys : List Int} (hx : Nat40 xs) (hy : Nat40 ys) (lx : xs.length ≤ 20) (ly : ys.length ≤ 20) : (mag (sv p xs + sv q ys)).length ≤ 21 := by
  have h1 := sv_bound (p := p) hx lx
  have h2 := sv_bound (p := q) hy ly
  have h3 : pw 21 = 65536 * pw 20 := rfl
  have h4 := pw_pos 20
  exact mag_len_lt (by omega)
theorem subZ_len {p q : Bool} {xs ys : List Int} (hx : Nat40 xs) (hy : Nat40 ys) (lx : xs.length ≤ 20) (ly : ys.length ≤ 20) : (mag (sv p xs - sv q ys)).length ≤ 21 := by
  have h1 := sv_bound (p := p) hx lx
  have h2 := sv_bound (p := q) hy ly
  have h3 : pw 21 = 65536 * pw 20 := rfl
  have h4 := pw_pos 20
  exact mag_len_lt (by omega)
theorem addB_z {p q : Bool} {xs ys : List Int} {z : Int} (hx : BigOk p xs) (hy : BigOk q ys) (lx : xs.length ≤ 20) (ly : ys.length ≤ 20) (hz : z = sv p xs + sv q ys) : addB p xs q ys = ⟨0, isNeg z, mag z⟩ := by
  have h := addZ_len (p := p) (q := q) hx.n40 hy.n40 lx ly
  unfold addB fitB
  rw [twoB_zero (bigFault2_of hx hy), if_neg (by omega), hz]
theorem subB_z {p q : Bool} {xs ys : List Int} {z : Int} (hx : BigOk p xs) (hy : BigOk q ys) (lx : xs.length ≤ 20) (ly : ys.length ≤ 20) (hz : z = sv p xs - sv q ys) : subB p xs q ys = ⟨0, isNeg z, mag z⟩ := by
  have h := subZ_len (p := p) (q := q) hx.n40 hy.n40 lx ly
  unfold subB fitB
  rw [twoB_zero (bigFault2_of hx hy), if_neg (by omega), hz]

end Go.Proofs.Ytlhiahhpmjiioaa

namespace Go.Proofs.Ytlhiahhpmjiioaa

/-- A big as a value: its sign, its slice, and the limbs that the slice reads as. -/
structure BE where
  neg : Bool
  ptr : Option Addr
  len : Nat
  cap : Nat
  limbs : List Int
def BE.z (b : BE) : Int := sv b.neg b.limbs
def BE.val (b : BE) : Value := .agg #[.bool b.neg, .slice b.ptr b.len b.cap]
/-- The one that is left, when each one that is ahead takes the place. -/
def pickF (r : Int → Int → Bool) : BE → List BE → BE
  | b, [] => b
  | b, x :: l => pickF r (if r x.z b.z = true then x else b) l
theorem pick_snoc (r : Int → Int → Bool) : ∀ (l : List BE) (b x : BE), pickF r b (l ++ [x]) = if r x.z (pickF r b l).z = true then x else pickF r b l
  | [], _, _ => rfl
  | _ :: l, _, x => pick_snoc r l _ x
theorem pick_mem (r : Int → Int → Bool) : ∀ (l : List BE) (b : BE), pickF r b l = b ∨ pickF r b l ∈ l
  | [], _ => Or.inl rfl
  | x :: l, b => by
    rcases pick_mem r l (if r x.z b.z = true then x else b) with h | h
    · by_cases e : r x.z b.z = true
      · rw [if_pos e] at h; exact Or.inr (by unfold pickF; rw [if_pos e, h]; exact List.mem_cons_self)
      · rw [if_neg e] at h; exact Or.inl (by unfold pickF; rw [if_neg e]; exact h)
    · exact Or.inr (List.mem_cons_of_mem _ h)
theorem take_get {l : List BE} {k : Nat} (h : k < l.length) : l.take (k + 1) = l.take k ++ [l[k]] := by
  rw [List.take_add_one, List.getElem?_eq_getElem h]; rfl
theorem take_all {l : List BE} {k : Nat} (h : l.length ≤ k) : l.take k = l := List.take_of_length_le h

def ltZ (x y : Int) : Bool := decide (x < y)
def gtZ (x y : Int) : Bool := decide (y < x)

end Go.Proofs.Ytlhiahhpmjiioaa

namespace Go.Proofs.Ytlhiahhpmjiioaa

theorem mul_len {p q : Bool} {xs ys : List Int} {i j : Nat} (hx : Nat40 xs) (hy : Nat40 ys) (lx : xs.length ≤ i) (ly : ys.length ≤ j) : (mag (sv p xs * sv q ys)).length ≤ i + j := by
  have h1 := (show AllLimbs xs from hx.limb).val
  have h2 := (show AllLimbs ys from hy.limb).val
  have m1 := pw_mono xs.length i lx
  have m2 := pw_mono ys.length j ly
  have h3 : 0 ≤ val xs * val ys := Int.mul_nonneg h1.1 h2.1
  unfold sv
  rw [sg_mul, mag_sg h3]
  refine digits_len _ _ ?_
  rw [pw_add]
  have h4 : val xs * val ys ≤ (pw i - 1) * (pw j - 1) := Int.mul_le_mul (by omega) (by omega) h2.1 (by have := pw_pos i; omega)
  have h5 : (pw i - 1) * (pw j - 1) = pw i * pw j - pw i - pw j + 1 := by rw [Int.sub_mul, Int.mul_sub]; omega
  have := pw_pos i
  have := pw_pos j
  omega
theorem mulB_z {p q : Bool} {xs ys : List Int} {z : Int} (hx : BigOk p xs) (hy : BigOk q ys) (hl : (mag z).length ≤ 40) (hz : z = sv p xs * sv q ys) : mulB p xs q ys = ⟨0, isNeg z, mag z⟩ := by
  unfold mulB fitB
  rw [twoB_zero (bigFault2_of hx hy), ← hz, if_neg (by omega)]
theorem divZ_len {up p q : Bool} {xs ys : List Int} {k : Nat} (hx : Nat40 xs) (hy : BigOk q ys) (hy0 : ys.length ≠ 0) (lx : xs.length ≤ k) : (mag (divZ up p q (val xs) (val ys))).length ≤ k + 1 := by
  have h1 := (show AllLimbs xs from hx.limb).val
  have h2 := canon_nonneg hy.n40.canon
  have hpos : 0 < val ys := h2.2 (fun e => hy0 (by rw [e]; rfl))
  have m1 := pw_mono xs.length k lx
  have d0 : 0 ≤ val xs / val ys := Int.ediv_nonneg h1.1 h2.1
  have d1 : val xs / val ys ≤ val xs := Int.ediv_le_self _ h1.1
  have hp : pw (k + 1) = 65536 * pw k := rfl
  have := pw_pos k
  unfold divZ
  rw [mag_sg (by split <;> omega)]
  exact digits_len _ _ (by split <;> omega)
theorem divB_z {up p q : Bool} {xs ys : List Int} {z : Int} (hx : BigOk p xs) (hy : BigOk q ys) (hy0 : ys.length ≠ 0) (lx : xs.length ≤ 39) (hz : z = divZ up p q (val xs) (val ys)) : divB up p xs q ys = ⟨0, isNeg z, mag z⟩ := by
  have h := divZ_len (up := up) (p := p) hx.n40 hy hy0 lx
  unfold divB fitB
  rw [twoB_zero (bigFault2_of hx hy), if_neg hy0, ← hz, if_neg (by rw [hz]; omega)]

/-- The precisions. -/
def isP (P : Int) : Bool := decide (P = 48 ∨ P = 72 ∨ P = 96)
theorem isP_cases {P : Int} (h : isP P = true) : P = 48 ∨ P = 72 ∨ P = 96 := of_decide_eq_true h
theorem p2_len {k : Nat} (h : k ≤ 96) : (digits (p2 k)).length ≤ 7 := by
  refine digits_len 7 _ ?_
  have := p2_mono k 96 h
  have a := p2_mono 96 111 (by omega)
  have b : p2 112 = 2 * p2 111 := rfl
  have c := p2_pos 111
  rw [pw_p2 7]
  show p2 k < p2 112
  omega
theorem p2_ok {k : Nat} (h : k ≤ 96) : BigOk false (digits (p2 k)) ∧ sv false (digits (p2 k)) = p2 k := by
  have h1 := p2_pos k
  have h2 := p2_len h
  refine ⟨?_, ?_⟩
  · have := bigOk_of (z := p2 k) (by rw [mag_no (by omega)]; omega)
    rw [mag_no (by omega), isNeg_no (by omega)] at this
    exact this
  · show val (digits (p2 k)) = p2 k
    exact val_digits' (by omega)
/-- A number in units. -/
def inU (P : Int) (p : Bool) (xs : List Int) : Int := sv p xs * p2 P.toNat
theorem inU_len {P : Int} {p : Bool} {xs : List Int} (hP : isP P = true) (hx : BigOk p xs) (lx : xs.length ≤ 20) : (mag (inU P p xs)).length ≤ 27 := by
  have hk : P.toNat ≤ 96 := by rcases isP_cases hP with rfl | rfl | rfl <;> decide
  have h := mul_len (p := p) (q := false) hx.n40 (p2_ok hk).1.n40 lx (p2_len hk)
  rw [(p2_ok hk).2] at h
  exact h
def ratS (P : Int) (p : Bool) (xs : List Int) (q : Bool) (ys : List Int) : SV :=
  if isP P = true then twoS (bigFault2 p xs q ys) (if ys.length = 0 then noSpan 6 else if 20 < xs.length ∨ 20 < ys.length then noSpan 2 else
    fitS (divZ false (isNeg (inU P p xs)) q (val (mag (inU P p xs))) (val ys)) (divZ true (isNeg (inU P p xs)) q (val (mag (inU P p xs))) (val ys))) else noSpan 3
theorem ratS_short (P : Int) (p : Bool) (xs : List Int) (q : Bool) (ys : List Int) : Short (ratS P p xs q ys) := by
  unfold ratS
  split
  · refine twoS_short ?_
    split
    · exact noSpan_short 6
    · split
      · exact noSpan_short 2
      · exact fitS_short _ _
  · exact noSpan_short 3

end Go.Proofs.Ytlhiahhpmjiioaa

namespace Go.Proofs.Ytlhiahhpmjiioaa

/-- The root, rounded up. -/
def csqZ (v : Int) : Int := if isq v * isq v < v then isq v + 1 else isq v
def lowZ (p : Bool) (xs : List Int) : Int := if p = true then 0 else val xs
def rootS (P : Int) (p : Bool) (xs : List Int) (q : Bool) (ys : List Int) : SV :=
  if isP P = true then twoS (spanFault p xs q ys) (if q = true then noSpan 3 else fitS (isq (lowZ p xs * p2 P.toNat)) (csqZ (val ys * p2 P.toNat))) else noSpan 3
theorem rootS_short (P : Int) (p : Bool) (xs : List Int) (q : Bool) (ys : List Int) : Short (rootS P p xs q ys) := by
  unfold rootS
  split
  · refine twoS_short ?_
    split
    · exact noSpan_short 3
    · exact fitS_short _ _
  · exact noSpan_short 3
theorem lowZ_max {p : Bool} {xs : List Int} (hx : BigOk p xs) : lowZ p xs = maxZ (sv p xs) (sv false []) := by
  have h := canon_nonneg hx.n40.canon
  have hz : sv false [] = 0 := rfl
  rw [hz]
  unfold lowZ maxZ
  cases p
  · rw [show sv false xs = val xs from rfl, if_neg (by simp), if_neg (by omega)]
  · have hpos : 0 < val xs := h.2 (fun e => hx.sign rfl (by rw [e]; rfl))
    rw [show sv true xs = - val xs from rfl, if_pos rfl, if_pos (by omega)]
theorem lowZ_nonneg {p : Bool} {xs : List Int} (hx : BigOk p xs) : 0 ≤ lowZ p xs := by
  have h := (canon_nonneg hx.n40.canon).1
  unfold lowZ
  split <;> omega
theorem lowZ_len {p : Bool} {xs : List Int} (hx : BigOk p xs) (lx : xs.length ≤ 20) : (mag (lowZ p xs)).length ≤ 20 := by
  have h := canon_nonneg hx.n40.canon
  unfold lowZ
  cases p
  · rw [if_neg (by simp), mag_no h.1, digits_val hx.n40.canon]; exact lx
  · rw [if_pos rfl, mag_zero]; simp
theorem isq_nonneg {v : Int} (h : 0 ≤ v) : 0 ≤ isq v := (isq_root h).pos

end Go.Proofs.Ytlhiahhpmjiioaa

namespace Go.Proofs.Ytlhiahhpmjiioaa

/-- 0 is in the span. -/
def hasZ (p : Bool) (xs : List Int) (q : Bool) : Bool := !q && decide (sv p xs ≤ 0)
/-- Out of units of units: rounded down, or up. -/
def outZ (up : Bool) (z : Int) (k : Nat) : Int := divZ up (isNeg z) false (val (mag z)) (val (digits (p2 k)))
theorem outZ_len {up : Bool} {z : Int} {k : Nat} (hk : 16 ≤ k) (hl : (mag z).length ≤ 40) : (mag (outZ up z k)).length ≤ 40 := by
  have hx := (bigOk_of hl).n40
  have h1 := (show AllLimbs (mag z) from hx.limb).val
  have m1 := pw_mono (mag z).length 40 hl
  have hp := p2_mono 16 k hk
  have h16 : p2 16 = 65536 := rfl
  have hv : val (digits (p2 k)) = p2 k := val_digits' (by omega)
  have d0 : 0 ≤ val (mag z) / p2 k := Int.ediv_nonneg h1.1 (by omega)
  have d1 : val (mag z) / p2 k * p2 k ≤ val (mag z) := Int.ediv_mul_le _ (by omega)
  have d2 : val (mag z) / p2 k * 65536 ≤ val (mag z) / p2 k * p2 k := Int.mul_le_mul_of_nonneg_left (by omega) d0
  have h39 : pw 40 = 65536 * pw 39 := rfl
  have := pw_pos 39
  unfold outZ divZ
  rw [hv, mag_sg (by split <;> omega)]
  exact digits_len _ _ (by split <;> omega)
theorem divB_w {up p q : Bool} {xs ys : List Int} {z : Int} (hx : BigOk p xs) (hy : BigOk q ys) (hy0 : ys.length ≠ 0) (hl : (mag z).length ≤ 40) (hz : z = divZ up p q (val xs) (val ys)) : divB up p xs q ys = ⟨0, isNeg z, mag z⟩ := by
  unfold divB fitB
  rw [twoB_zero (bigFault2_of hx hy), if_neg hy0, ← hz, if_neg (by omega)]

end Go.Proofs.Ytlhiahhpmjiioaa

namespace Go.Proofs.Ytlhiahhpmjiioaa

theorem drop_num {xs : List Int} {k : Nat} (hx : Nat40 xs) (hk : k ≤ xs.length) : val xs / pw k = val (xs.drop k) ∧ val xs % pw k = val (xs.take k) := by
  have h1 := val_split xs k hk
  have h2 := ((show AllLimbs xs from hx.limb).take k).val
  rw [List.length_take, Nat.min_eq_left hk] at h2
  have := (Int.ediv_emod_unique (a := val xs) (b := pw k) (r := val (xs.take k)) (q := val (xs.drop k)) (by have := pw_pos k; omega)).2 ⟨h1.symm, h2.1, h2.2⟩
  exact ⟨this.1, this.2⟩
theorem drop_canon {xs : List Int} {k : Nat} (hx : Nat40 xs) (hk : k < xs.length) : digits (val (xs.drop k)) = xs.drop k := by
  have h1 := (show AllLimbs xs from hx.limb).drop k
  refine (digits_of_limbs h1 (fun _ => ?_)).symm
  have ht := hx.top (by omega)
  rw [List.getD_eq_getElem?_getD] at ht ⊢
  rw [List.getElem?_drop, List.length_drop, show k + (xs.length - k - 1) = xs.length - 1 by omega]
  exact ht
theorem small_num {xs : List Int} {k : Nat} (hx : Nat40 xs) (hk : xs.length ≤ k) : val xs / pw k = 0 ∧ val xs % pw k = val xs := by
  have h1 := (show AllLimbs xs from hx.limb).val
  have h2 := pw_mono xs.length k hk
  exact ⟨Int.ediv_eq_zero_of_lt h1.1 (by omega), Int.emod_eq_of_lt h1.1 (by omega)⟩
/-- What is left over limbs and a part of one. -/
theorem part_num {X d : Int} {k : Nat} (hd : 1 ≤ d) : X / (pw k * d) = X / pw k / d ∧ (X % (pw k * d) = 0 ↔ X % pw k = 0 ∧ X / pw k % d = 0) := by
  have hp := pw_pos k
  refine ⟨(Int.ediv_ediv_of_nonneg (by omega)).symm, ?_⟩
  have h1 := Int.emod_add_mul_ediv X (pw k)
  have h2 := Int.emod_add_mul_ediv (X / pw k) d
  have h3 := Int.emod_nonneg X (show pw k ≠ 0 by omega)
  have h4 := Int.emod_nonneg (X / pw k) (show d ≠ 0 by omega)
  have h5 := Int.emod_lt_of_pos X (show 0 < pw k by omega)
  have h6 := Int.emod_lt_of_pos (X / pw k) (show 0 < d by omega)
  have h7 : X = (X % pw k + pw k * (X / pw k % d)) + (pw k * d) * (X / pw k / d) := by
    have e : pw k * (X / pw k) = pw k * (X / pw k % d) + (pw k * d) * (X / pw k / d) := by
      rw [Int.mul_assoc, ← Int.mul_add, h2]
    omega
  have h8 : 0 ≤ pw k * (X / pw k % d) := Int.mul_nonneg (by omega) h4
  have h9 : pw k * (X / pw k % d) ≤ pw k * (d - 1) := Int.mul_le_mul_of_nonneg_left (by omega) (by omega)
  have ha : pw k * (d - 1) = pw k * d - pw k := by rw [Int.mul_sub, Int.mul_one]
  have hb := (Int.ediv_emod_unique (a := X) (b := pw k * d) (r := X % pw k + pw k * (X / pw k % d)) (q := X / pw k / d) (by have := Int.mul_le_mul_of_nonneg_left hd (show 0 ≤ pw k by omega); omega)).2 ⟨h7.symm, by omega, by omega⟩
  rw [hb.2]
  constructor
  · intro h
    have hc : pw k * (X / pw k % d) = 0 := by omega
    refine ⟨by omega, ?_⟩
    rcases Int.mul_eq_zero.1 hc with hz | hz
    · omega
    · exact hz
  · rintro ⟨ha, hb⟩
    rw [ha, hb]; simp

end Go.Proofs.Ytlhiahhpmjiioaa

namespace Go.Proofs.Ytlhiahhpmjiioaa
open Go.ChangeShapes Go.WideShapes Go.RowKit Go.Deep Go.WideElems Go.Maps Go.Joins

theorem open_two2 {H : Type} {enc : TypeId × Value → H} {P : Program} {w : World} {base : Nat} {spare : Nat → Bool} {held : Bool} {r : Reach} {b0 : Nat} {t tb : TypeId} {f0 f1 g0 g1 : Field} {v : Value} {d : DataW H} {p : List MemPlace}
    (hs : P.underlying t = some (.struct #[f0, f1])) (ht0 : f0.type = tb) (ht1 : f1.type = tb) (ho0 : f0.offset = 0) (ho1 : f1.offset = 2) (hc : P.cellsOf tb = 2)
    (hb : P.underlying tb = some (.struct #[g0, g1])) (hp0 : g0.offset = 0) (hp1 : g1.offset = 1) (hk0 : P.cellsOf g0.type = 1) (hk1 : P.cellsOf g1.type = 1) (hC : P.cellsOf t = 4)
    (hv : Value.okWide P w r b0 t v) (h : DataW.Trod enc P w base spare held t v d p) :
    ∃ (v0 v1 v2 v3 : Value) (y0 y1 y2 y3 : DataW H × List MemPlace) (n : Nat), v = .agg #[v0, v1, v2, v3] ∧
      DataW.trod enc P w base spare held n g0.type [v0] = some y0 ∧ DataW.trod enc P w base spare held n g1.type [v1] = some y1 ∧
      DataW.trod enc P w base spare held n g0.type [v2] = some y2 ∧ DataW.trod enc P w base spare held n g1.type [v3] = some y3 := by
  obtain ⟨cs, rfl, hsz⟩ := okWide_struct hs hv
  obtain ⟨c0, c1, c2, c3, rfl⟩ := array4 (hsz.trans hC)
  obtain ⟨fuel, hf⟩ := h
  obtain ⟨y0, y1, n, _, _, h0, h1⟩ := trod_struct2 hs hf
  rw [ht0, ho0, hc] at h0
  rw [ht1, ho1, hc] at h1
  simp only [Value.cells, List.drop_zero, List.drop_succ_cons, List.take_succ_cons, List.take_zero] at h0 h1
  obtain ⟨z0, z1, m, _, _, i0, i1⟩ := trod_struct2 hb h0
  obtain ⟨z2, z3, m', _, _, i2, i3⟩ := trod_struct2 hb h1
  rw [hp0, hk0] at i0 i2
  rw [hp1, hk1] at i1 i3
  simp only [List.drop_zero, List.drop_succ_cons, List.take_succ_cons, List.take_zero] at i0 i1 i2 i3
  exact ⟨c0, c1, c2, c3, z0, z1, z2, z3, max m m', rfl, DataW.trod_le (Nat.le_max_left m m') i0, DataW.trod_le (Nat.le_max_left m m') i1, DataW.trod_le (Nat.le_max_right m m') i2, DataW.trod_le (Nat.le_max_right m m') i3⟩

end Go.Proofs.Ytlhiahhpmjiioaa
