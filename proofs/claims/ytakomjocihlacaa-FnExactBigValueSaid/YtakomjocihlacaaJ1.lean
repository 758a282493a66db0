/-
 Several of my texts in one, each as it was: Base, Lib, Plain, Own, Marks, LBig, Plain2, Plain3, Plain4, Plain5, Plain6, Plain7, PlainS, PlainT, PlainU, PlainV, PlainW, PlainY, PlainZ, SpanO. No condition but theirs.
-/
import Derived.Test.YtakomjocihlacaaProg
import Derived.WalkKit
import Derived.WalkSpells
import Derived.WalkLawsBesides
import Derived.Lib.Hide
import Derived.BigQuiet
import Derived.Deep.DeepFit
import Derived.Deep.OwnRows
import Derived.Below
import Derived.Handy
import Derived.Outline
import Derived.ProofKit
import Derived.Lib.SmallJoins
namespace Go.Proofs.Ytakomjocihlacaa
open Go.RowKit

def ints (cs : List Int) : Array Value := (cs.map (Value.int .i64)).toArray
theorem ints_size (cs : List Int) : (ints cs).size = cs.length := by simp [ints]
theorem ints_get (cs : List Int) (j : Nat) (h : j < cs.length) : (ints cs)[j]? = some (.int .i64 (cs.getD j 0)) := by
 simp [ints, List.getD_eq_getElem?_getD, h]

/-- Block g is one of cells (of int64, or of an array of them), not frozen; its first cells hold the numbers cs. -/
def Blk (w : World) (g : Nat) (cs : List Int) : Prop :=
 ∃ cur : Array Value × TypeId, w.heap[g]? = some (.cells cur.1 cur.2 (0, 0)) ∧ cs.length ≤ cur.1.size ∧ ∀ k, k < cs.length → cur.1[k]? = some (.int .i64 (cs.getD k 0))

theorem Blk.lt {w : World} {g : Nat} {cs : List Int} (h : Blk w g cs) : g < w.heap.size := by obtain ⟨_, h, _⟩ := h; exact (Array.getElem?_eq_some_iff.1 h).1
theorem Blk.cell {w : World} {g : Nat} {cs : List Int} (h : Blk w g cs) {j : Nat} (hj : j < cs.length) : w.cell? ⟨g, j, none⟩ = some (.int .i64 (cs.getD j 0)) := by
 obtain ⟨cur, h1, _, h3⟩ := h
 rw [cell_of_row w g j cur.1 _ _ h1, h3 j hj]
theorem Blk.frozen {w : World} {g : Nat} {cs : List Int} (h : Blk w g cs) (j : Nat) : w.frozen? ⟨g, j, none⟩ = false := by
 obtain ⟨cur, h1, _, h3⟩ := h; exact frozen_of_row w g j _ _ h1
theorem Blk.set {w : World} {g : Nat} {cs : List Int} (h : Blk w g cs) (j : Nat) (y : Int) : Blk (w.setCell ⟨g, j, none⟩ (.int .i64 y)) g (cs.set j y) := by
 obtain ⟨cur, h1, h2, h3⟩ := h
 refine ⟨(cur.1.setIfInBounds j (.int .i64 y), cur.2), heap_setCell_same w g j _ _ _ h1, by simpa using h2, fun k hk => ?_⟩
 simp only [List.length_set] at hk
 show (cur.1.setIfInBounds j (.int .i64 y))[k]? = _
 rw [Array.getElem?_setIfInBounds]
 by_cases e : j = k
 ·subst e
  rw [if_pos rfl, if_pos (by omega)]
  simp [List.getD_eq_getElem?_getD, hk]
 ·rw [if_neg e, h3 k hk]
  simp [List.getD_eq_getElem?_getD, e]
theorem Blk.new (w : World) (cs : List Int) : Blk (w.alloc (.cells (ints cs) 2)) w.heap.size cs :=
 ⟨(ints cs, 2), heap_alloc_new w _, by show cs.length ≤ (ints cs).size; rw [ints_size]; exact Nat.le_refl _, fun k hk => ints_get cs k hk⟩
theorem Blk.ofHeap {w w' : World} {g : Nat} {cs : List Int} (h : Blk w g cs) (e : w'.heap[g]? = w.heap[g]?) : Blk w' g cs := by
 obtain ⟨cur, h1, h2⟩ := h; exact ⟨cur, by rw [e]; exact h1, h2⟩
theorem Blk.other {w : World} {g : Nat} {cs : List Int} (h : Blk w g cs) (a : Addr) (v : Value) (hne : g ≠ a.block) : Blk (w.setCell a v) g cs := h.ofHeap (heap_setCell_other w a g v hne)
theorem Blk.alloc {w : World} {g : Nat} {cs : List Int} (h : Blk w g cs) (o : Obj) : Blk (w.alloc o) g cs := h.ofHeap (Below.heap_alloc w o g h.lt)
theorem Blk.drew {w : World} {g : Nat} {cs : List Int} (h : Blk w g cs) : Blk w.drew g cs := h
theorem Blk.drewN {w : World} {g : Nat} {cs : List Int} (h : Blk w g cs) (n : Nat) : Blk (w.drewN n) g cs := h
/-- The blocks that were there in w hold what they held, but for those of L. -/
structure Kept (L : List Nat) (w w' : World) : Prop where
 os : w'.os = w.os
 tape : w'.tape = w.tape
 output : w'.output = w.output
 size : w.heap.size ≤ w'.heap.size
 block : ∀ k, k < w.heap.size → k ∉ L → w'.heap[k]? = w.heap[k]?

theorem Kept.refl (L : List Nat) (w : World) : Kept L w w := ⟨rfl, rfl, rfl, Nat.le_refl _, fun _ _ _ => rfl⟩
theorem Kept.trans {L M : List Nat} {a b c : World} (h : Kept L a b) (k : Kept M b c) (hM : ∀ x, x ∈ M → x < a.heap.size → x ∈ L) : Kept L a c :=
 ⟨k.os.trans h.os, k.tape.trans h.tape, k.output.trans h.output, Nat.le_trans h.size k.size,
  fun i hi hL => (k.block i (Nat.lt_of_lt_of_le hi h.size) (fun hm => hL (hM i hm hi))).trans (h.block i hi hL)⟩
theorem Kept.trans0 {L : List Nat} {a b c : World} (h : Kept L a b) (k : Kept [] b c) : Kept L a c := h.trans k (by simp)
theorem Kept.trans1 {L : List Nat} {a b c : World} {g : Nat} (h : Kept L a b) (k : Kept [g] b c) (hg : g < a.heap.size → g ∈ L) : Kept L a c :=
 h.trans k (by intro x hx hlt; simp at hx; subst hx; exact hg hlt)
theorem Kept.mono {L M : List Nat} {a b : World} (h : Kept L a b) (hs : ∀ x, x ∈ L → x < a.heap.size → x ∈ M) : Kept M a b :=
 ⟨h.os, h.tape, h.output, h.size, fun i hi hM => h.block i hi (fun hL => hM (hs i hL hi))⟩
theorem Kept.alloc {L : List Nat} {a b : World} (h : Kept L a b) (o : Obj) : Kept L a (b.alloc o) :=
 h.trans0 ⟨rfl, rfl, rfl, by simp, fun k hk _ => Below.heap_alloc b o k hk⟩
theorem Kept.drew {L : List Nat} {a b : World} (h : Kept L a b) : Kept L a b.drew := ⟨h.os, h.tape, h.output, h.size, h.block⟩
theorem Kept.drewN {L : List Nat} {a b : World} (h : Kept L a b) (n : Nat) : Kept L a (b.drewN n) := ⟨h.os, h.tape, h.output, h.size, h.block⟩
theorem Kept.setCell {L : List Nat} {a b : World} (h : Kept L a b) (p : Addr) (v : Value) (hp : p.block < a.heap.size → p.block ∈ L) : Kept L a (b.setCell p v) :=
 h.trans1 (g := p.block) ⟨rfl, rfl, rfl, by simp, fun k _ hk => heap_setCell_other b p k v (by simpa using hk)⟩ hp
theorem Kept.grown {L : List Nat} {a b c : World} {row : Option Nat} (h : Kept L a b) (hg : b.grownBy c row) (hr : ∀ k, row = some k → k < a.heap.size → k ∈ L) : Kept L a c :=
 ⟨hg.os.trans h.os, hg.tape.trans h.tape, hg.output.trans h.output, Nat.le_trans h.size hg.size,
  fun i hi hL => (hg.block i (Nat.lt_of_lt_of_le hi h.size) (fun e => hL (hr i e.symm hi))).trans (h.block i hi hL)⟩
theorem Kept.below {w w' : World} (h : Kept [] w w') : Below w.heap.size w w' := ⟨h.os, h.tape, h.output, h.size, fun k hk => h.block k hk (by simp)⟩
theorem Kept.blk {L : List Nat} {w w' : World} (h : Kept L w w') {g : Nat} {cs : List Int} (hb : Blk w g cs) (hg : g ∉ L) : Blk w' g cs := hb.ofHeap (h.block g hb.lt hg)
theorem Kept.cell {L : List Nat} {w w' : World} (h : Kept L w w') {p : Addr} {v : Value} (hc : w.cell? p = some v) (hg : p.block ∉ L) : w'.cell? p = some v := by
 rw [World.cell?_of_block (w := w) (h.block p.block (World.block_lt_of_cell? w p hc) hg)]; exact hc

theorem Kept.free {L : List Nat} {w w' : World} (h : Kept L w w') {p : Addr} (hc : w.frozen? p = false) (hlt : p.block < w.heap.size) (hg : p.block ∉ L) : w'.frozen? p = false := by
 rw [World.frozen?_of_block (w := w) (h.block p.block hlt hg)]; exact hc

/-- The slice value with head a and length n reads as the numbers xs. -/
def Rd (w : World) (a : Option Addr) (n : Nat) (xs : List Int) : Prop :=
 xs.length = n ∧ n ≤ 9223372036854775807 ∧ ∀ k, k < n → ∃ g off, a = some ⟨g, off, none⟩ ∧ w.cell? ⟨g, off + k, none⟩ = some (.int .i64 (xs.getD k 0))

theorem Rd.kept {L : List Nat} {w w' : World} {a : Option Addr} {n : Nat} {xs : List Int} (h : Rd w a n xs) (k : Kept L w w') (hL : 0 < n → ∀ x, a = some x → x.block ∉ L) : Rd w' a n xs :=
 ⟨h.1, h.2.1, fun i hi => by obtain ⟨g, off, ha, hc⟩ := h.2.2 i hi; exact ⟨g, off, ha, k.cell hc (by have := hL (by omega) _ ha; simpa using this)⟩⟩
theorem Rd.kept0 {w w' : World} {a : Option Addr} {n : Nat} {xs : List Int} (h : Rd w a n xs) (k : Kept [] w w') : Rd w' a n xs := h.kept k (by simp)

/-- The slice value (a, n, c) is empty or lies in a block of int64 cells; it reads as xs. -/
def Sl (w : World) (a : Option Addr) (n c : Nat) (xs : List Int) : Prop :=
 xs.length = n ∧ n ≤ c ∧ c ≤ 9223372036854775807 ∧ (a = none → c = 0) ∧
  (n = 0 ∨ ∃ g off cs, a = some ⟨g, off, none⟩ ∧ Blk w g cs ∧ off + n ≤ cs.length ∧ ∀ k, k < n → cs.getD (off + k) 0 = xs.getD k 0)

theorem Sl.rd {w : World} {a : Option Addr} {n c : Nat} {xs : List Int} (h : Sl w a n c xs) : Rd w a n xs := by
 obtain ⟨h1, h2, h3, _, h4⟩ := h
 refine ⟨h1, by omega, fun k hk => ?_⟩
 rcases h4 with h4 | ⟨g, off, cs, ha, hb, hl, he⟩
 ·omega
 ·exact ⟨g, off, ha, by rw [hb.cell (by omega), he k hk]⟩
theorem Sl.kept {L : List Nat} {w w' : World} {a : Option Addr} {n c : Nat} {xs : List Int} (h : Sl w a n c xs) (k : Kept L w w') (hL : 0 < n → ∀ x, a = some x → x.block ∉ L) : Sl w' a n c xs := by
 obtain ⟨h1, h2, h3, h5, h4⟩ := h
 refine ⟨h1, h2, h3, h5, ?_⟩
 rcases h4 with h4 | ⟨g, off, cs, ha, hb, hl, he⟩
 ·exact Or.inl h4
 ·by_cases hn : n = 0
  ·exact Or.inl hn
  ·exact Or.inr ⟨g, off, cs, ha, k.blk hb (hL (by omega) _ ha), hl, he⟩
theorem Sl.kept0 {w w' : World} {a : Option Addr} {n c : Nat} {xs : List Int} (h : Sl w a n c xs) (k : Kept [] w w') : Sl w' a n c xs := h.kept k (by simp)
theorem Sl.ofBlkC {w : World} {g : Nat} {cs : List Int} {c : Nat} (h : Blk w g cs) (hc : cs.length ≤ c) (hm : c ≤ 9223372036854775807) : Sl w (some ⟨g, 0, none⟩) cs.length c cs :=
 ⟨rfl, hc, hm, by simp, Or.inr ⟨g, 0, cs, rfl, h, by omega, fun k _ => by rw [Nat.zero_add]⟩⟩
theorem Sl.ofBlk {w : World} {g : Nat} {cs : List Int} (h : Blk w g cs) (hm : cs.length ≤ 9223372036854775807) : Sl w (some ⟨g, 0, none⟩) cs.length cs.length cs := Sl.ofBlkC h (Nat.le_refl _) hm
theorem Sl.nil (w : World) : Sl w none 0 0 [] := ⟨rfl, Nat.le_refl _, by omega, fun _ => rfl, Or.inl rfl⟩
theorem Sl.length {w : World} {a : Option Addr} {n c : Nat} {xs : List Int} (h : Sl w a n c xs) : xs.length = n := h.1
theorem Sl.lt {w : World} {a : Option Addr} {n c : Nat} {xs : List Int} (h : Sl w a n c xs) (hn : 0 < n) : ∀ x, a = some x → x.block < w.heap.size := by
 intro x hx
 rcases h.2.2.2.2 with h4 | ⟨g, off, cs, ha, hb, hl, he⟩
 ·omega
 ·rw [ha] at hx; cases hx; exact hb.lt

/-- What is not empty lies in a block from B on. -/
def Fr (B : Nat) (a : Option Addr) (n : Nat) : Prop := 0 < n → ∀ x, a = some x → B ≤ x.block
theorem Fr.mono {B B' n : Nat} {a : Option Addr} (h : Fr B a n) (hB : B' ≤ B) : Fr B' a n := fun hn x hx => Nat.le_trans hB (h hn x hx)

/-- The owned row of a slice as a block of numbers. -/
theorem blk_of_owns {w : World} {base g n c : Nat} {xs : List Int} (h : w.ownsRow base 2 1 (.slice (some ⟨g, 0, none⟩) n c) n (xs.map (Value.int .i64))) : Blk w g xs ∧ base ≤ g ∧ xs.length = n ∧ n ≤ c ∧ c ≤ maxLen := by
 obtain ⟨hl, h2⟩ := h
 have hl' : xs.length = n := by simpa using hl
 rcases h2 with ⟨h2, _⟩ | ⟨g', cap, cur, hv, hg, hh, hc, hm, hs, ht⟩
 ·cases h2
 ·cases hv
  refine ⟨⟨(cur, _), hh, by show xs.length ≤ cur.size; omega, fun k hk => ?_⟩, hg, hl', hc, hm⟩
  have : (cur.toList.take (n * 1))[k]? = (xs.map (Value.int .i64))[k]? := by rw [ht]
  rw [List.getElem?_take, if_pos (by omega)] at this
  show cur[k]? = _
  rw [← Array.getElem?_toList, this]
  simp [List.getD_eq_getElem?_getD, hk]
theorem sl_of_owns {w : World} {base n : Nat} {v : Value} {xs : List Int} (h : w.ownsRow base 2 1 v n (xs.map (Value.int .i64))) : ∃ a c, v = .slice a n c ∧ Sl w a n c xs ∧ Fr base a n ∧ xs.length = n := by
 have h0 := h
 obtain ⟨hl, h2⟩ := h
 have hl' : xs.length = n := by simpa using hl
 rcases h2 with ⟨rfl, rfl⟩ | ⟨g', cap, cur, rfl, hg, hh, hc, hm, hs, ht⟩
 ·exact ⟨none, 0, rfl, ⟨hl', Nat.le_refl _, by omega, fun _ => rfl, Or.inl rfl⟩, fun h => by omega, hl'⟩
 ·obtain ⟨hb, _⟩ := blk_of_owns h0
  unfold maxLen at hm
  refine ⟨_, cap, rfl, ?_, fun _ x hx => ?_, hl'⟩
  ·subst hl'; exact Sl.ofBlkC hb hc (by omega)
  ·cases hx; exact hg

/-- Two cells of one block, stored one behind the other. -/
theorem cells2 {w : World} {g : Nat} {x y : Value} (u v : Value) (h0 : w.cell? ⟨g, 0, none⟩ = some x) (h1 : w.cell? ⟨g, 1, none⟩ = some y) :
  (w.setCell ⟨g, 0, none⟩ u).cell? ⟨g, 0, none⟩ = some u ∧ ((w.setCell ⟨g, 0, none⟩ u).setCell ⟨g, 1, none⟩ v).cell? ⟨g, 0, none⟩ = some u ∧ ((w.setCell ⟨g, 0, none⟩ u).setCell ⟨g, 1, none⟩ v).cell? ⟨g, 1, none⟩ = some v := by
 have e0 := World.cell?_setCell_same w ⟨g, 0, none⟩ u h0
 have e1 : (w.setCell ⟨g, 0, none⟩ u).cell? ⟨g, 1, none⟩ = some y := by rw [World.cell?_setCell_other _ _ _ _ (by simp)]; exact h1
 exact ⟨e0, by rw [World.cell?_setCell_other _ _ _ _ (by simp)]; exact e0, World.cell?_setCell_same _ _ _ e1⟩

/-- A made row of zeros. -/
theorem made_zeros (n : Nat) : madeCells #[Value.int .i64 0] n = ints (List.replicate n 0) := by
 apply Array.ext'
 rw [toList_madeCells_one]
 simp [ints]

theorem Try.info64 : (Try.prog.info? 2).map (fun i => (i.zero, i.size, i.bytes)) = some (some (.int .i64 0), 1, 8) := by kernel_rfl

/-- The numbers of a slice of int64 that came in. -/
theorem rd_of_row {w : World} {a : Option Addr} {len cap : Nat} {zs : List Int}
  (h : (a = none ∧ len = 0 ∧ cap = 0 ∧ zs = []) ∨
   ∃ x, a = some x ∧ len ≤ cap ∧ cap ≤ maxLen ∧ zs.length = cap ∧ (∀ i, i < zs.length → w.cell? (x.add i) = some (.int .i64 (zs.getD i 0))) ∧ ∀ n ∈ zs, (Lit.int .i64 n).wf = true) :
  Rd w a len (zs.take len) := by
 rcases h with ⟨rfl, rfl, rfl, rfl⟩ | ⟨x, rfl, hl, hm, hz, hc, _⟩
 ·exact ⟨rfl, by omega, fun k hk => by omega⟩
 ·unfold maxLen at hm
  refine ⟨by simp; omega, by omega, fun k hk => ?_⟩
  have h0 := hc k (by omega)
  obtain ⟨g, off, spot⟩ := x
  have hs : spot = none := by simpa [Addr.add] using World.cell?_spot (hc 0 (by omega))
  subst hs
  rw [Addr.add_lit] at h0
  refine ⟨g, off, rfl, ?_⟩
  rw [h0]
  simp [List.getD_eq_getElem?_getD, hk]

theorem rd_new {w : World} {g : Nat} {xs : List Int} {n : Nat} (h : Blk w g xs) (hn : xs.length = n) (hm : n ≤ 2000000) : Rd w (some ⟨g, 0, none⟩) n xs := by
 subst hn; exact (Sl.ofBlk h (by omega)).rd

theorem sl_new {w : World} {g : Nat} {xs : List Int} {n : Nat} (h : Blk w g xs) (hn : xs.length = n) (hm : n ≤ 2000000) : Sl w (some ⟨g, 0, none⟩) n n xs := by
 subst hn; exact Sl.ofBlk h (by omega)

/-! The same, in few words: facts that are hidden from the walk, carried to the next world. -/
theorem kc {w w' : World} {p : Addr} {v : Value} (k : Kept [] w w') (h : Hid (w.cell? p = some v)) : Hid (w'.cell? p = some v) := Lib.hid (k.cell h.out (by simp))
end Go.Proofs.Ytakomjocihlacaa

namespace Go.Proofs.Ytakomjocihlacaa
open Go.RowKit

/-- A call that answers a slice in a new block. -/
def NewS (w : World) (xs : List Int) (e : Ending) (w' : World) : Prop :=
 ∃ g, e = .returned (.slice (some ⟨g, 0, none⟩) xs.length xs.length) ∧ w.heap.size ≤ g ∧ Blk w' g xs ∧ Kept [] w w'

theorem set_part (xs : List Int) (n k : Nat) (hk : k < n) (hx : xs.length = n) :
  (xs.take k ++ List.replicate (n - k) 0).set k (xs.getD k 0) = xs.take (k + 1) ++ List.replicate (n - (k + 1)) 0 := by
 subst hx
 rw [List.set_append]
 simp only [List.length_take, Nat.min_eq_left (Nat.le_of_lt hk)]
 rw [if_neg (Nat.lt_irrefl k), Nat.sub_self]
 obtain ⟨m, hm⟩ : ∃ m, xs.length - k = m + 1 := ⟨xs.length - k - 1, by omega⟩
 rw [hm, show xs.length - (k + 1) = m by omega, List.replicate_succ]
 rw [List.take_succ_eq_append_getElem hk, List.append_assoc]
 congr 1
 simp [List.getD_eq_getElem?_getD, hk]

set_option maxHeartbeats 400000 in
theorem toInt64S_any (a : Option Addr) (n c : Nat) (xs : List Int) (w : World) (h : Rd w a n xs) (hn : n ≤ 2000000) :
  Calls Try.prog 15 #[.slice a n c] w (NewS w xs) := by
 obtain ⟨i0, hi, hz0, hz1, hz2⟩ := info_parts Try.info64
 have hlen := h.1
 have hmk := fun (w : World) => run_make_row (P := Try.prog) 22 2 i0 (.int .i64 0) Try.underlying22 hi hz0 hz1 rfl .i64 .i64 n (by rw [hz2]; omega) (by omega) w
 have hb0 := Blk.new w (List.replicate n 0)
 rw [← made_zeros] at hb0
 have HB := Lib.hid hb0
 have HR := Lib.hid h
 have HL := Lib.hid hlen
 clear hb0 h hlen hi hz0 hz1 hz2
 go_enter Try.func15, Try.ntmps15
 go_wp2
 go_loopw [4] (fun i wr => ∃ k : Nat, k ≤ n ∧ i = .int .i64 k ∧ Hid (Blk wr w.heap.size (xs.take k ++ List.replicate (n - k) 0)) ∧ Hid (Kept [] w wr)) (fun i _ => n - (intOf i).toNat)
 case atStart => exact ⟨0, Nat.zero_le _, rfl, (by have := HB.out; simpa using this : Blk _ _ _), (Kept.refl [] w).alloc _⟩
 case round =>
  obtain ⟨k, hk, rfl, hB, hK⟩ := hrel
  by_cases hlt : k < n
  ·obtain ⟨g, off, rfl, hc0⟩ := HR.out.2.2 k hlt
   have hc := hK.out.cell hc0 (by simp)
   have hlen2 : (xs.take k ++ List.replicate (n - k) (0 : Int)).length = n := by have := HL.out; simp; omega
   have hd := hB.out.cell (j := k) (by omega)
   have hf := hB.out.frozen k
   have hnew := hB.out.set k (xs.getD k 0)
   rw [set_part xs n k hlt HL.out] at hnew
   have HN := Lib.hid hnew
   have hK2 : Hid (Kept [] w (wr.setCell ⟨w.heap.size, k, none⟩ (.int .i64 (xs.getD k 0)))) := hK.out.setCell _ _ (by simp)
   clear hc0 hnew hlen2 hB hK
   go_wp2
   go_roundw
   case rel => exact ⟨k + 1, by omega, by go_num, HN.out, hK2⟩
   case measure => simp [intOf]; omega
  ·obtain rfl : k = n := by omega
   have hx : xs.take k ++ List.replicate (k - k) 0 = xs := by rw [Nat.sub_self, List.replicate_zero, List.append_nil, List.take_of_length_le (Nat.le_of_eq HL.out)]
   have hB2 : Blk wr w.heap.size xs := by have := hB.out; rwa [hx] at this
   have HB2 := Lib.hid hB2
   clear hx hB2 hB
   go_wp2
   go_ret
   exact ⟨w.heap.size, by rw [HL.out]; rfl, Nat.le_refl _, HB2.out, hK.out⟩

/-- A call that answers v and changes nothing that was there. -/
def Ans (w : World) (v : Value) (e : Ending) (w' : World) : Prop := e = .returned v ∧ Kept [] w w'

set_option maxHeartbeats 400000 in
theorem eqInt64S_yes (a b : Option Addr) (n c c' : Nat) (xs : List Int) (w : World) (h : Rd w a n xs) (h' : Rd w b n xs) :
  Calls Try.prog 18 #[.slice a n c, .slice b n c'] w (Ans w (.bool true)) := by
 have hlen := h.1
 have hmax := h.2.1
 have HR := Lib.hid h
 have HR' := Lib.hid h'
 have HL := Lib.hid hlen
 clear h h' hlen
 go_enter Try.func18, Try.ntmps18
 go_wp2
 go_loopw [5] (fun i wr => ∃ k : Nat, k ≤ n ∧ i = .int .i64 k ∧ Hid (Kept [] w wr)) (fun i _ => n - (intOf i).toNat)
 case atStart => exact ⟨0, Nat.zero_le _, rfl, Kept.refl [] w⟩
 case round =>
  obtain ⟨k, hk, rfl, hK⟩ := hrel
  by_cases hlt : k < n
  ·obtain ⟨g, off, rfl, hc0⟩ := HR.out.2.2 k hlt
   obtain ⟨g', off', rfl, hc0'⟩ := HR'.out.2.2 k hlt
   have hc := hK.out.cell hc0 (by simp)
   have hc' := hK.out.cell hc0' (by simp)
   clear hc0 hc0'
   go_wp2
   go_quiet (fail)
   have hK2 : Hid (Kept [] w (wr.drewN nq)) := hK.out.drewN _
   clear hK
   go_wp2
   go_roundw
   case rel => exact ⟨k + 1, by omega, by go_num, hK2⟩
   case measure => simp [intOf]; omega
  ·go_wp2
   go_ret
   exact ⟨rfl, hK.out⟩

/-- Each number is not above the one behind it, below place k. -/
def OrdTo (xs : List Int) (k : Nat) : Prop := ∀ i, i + 1 < k → xs.getD i 0 ≤ xs.getD (i + 1) 0

set_option maxHeartbeats 400000 in
theorem inOrder_any (a : Option Addr) (n c : Nat) (xs : List Int) (w : World) (h : Rd w a n xs) (b : Bool) (hb : b = true ↔ OrdTo xs n) :
  Calls Try.prog 36 #[.slice a n c] w (Ans w (.bool b)) := by
 have hlen := h.1
 have hmax := h.2.1
 have HR := Lib.hid h
 have HL := Lib.hid hlen
 have HB := Lib.hid hb
 clear h hlen hb
 go_enter Try.func36, Try.ntmps36
 go_wp2
 go_loopw [3] (fun i wr => ∃ k : Nat, 1 ≤ k ∧ (k ≤ n ∨ k = 1) ∧ i = .int .i64 k ∧ Hid (OrdTo xs k) ∧ Hid (Kept [] w wr)) (fun i _ => n - (intOf i).toNat)
 case atStart => exact ⟨1, Nat.le_refl _, Or.inr rfl, rfl, fun i hi => by omega, Kept.refl [] w⟩
 case round =>
  obtain ⟨k, hk1, hk, rfl, hO, hK⟩ := hrel
  by_cases hlt : k < n
  ·obtain ⟨g, off, rfl, hc0⟩ := HR.out.2.2 k hlt
   obtain ⟨g', off', he, hc0'⟩ := HR.out.2.2 (k - 1) (by omega)
   simp at he
   obtain ⟨rfl, rfl⟩ := he
   have hc := hK.out.cell hc0 (by simp)
   have hc' := hK.out.cell hc0' (by simp)
   have e1 : IntKind.i64.wrap ((k : Int) - 1) = (k : Int) - 1 := IntWalk.i64_in _ (by omega)
   have hlt1 : k - 1 < n := by omega
   have hlt2 : (k : Int) - 1 < n := by omega
   have hnn : (1 : Int) ≤ k := by omega
   have hcm : k ≤ 9223372036854775807 := by omega
   clear hc0 hc0' hk
   by_cases hle : xs.getD (k - 1) 0 ≤ xs.getD k 0
   ·have hle' : ¬ xs.getD k 0 < xs.getD (k - 1) 0 := by omega
    have hO2 : Hid (OrdTo xs (k + 1)) := fun i hi => by
     by_cases he : i + 1 < k
     ·exact hO.out i he
     ·obtain rfl : i = k - 1 := by omega
      rw [Nat.sub_add_cancel hk1]; exact hle
    generalize hy : xs.getD (k - 1) 0 = y at *
    generalize hz : xs.getD k 0 = z at *
    have HY := Lib.hid hy
    have HZ := Lib.hid hz
    clear hy hz
    go_wp2
    go_quiet (fail)
    have hK2 : Hid (Kept [] w (wr.drewN nq)) := hK.out.drewN _
    clear hK
    go_wp2
    go_roundw
    case rel => exact ⟨k + 1, by omega, Or.inl (by omega), by go_num, hO2, hK2⟩
    case measure => simp [intOf]; omega
   ·have hle' : xs.getD k 0 < xs.getD (k - 1) 0 := by omega
    have hf : Hid (b = false) := by
     cases b with
     | false => exact rfl
     | true =>
      have := HB.out.1 rfl (k - 1) (by omega)
      rw [Nat.sub_add_cancel hk1] at this
      omega
    generalize hy : xs.getD (k - 1) 0 = y at *
    generalize hz : xs.getD k 0 = z at *
    have HY := Lib.hid hy
    have HZ := Lib.hid hz
    clear hy hz
    go_wp2
    go_quiet (fail)
    have hK2 : Hid (Kept [] w (wr.drewN nq)) := hK.out.drewN _
    clear hK
    go_wp2
    go_ret
    exact ⟨by rw [hf.out]; rfl, hK2.out⟩
  ·have ht : Hid (b = true) := HB.out.2 (fun i hi => hO.out i (by omega))
   go_wp2
   go_ret
   exact ⟨by rw [ht.out]; rfl, hK.out⟩

end Go.Proofs.Ytakomjocihlacaa

namespace Go.Proofs.Ytakomjocihlacaa

/-- Each of the first k numbers is a limb. -/
def LimbsTo (xs : List Int) (k : Nat) : Prop := ∀ i, i < k → 0 ≤ xs.getD i 0 ∧ xs.getD i 0 ≤ 65535
instance (xs : List Int) (k : Nat) : Decidable (LimbsTo xs k) := inferInstanceAs (Decidable (∀ i, i < k → _))

/-- The code that NatFault tells. -/
def natFault (xs : List Int) : Int :=
 if 40 < xs.length then 2 else if ¬ LimbsTo xs xs.length then 3 else if 0 < xs.length ∧ xs.getD (xs.length - 1) 0 = 0 then 1 else 0

theorem natFault_many {xs : List Int} (h : 40 < xs.length) : natFault xs = 2 := by unfold natFault; rw [if_pos h]
theorem natFault_range {xs : List Int} (h : ¬ 40 < xs.length) (k : Nat) (hk : k < xs.length) (hb : ¬ (0 ≤ xs.getD k 0 ∧ xs.getD k 0 ≤ 65535)) : natFault xs = 3 := by
 unfold natFault; rw [if_neg h, if_pos (fun hl => hb (hl k hk))]
theorem natFault_form {xs : List Int} (h : ¬ 40 < xs.length) (hl : LimbsTo xs xs.length) (hp : 0 < xs.length) (hz : xs.getD (xs.length - 1) 0 = 0) : natFault xs = 1 := by
 unfold natFault; rw [if_neg h, if_neg (fun hn => hn hl), if_pos ⟨hp, hz⟩]
theorem natFault_ok {xs : List Int} (h : ¬ 40 < xs.length) (hl : LimbsTo xs xs.length) (hz : 0 < xs.length → xs.getD (xs.length - 1) 0 ≠ 0) : natFault xs = 0 := by
 unfold natFault; rw [if_neg h, if_neg (fun hn => hn hl), if_neg (fun hn => hz hn.1 hn.2)]

/-- A list of numbers that is a natural: at most 40 limbs, none but 0 to 65535, no 0 at the top. -/
structure Nat40 (xs : List Int) : Prop where
 len : xs.length ≤ 40
 limb : LimbsTo xs xs.length
 top : 0 < xs.length → xs.getD (xs.length - 1) 0 ≠ 0

theorem natFault_zero {xs : List Int} (h : natFault xs = 0) : Nat40 xs := by
 unfold natFault at h
 by_cases h1 : 40 < xs.length
 ·rw [if_pos h1] at h; omega
 rw [if_neg h1] at h
 by_cases h2 : LimbsTo xs xs.length
 ·rw [if_neg (fun hn => hn h2)] at h
  by_cases h3 : 0 < xs.length ∧ xs.getD (xs.length - 1) 0 = 0
  ·rw [if_pos h3] at h; omega
  ·exact ⟨by omega, h2, fun hp hz => h3 ⟨hp, hz⟩⟩
 ·rw [if_pos h2] at h; omega
/-- The number of n limbs that a function gives, the lowest first. -/
def vf (f : Nat → Int) : Nat → Int
 | 0 => 0
 | n + 1 => f 0 + 65536 * vf (fun i => f (i + 1)) n

theorem vf_congr : ∀ (n : Nat) (f g : Nat → Int), (∀ i, i < n → f i = g i) → vf f n = vf g n
 | 0, _, _, _ => rfl
 | n + 1, f, g, h => by
  have := vf_congr n (fun i => f (i + 1)) (fun i => g (i + 1)) (fun i hi => h (i + 1) (by omega))
  simp only [vf, h 0 (by omega), this]

/-- The number whose limbs a list holds, the lowest first. -/
def val : List Int → Int
 | [] => 0
 | x :: xs => x + 65536 * val xs

theorem vf_val : ∀ (xs : List Int) (n : Nat), xs.length ≤ n → vf (fun i => xs.getD i 0) n = val xs
 | [], n, _ => by
  have : ∀ n, vf (fun i => ([] : List Int).getD i 0) n = 0 := by
   intro n
   induction n with
   | zero => rfl
   | succ n ih => simp only [vf] at *; simp at ih ⊢; omega
  rw [this, val]
 | x :: xs, 0, h => by simp at h
 | x :: xs, n + 1, h => by
  have := vf_val xs n (by simpa using h)
  simp only [vf, val]
  simp at this ⊢
  omega

/-- What is less at the highest place where two numbers differ is less. -/
theorem vf_lt : ∀ (n : Nat) (f g : Nat → Int) (i : Nat), i < n → (∀ j, i < j → j < n → f j = g j) → f i < g i →
  (∀ j, j < n → 0 ≤ f j ∧ f j ≤ 65535) → (∀ j, j < n → 0 ≤ g j ∧ g j ≤ 65535) → vf f n < vf g n
 | 0, _, _, _, hi, _, _, _, _ => by omega
 | n + 1, f, g, 0, _, he, hl, _, _ => by
  have := vf_congr n (fun i => f (i + 1)) (fun i => g (i + 1)) (fun i hi => he (i + 1) (by omega) (by omega))
  simp only [vf, this]; omega
 | n + 1, f, g, i + 1, hi, he, hl, hf, hg => by
  have := vf_lt n (fun i => f (i + 1)) (fun i => g (i + 1)) i (by omega) (fun j h1 h2 => he (j + 1) (by omega) (by omega)) hl (fun j hj => hf (j + 1) (by omega)) (fun j hj => hg (j + 1) (by omega))
  have h1 := hf 0 (by omega)
  have h2 := hg 0 (by omega)
  simp only [vf]; omega

theorem limb_getD {xs : List Int} (h : LimbsTo xs xs.length) (i : Nat) : 0 ≤ xs.getD i 0 ∧ xs.getD i 0 ≤ 65535 := by
 by_cases hi : i < xs.length
 ·exact h i hi
 ·rw [List.getD_eq_getElem?_getD, List.getElem?_eq_none (by omega)]; simp

theorem val_lt_at {xs ys : List Int} (hx : LimbsTo xs xs.length) (hy : LimbsTo ys ys.length) (n i : Nat) (hi : i < n) (h1 : xs.length ≤ n) (h2 : ys.length ≤ n)
  (he : ∀ j, i < j → j < n → xs.getD j 0 = ys.getD j 0) (hl : xs.getD i 0 < ys.getD i 0) : val xs < val ys := by
 rw [← vf_val xs n h1, ← vf_val ys n h2]
 exact vf_lt n _ _ i hi he hl (fun j _ => limb_getD hx j) (fun j _ => limb_getD hy j)
theorem val_eq_at {xs ys : List Int} (n : Nat) (h1 : xs.length ≤ n) (h2 : ys.length ≤ n)
  (he : ∀ j, j < n → xs.getD j 0 = ys.getD j 0) : val xs = val ys := by
 rw [← vf_val xs n h1, ← vf_val ys n h2]
 exact vf_congr n _ _ he

/-- Which of two numbers is the less. -/
def cmpV (x y : Int) : Int := if x < y then -1 else if y < x then 1 else 0
theorem cmpV_lt {x y : Int} (h : x < y) : cmpV x y = -1 := if_pos h
theorem cmpV_gt {x y : Int} (h : y < x) : cmpV x y = 1 := by unfold cmpV; rw [if_neg (by omega), if_pos h]
theorem cmpV_eq {x y : Int} (h : x = y) : cmpV x y = 0 := by unfold cmpV; rw [if_neg (by omega), if_neg (by omega)]

theorem val_lt_len {xs ys : List Int} (hx : Nat40 xs) (hy : Nat40 ys) (h : xs.length < ys.length) : val xs < val ys := by
 refine val_lt_at hx.limb hy.limb ys.length (ys.length - 1) (by omega) (by omega) (Nat.le_refl _) (fun j h1 h2 => by omega) ?_
 have h1 := hy.top (by omega)
 have h2 := limb_getD hy.limb (ys.length - 1)
 have h3 : xs.getD (ys.length - 1) 0 = 0 := by rw [List.getD_eq_getElem?_getD, List.getElem?_eq_none (by omega)]; rfl
 omega

/-- The limbs of a number, the lowest first; so many at most. -/
def digitsF : Nat → Int → List Int
 | 0, _ => []
 | f + 1, n => if n ≤ 0 then [] else (n % 65536) :: digitsF f (n / 65536)
def digits (n : Int) : List Int := digitsF n.toNat n

theorem digitsF_zero (f : Nat) (n : Int) (h : n ≤ 0) : digitsF f n = [] := by
 cases f with
 | zero => rfl
 | succ f => simp only [digitsF]; rw [if_pos h]
theorem digitsF_fuel : ∀ (f g : Nat) (n : Int), n.toNat ≤ f → n.toNat ≤ g → digitsF f n = digitsF g n
 | 0, g, n, hf, _ => by rw [digitsF_zero g n (by omega)]; rfl
 | f + 1, 0, n, _, hg => by rw [digitsF_zero (f + 1) n (by omega)]; rfl
 | f + 1, g + 1, n, hf, hg => by
  simp only [digitsF]
  by_cases h : n ≤ 0
  ·rw [if_pos h, if_pos h]
  ·rw [if_neg h, if_neg h, digitsF_fuel f g (n / 65536) (by omega) (by omega)]
theorem digits_zero {n : Int} (h : n ≤ 0) : digits n = [] := digitsF_zero _ n h
theorem digits_pos {n : Int} (h : 0 < n) : digits n = (n % 65536) :: digits (n / 65536) := by
 unfold digits
 obtain ⟨f, hf⟩ : ∃ f, n.toNat = f + 1 := ⟨n.toNat - 1, by omega⟩
 rw [hf]
 simp only [digitsF]
 rw [if_neg (by omega), digitsF_fuel f (n / 65536).toNat (n / 65536) (by omega) (by omega)]

/-- So many places: 65536 to the power of k. -/
def pw : Nat → Int
 | 0 => 1
 | k + 1 => 65536 * pw k
theorem pw_pos : ∀ k, 1 ≤ pw k
 | 0 => by simp [pw]
 | k + 1 => by have := pw_pos k; simp only [pw]; omega
theorem pw_mono : ∀ (i j : Nat), i ≤ j → pw i ≤ pw j
 | 0, j, _ => by have := pw_pos j; simp only [pw]; omega
 | i + 1, 0, h => by omega
 | i + 1, j + 1, h => by have := pw_mono i j (by omega); simp only [pw]; omega

theorem digits_len : ∀ (k : Nat) (n : Int), n < pw k → (digits n).length ≤ k
 | 0, n, h => by simp only [pw] at h; rw [digits_zero (by omega)]; simp
 | k + 1, n, h => by
  by_cases hn : 0 < n
  ·rw [digits_pos hn]
   simp only [pw] at h
   have := digits_len k (n / 65536) (by omega)
   simp only [List.length_cons]; omega
  ·rw [digits_zero (by omega)]; simp

/-- A list of limbs, each 0 to 65535, with no 0 at the top. -/
def Canon : List Int → Prop
 | [] => True
 | x :: xs => 0 ≤ x ∧ x ≤ 65535 ∧ Canon xs ∧ (xs = [] → x ≠ 0)

theorem canon_nonneg : ∀ {xs : List Int}, Canon xs → 0 ≤ val xs ∧ (xs ≠ [] → 0 < val xs)
 | [], _ => by simp [val]
 | x :: xs, h => by
  obtain ⟨h1, h2, h3, h4⟩ := h
  obtain ⟨i1, i2⟩ := canon_nonneg h3
  simp only [val]
  refine ⟨by omega, fun _ => ?_⟩
  by_cases e : xs = []
  ·have := h4 e; subst e; simp only [val] at *; omega
  ·have := i2 e; omega
theorem digits_val : ∀ {xs : List Int}, Canon xs → digits (val xs) = xs
 | [], _ => digits_zero (by simp [val])
 | x :: xs, h => by
  have h0 := (canon_nonneg h).2 (by simp)
  obtain ⟨h1, h2, h3, h4⟩ := h
  have ih := digits_val h3
  have i1 := (canon_nonneg h3).1
  rw [digits_pos h0]
  simp only [val]
  rw [show (x + 65536 * val xs) % 65536 = x by omega, show (x + 65536 * val xs) / 65536 = val xs by omega, ih]
theorem val_digits : ∀ (f : Nat) (n : Int), n.toNat ≤ f → 0 ≤ n → val (digits n) = n
 | 0, n, hf, h => by rw [digits_zero (by omega)]; simp [val]; omega
 | f + 1, n, hf, h => by
  by_cases hn : 0 < n
  ·rw [digits_pos hn]
   simp only [val]
   rw [val_digits f (n / 65536) (by omega) (by omega)]; omega
  ·rw [digits_zero (by omega)]; simp [val]; omega
theorem val_digits' {n : Int} (h : 0 ≤ n) : val (digits n) = n := val_digits n.toNat n (Nat.le_refl _) h
theorem canon_digits : ∀ (f : Nat) (n : Int), n.toNat ≤ f → Canon (digits n)
 | 0, n, hf => by rw [digits_zero (by omega)]; trivial
 | f + 1, n, hf => by
  by_cases hn : 0 < n
  ·rw [digits_pos hn]
   refine ⟨by omega, by omega, canon_digits f (n / 65536) (by omega), fun e => ?_⟩
   by_cases h2 : 0 < n / 65536
   ·rw [digits_pos h2] at e; cases e
   ·omega
  ·rw [digits_zero (by omega)]; trivial
theorem canon_digits' (n : Int) : Canon (digits n) := canon_digits n.toNat n (Nat.le_refl _)

theorem canon_of_get : ∀ (xs : List Int), (∀ i, i < xs.length → 0 ≤ xs.getD i 0 ∧ xs.getD i 0 ≤ 65535) → (0 < xs.length → xs.getD (xs.length - 1) 0 ≠ 0) → Canon xs
 | [], _, _ => trivial
 | x :: xs, h, ht => by
  have h0 := h 0 (by simp)
  refine ⟨by simpa using h0.1, by simpa using h0.2, canon_of_get xs (fun i hi => by have := h (i + 1) (by simpa using hi); simpa using this) (fun hp => ?_), fun e => ?_⟩
  ·have := ht (by simp)
   obtain ⟨k, hk⟩ : ∃ k, xs.length = k + 1 := ⟨xs.length - 1, by omega⟩
   simp only [List.length_cons, hk] at this ⊢
   simpa using this
  ·subst e; simpa using ht (by simp)
theorem Nat40.canon {xs : List Int} (h : Nat40 xs) : Canon xs := canon_of_get xs h.limb h.top
theorem canon_get : ∀ {xs : List Int}, Canon xs → LimbsTo xs xs.length ∧ (0 < xs.length → xs.getD (xs.length - 1) 0 ≠ 0)
 | [], _ => ⟨fun i hi => by simp at hi, fun h => by simp at h⟩
 | x :: xs, h => by
  obtain ⟨h1, h2, h3, h4⟩ := h
  obtain ⟨i1, i2⟩ := canon_get h3
  refine ⟨fun i hi => ?_, fun _ => ?_⟩
  ·cases i with
   | zero => simpa using ⟨h1, h2⟩
   | succ i => simpa using i1 i (by simpa using hi)
  ·cases xs with
   | nil => simpa using h4 rfl
   | cons y ys => simpa using i2 (by simp)
theorem nat40_of_canon {xs : List Int} (h : Canon xs) (hl : xs.length ≤ 40) : Nat40 xs := ⟨hl, (canon_get h).1, (canon_get h).2⟩

end Go.Proofs.Ytakomjocihlacaa

namespace Go.Proofs.Ytakomjocihlacaa
open Go.RowKit

/-- The call owns, from block B on, a slice that holds the numbers xs. -/
def Ow (B : Nat) (w : World) (v : Value) (xs : List Int) : Prop := w.ownsRow B 2 1 v xs.length (xs.map (Value.int .i64))
theorem Ow.alloc {B : Nat} {w : World} {v : Value} {xs : List Int} (h : Ow B w v xs) (o : Obj) : Ow B (w.alloc o) v xs := World.ownsRow.alloc h o
theorem Ow.sl {B : Nat} {w : World} {v : Value} {xs : List Int} (h : Ow B w v xs) : ∃ a c, v = .slice a xs.length c ∧ Sl w a xs.length c xs ∧ Fr B a xs.length := by
 obtain ⟨a, c, h1, h2, h3, _⟩ := sl_of_owns h; exact ⟨a, c, h1, h2, h3⟩
theorem Ow.nil (B : Nat) (w : World) : Ow B w (.slice none 0 0) [] := World.ownsRow_nil w B 2 1
theorem Ow.empty (B : Nat) (w : World) (hB : B ≤ w.heap.size) : Ow B (w.alloc (.cells #[] 2)) (.slice (some ⟨w.heap.size, 0, none⟩) 0 0) [] :=
 World.ownsRow_made (e := 2) (size := 1) w #[] 0 hB (Nat.zero_le _) rfl
theorem Ow.kept {B : Nat} {w w' : World} {v : Value} {xs : List Int} {L : List Nat} (h : Ow B w v xs) (k : Kept L w w') (hL : ∀ g, v.ownBlock = some g → g ∉ L) : Ow B w' v xs := by
 have hlt := World.ownsRow.lt h
 obtain ⟨h1, h2⟩ := h
 refine ⟨h1, ?_⟩
 rcases h2 with h2 | ⟨g, cap, cur, hv, hg, hh, r⟩
 ·exact Or.inl h2
 ·exact Or.inr ⟨g, cap, cur, hv, hg, by rw [k.block g (hlt g (by rw [hv]; rfl)).2 (hL g (by rw [hv]; rfl))]; exact hh, r⟩
theorem Ow.kept0 {B : Nat} {w w' : World} {v : Value} {xs : List Int} (h : Ow B w v xs) (k : Kept [] w w') : Ow B w' v xs := h.kept k (by simp)
theorem Ow.mono {B B' : Nat} {w : World} {v : Value} {xs : List Int} (h : Ow B w v xs) (hB : B' ≤ B) : Ow B' w v xs := by
 obtain ⟨h1, h2⟩ := h
 refine ⟨h1, ?_⟩
 rcases h2 with h2 | ⟨g, cap, cur, hv, hg, r⟩
 ·exact Or.inl h2
 ·exact Or.inr ⟨g, cap, cur, hv, Nat.le_trans hB hg, r⟩

/-- One number more at the end of a slice that the call owns. -/
theorem app1 {w : World} {ops : Array Oper} {rest : List Oper} {o : Oper} {a : Act} {Q : Exit → Act → World → Prop} (hgd : o.guard = none) (s x : Operand)
  (ho : o.op = .call { callee := .builtin .append, args := #[s, x], argTypes := #[22, 22] })
  (base : Nat) (v : Value) (xs : List Int) (hs : a.eval s = v) (hown : Ow base w v xs)
  (g0 : Nat) (y : Int) (hx : a.eval x = .slice (some ⟨g0, 0, none⟩) 1 1) (hc : w.cell? ⟨g0, 0, none⟩ = some (.int .i64 y))
  (hlen : xs.length ≤ 1099511627776) (hbase : base ≤ w.heap.size)
  (h : ∀ v' w', Ow base w' v' (xs ++ [y]) → w.grownBy w' v.ownBlock → wpList Try.prog ops Q rest (a.put o.dst v') w') :
  wpList Try.prog ops Q (o :: rest) a w := by
 obtain ⟨i0, hi, hz0, hz1, hz2⟩ := info_parts Try.info64
 refine wpList_append_own w hgd s x 22 ho base 2 i0 (.int .i64 0) 1 8 Try.underlying22 hi hz0 hz1 hz2 rfl (by decide) v xs.length _ hs hown ⟨g0, 0, none⟩ 1 1 [.int .i64 y] hx rfl ?_ ?_ ?_ ?_ hbase ?_
 ·intro j u hj
  have hj0 : j = 0 := by
   have := (List.getElem?_eq_some_iff.1 hj).1
   simp at this; exact this
  subst hj0
  simp at hj
  subst hj
  rw [Addr.add_lit]; exact hc
 ·intro u hu; simp at hu; subst hu; rfl
 ·unfold maxLen; omega
 ·omega
 ·intro v' w' h1 h2 _
  refine h v' w' ?_ h2
  have e : (xs ++ [y]).length = xs.length + 1 := by simp
  unfold Ow
  rw [e, List.map_append]
  exact h1

/-- A call that answers a slice in memory of its own. -/
def SlR (w : World) (xs : List Int) (e : Ending) (w' : World) : Prop :=
 ∃ v, e = .returned v ∧ Ow w.heap.size w' v xs ∧ Kept [] w w'

/-- What happens to a slice of the call's own when memory grows by an append to it. -/
theorem kept_grown {L : List Nat} {w wr w' : World} {base : Nat} {v : Value} {xs : List Int} (h : Kept L w wr) (hown : Ow base wr v xs) (hg : wr.grownBy w' v.ownBlock) (hb : w.heap.size ≤ base) : Kept L w w' :=
 h.grown hg (fun k hk hlt => by have := (World.ownsRow.lt hown k hk).1; omega)

end Go.Proofs.Ytakomjocihlacaa

namespace Go.Proofs.Ytakomjocihlacaa
open Go.RowKit

/-- The block that a slice of n elements lies in. -/
def blkOf (a : Option Addr) (n : Nat) : List Nat := if n = 0 then [] else match a with | some x => [x.block] | none => []
theorem blkOf_mem {a : Option Addr} {n k : Nat} (h : k ∈ blkOf a n) : 0 < n ∧ ∃ x, a = some x ∧ x.block = k := by
 unfold blkOf at h
 split at h
 ·cases h
 ·cases a with
  | none => cases h
  | some x => simp at h; exact ⟨by omega, x, rfl, h.symm⟩

end Go.Proofs.Ytakomjocihlacaa

namespace Go.Proofs.Ytakomjocihlacaa
open Go.RowKit

/-- A call that answers a big in a new block. -/
def NewB (w : World) (b : Bool) (xs : List Int) (e : Ending) (w' : World) : Prop :=
 ∃ g, e = .returned (.agg #[.bool b, .slice (some ⟨g, 0, none⟩) xs.length xs.length]) ∧ w.heap.size ≤ g ∧ Blk w' g xs ∧ Kept [] w w'

theorem Kept.peel {L : List Nat} {w w1 : World} {o : Obj} (hk : Kept L (w.alloc o) w1) : Kept L w w1 :=
 ((Kept.refl L w).alloc o).trans hk (fun _ hx _ => hx)
/-- A cell of the block that was made last, behind whatever leaves it alone. -/
theorem Kept.top {L : List Nat} {w w1 : World} {c : Array Value} {T : TypeId} (hk : Kept L (w.alloc (.cells c T)) w1) {g : Nat} (hb : w.heap.size = g) (hL : g ∉ L) (i : Nat) {v : Value} (hv : c[i]? = some v) :
  w1.cell? ⟨g, i, none⟩ = some v ∧ w1.frozen? ⟨g, i, none⟩ = false ∧ g < w1.heap.size := by
 subst hb
 have h := hk.size
 rw [World.size_alloc] at h
 refine ⟨hk.cell (p := ⟨w.heap.size, i, none⟩) (by rw [World.cell?_alloc_new]; exact hv) hL, hk.free (p := ⟨w.heap.size, i, none⟩) ?_ (by simp) hL, by omega⟩
 exact frozen_of_row _ _ _ _ _ (heap_alloc_new w _)

/-! The cells of a block that was just made, and that they are free, all at once. -/
theorem tp2 {L : List Nat} {w w1 : World} {v0 v1 : Value} {T : TypeId} (hk : Kept L (w.alloc (.cells #[v0, v1] T)) w1) {g : Nat} (hb : w.heap.size = g) (hL : g ∉ L) :
  (Hid (w1.cell? ⟨g, 0, none⟩ = some v0) ∧ Hid (w1.cell? ⟨g, 1, none⟩ = some v1)) ∧ (Hid (w1.frozen? ⟨g, 0, none⟩ = false) ∧ Hid (w1.frozen? ⟨g, 1, none⟩ = false)) :=
 ⟨⟨Lib.hid (hk.top hb hL 0 rfl).1, Lib.hid (hk.top hb hL 1 rfl).1⟩, ⟨Lib.hid (hk.top hb hL 0 rfl).2.1, Lib.hid (hk.top hb hL 1 rfl).2.1⟩⟩
set_option maxHeartbeats 1000000 in
theorem toBig_any (b : Bool) (a : Option Addr) (n c : Nat) (xs : List Int) (w : World) (h : Rd w a n xs) (hn : n ≤ 2000000) :
  Calls Try.prog 6 #[.agg #[.bool b, .slice a n c]] w (NewB w b xs) := by
 have HR := Lib.hid h
 have HL := Lib.hid h.1
 clear h
 have k0 : Kept [] w (((w.alloc (.cells #[.bool b, .slice a n c] 24)).alloc (.cells #[.bool false, .slice none 0 0] 29)).alloc (.cells #[.bool b, .slice none 0 0] 29)) := (((Kept.refl [] w).alloc _).alloc _).alloc _
 have K0 := Lib.hid k0
 clear k0
 go_enter Try.func6, Try.ntmps6
 go_wp2_with fail
 refine (toInt64S_any _ _ _ _ _ (HR.out.kept0 K0.out) (by omega)).mono ?_
 rintro e w1 ⟨g, rfl, hg, hb, hk⟩
 obtain ⟨c1, _, _⟩ := hk.top (g := w.heap.size + 1 + 1) (by simp) (by simp) 0 rfl
 obtain ⟨c2, f2, _⟩ := hk.top (g := w.heap.size + 1 + 1) (by simp) (by simp) 1 rfl
 obtain ⟨c3, f3, _⟩ := hk.peel.top (g := w.heap.size + 1) (by simp) (by simp) 0 rfl
 obtain ⟨c4, f4, _⟩ := hk.peel.top (g := w.heap.size + 1) (by simp) (by simp) 1 rfl
 have hs := hk.size
 simp only [World.size_alloc] at hs hg
 have HB := Lib.hid hb
 have HK := Lib.hid (K0.out.trans0 hk)
 clear hb hk
 go_wp2_with fail
 have e3 : (w1.setCell ⟨w.heap.size + 1 + 1, 1, none⟩ (.slice (some ⟨g, 0, none⟩) xs.length xs.length)).cell? ⟨w.heap.size + 1, 0, none⟩ = some (.bool false) := by rw [World.cell?_setCell_other _ _ _ _ (by simp)]; exact c3
 have e4 : (w1.setCell ⟨w.heap.size + 1 + 1, 1, none⟩ (.slice (some ⟨g, 0, none⟩) xs.length xs.length)).cell? ⟨w.heap.size + 1, 1, none⟩ = some (.slice none 0 0) := by rw [World.cell?_setCell_other _ _ _ _ (by simp)]; exact c4
 obtain ⟨_, eb, ec⟩ := cells2 (.bool b) (.slice (some ⟨g, 0, none⟩) xs.length xs.length) e3 e4
 refine bodyPost_ret (v := .agg #[.bool b, .slice (some ⟨g, 0, none⟩) xs.length xs.length]) (by simp [results, Try.results6, go_sem, eb, ec]) rfl ⟨g, rfl, by omega, ?_, (((HK.out.setCell _ _ (by simp; omega)).setCell _ _ (by simp)).setCell _ _ (by simp))⟩
 exact ((HB.out.other _ _ (by simp; omega)).other _ _ (by simp; omega)).other _ _ (by simp; omega)


set_option maxHeartbeats 400000 in
theorem szInt64S_yes (a : Option Addr) (n c : Nat) (L : Int) (w : World) (h : (n : Int) ≤ L) (hL : L ≤ 1048576) :
  Calls Try.prog 10 #[.slice a n c, .int .i64 L] w (Ans w (.int .i64 (L - n))) := by
 have h0 : (0 : Int) ≤ L - n := by omega
 have h1 : decide (L - (n : Int) < 0) = false := decide_eq_false (by omega)
 go_enter Try.func10, Try.ntmps10
 go_wp2
 go_ret
 exact ⟨rfl, Kept.refl _ _⟩
set_option maxHeartbeats 400000 in
theorem szInt64S_no (a : Option Addr) (n c : Nat) (L : Int) (w : World) (h : L < n) (h0 : 0 ≤ L) (hn : n ≤ 9223372036854775807) :
  Calls Try.prog 10 #[.slice a n c, .int .i64 L] w (Ans w (.int .i64 (-1))) := by
 have h1 : L - (n : Int) < 0 := by omega
 have h2 : -9223372036854775808 ≤ L - (n : Int) := by omega
 have h3 : IntKind.i64.wrap (L - (n : Int)) = L - (n : Int) := IntWalk.i64_in _ (by omega)
 go_enter Try.func10, Try.ntmps10
 go_wp2
 go_ret
 exact ⟨rfl, Kept.refl _ _⟩

set_option maxHeartbeats 400000 in
theorem szBig_yes (b : Bool) (a : Option Addr) (n c : Nat) (L : Int) (w : World) (h : (n : Int) ≤ L) (hL : L ≤ 1048576) :
  Calls Try.prog 4 #[.agg #[.bool b, .slice a n c], .int .i64 L] w (Ans w (.int .i64 (L - n))) := by
 have h0 : (0 : Int) ≤ L - n := by omega
 have h1 : decide (L - (n : Int) < 0) = false := decide_eq_false (by omega)
 go_enter Try.func4, Try.ntmps4
 go_wp2_with fail
 refine (szInt64S_yes _ _ _ _ _ h hL).mono ?_
 rintro e w1 ⟨rfl, hk⟩
 have HK := Lib.hid (((Kept.refl [] w).alloc _).trans0 hk)
 clear hk
 go_wp2_with fail
 go_ret
 exact ⟨rfl, HK.out⟩
set_option maxHeartbeats 400000 in
theorem szBig_no (b : Bool) (a : Option Addr) (n c : Nat) (L : Int) (w : World) (h : L < n) (h0 : 0 ≤ L) (hn : n ≤ 9223372036854775807) :
  Calls Try.prog 4 #[.agg #[.bool b, .slice a n c], .int .i64 L] w (Ans w (.int .i64 (-1))) := by
 go_enter Try.func4, Try.ntmps4
 go_wp2_with fail
 refine (szInt64S_no _ _ _ _ _ h h0 hn).mono ?_
 rintro e w1 ⟨rfl, hk⟩
 have HK := Lib.hid (((Kept.refl [] w).alloc _).trans0 hk)
 clear hk
 go_wp2_with fail
 go_ret
 exact ⟨rfl, HK.out⟩

set_option maxHeartbeats 400000 in
theorem eqBig_yes (v : Bool) (a b : Option Addr) (n c c' : Nat) (xs : List Int) (w : World) (h : Rd w a n xs) (h' : Rd w b n xs) :
  Calls Try.prog 9 #[.agg #[.bool v, .slice a n c], .agg #[.bool v, .slice b n c']] w (Ans w (.bool true)) := by
 have HR := Lib.hid h
 have HR' := Lib.hid h'
 clear h h'
 have k0 : Kept [] w ((w.alloc (.cells #[.bool v, .slice a n c] 29)).alloc (.cells #[.bool v, .slice b n c'] 29)) := ((Kept.refl [] w).alloc _).alloc _
 have HK0 := Lib.hid k0
 clear k0
 cases v
 all_goals
  go_enter Try.func9, Try.ntmps9
  go_wp2_with fail
  refine (eqInt64S_yes _ _ _ _ _ _ _ (HR.out.kept0 HK0.out) (HR'.out.kept0 HK0.out)).mono ?_
  rintro e w1 ⟨rfl, hq⟩
  have HQ := Lib.hid (HK0.out.trans0 hq)
  clear hq
  go_wp2_with fail
  go_ret
  exact ⟨rfl, HQ.out⟩

theorem Kept.allocH {L : List Nat} {W w : World} {o : Obj} (h : Hid (Kept L W w)) : Hid (Kept L W (w.alloc o)) := Lib.hid (h.out.alloc o)
theorem alloc_cell {w : World} {o : Obj} {p : Addr} {v : Value} (h : w.cell? p = some v) : (w.alloc o).cell? p = some v := ((Kept.refl [] w).alloc o).cell h (by simp)

end Go.Proofs.Ytakomjocihlacaa

namespace Go.Proofs.Ytakomjocihlacaa

/-- The number of the limbs of a list with a number behind the last one. -/
def ap : List Int → Int → Int
 | [], x => x
 | d :: ds, x => d + 65536 * ap ds x
theorem ap_snoc : ∀ (ds : List Int) (d x : Int), ap (ds ++ [d]) x = ap ds (d + 65536 * x)
 | [], _, _ => rfl
 | e :: ds, d, x => by simp only [List.cons_append, ap]; rw [ap_snoc ds d x]
theorem ap_zero : ∀ (ds : List Int), ap ds 0 = val ds
 | [] => rfl
 | d :: ds => by simp only [ap, val]; rw [ap_zero ds]
theorem ap_pw : ∀ (ds : List Int) (x : Int), ap ds x = val ds + pw ds.length * x
 | [], x => by simp [ap, val, pw]
 | d :: ds, x => by
  simp only [ap, val, pw, List.length_cons]
  rw [ap_pw ds x, Int.mul_add, Int.mul_assoc]; omega

/-- Each number of a list is a limb. -/
def AllLimbs (xs : List Int) : Prop := ∀ i, i < xs.length → 0 ≤ xs.getD i 0 ∧ xs.getD i 0 ≤ 65535
theorem AllLimbs.snoc {xs : List Int} (h : AllLimbs xs) {d : Int} (hd : 0 ≤ d ∧ d ≤ 65535) : AllLimbs (xs ++ [d]) := by
 intro i hi
 by_cases e : i < xs.length
 ·have := h i e
  simp only [List.getD_eq_getElem?_getD, List.getElem?_append_left e] at this ⊢; exact this
 ·have : i = xs.length := by simp at hi; omega
  subst this
  simpa [List.getD_eq_getElem?_getD] using hd
theorem AllLimbs.tail {x : Int} {xs : List Int} (h : AllLimbs (x :: xs)) : AllLimbs xs := fun i hi => by
 have := h (i + 1) (by simpa using hi); simpa using this
theorem AllLimbs.head {x : Int} {xs : List Int} (h : AllLimbs (x :: xs)) : 0 ≤ x ∧ x ≤ 65535 := by have := h 0 (by simp); simpa using this
theorem AllLimbs.val : ∀ {xs : List Int}, AllLimbs xs → 0 ≤ val xs ∧ val xs < pw xs.length
 | [], _ => by simp [Proofs.Ytakomjocihlacaa.val, pw]
 | x :: xs, h => by
  have h1 := h.head
  have h2 := h.tail.val
  simp only [Proofs.Ytakomjocihlacaa.val, pw, List.length_cons]
  omega
theorem AllLimbs.take {xs : List Int} (h : AllLimbs xs) (k : Nat) : AllLimbs (xs.take k) := by
 intro i hi
 simp only [List.length_take] at hi
 have := h i (by omega)
 simp only [List.getD_eq_getElem?_getD, List.getElem?_take, show i < k by omega, if_true] at this ⊢; exact this
theorem AllLimbs.drop {xs : List Int} (h : AllLimbs xs) (k : Nat) : AllLimbs (xs.drop k) := by
 intro i hi
 simp only [List.length_drop] at hi
 have := h (k + i) (by omega)
 simp only [List.getD_eq_getElem?_getD, List.getElem?_drop] at this ⊢; exact this

/-- Where the numbers behind place k are all 0, and the one ahead of it is not, the first k are the number's limbs. -/
theorem take_digits {xs : List Int} (h : AllLimbs xs) (k : Nat) (hk : k ≤ xs.length) (hz : ∀ j, k ≤ j → j < xs.length → xs.getD j 0 = 0) (ht : 0 < k → xs.getD (k - 1) 0 ≠ 0) : xs.take k = digits (val xs) := by
 have hl : (xs.take k).length = k := by simp; omega
 have hg : ∀ i, i < k → (xs.take k).getD i 0 = xs.getD i 0 := fun i hi => by
  simp only [List.getD_eq_getElem?_getD, List.getElem?_take, hi, if_true]
 have hc : Canon (xs.take k) := canon_of_get _ (h.take k) (fun hp => by rw [hl] at hp ⊢; rw [hg _ (by omega)]; exact ht hp)
 have hv : val (xs.take k) = val xs := by
  refine val_eq_at xs.length (by omega) (Nat.le_refl _) (fun j hj => ?_)
  by_cases e : j < k
  ·exact hg j e
  ·rw [hz j (by omega) hj, List.getD_eq_getElem?_getD, List.getElem?_eq_none (by omega)]; rfl
 rw [← hv, digits_val hc]

/-- From place off on a list was overwritten by out. -/
structure Upd (cs : List Int) (off : Nat) (out ds : List Int) : Prop where
 len : ds.length = cs.length
 new : ∀ i, i < out.length → ds.getD (off + i) 0 = out.getD i 0
 old : ∀ j, (j < off ∨ off + out.length ≤ j) → ds.getD j 0 = cs.getD j 0
theorem Upd.refl (cs : List Int) (off : Nat) : Upd cs off [] cs := ⟨rfl, fun i hi => by simp at hi, fun _ _ => rfl⟩
theorem Upd.snoc {cs ds out : List Int} {off : Nat} (h : Upd cs off out ds) (y : Int) (hl : off + out.length < cs.length) : Upd cs off (out ++ [y]) (ds.set (off + out.length) y) := by
 refine ⟨by rw [List.length_set]; exact h.len, fun i hi => ?_, fun j hj => ?_⟩
 ·have hlen := h.len
  by_cases e : i = out.length
  ·subst e
   simp [List.getD_eq_getElem?_getD, show off + out.length < ds.length by omega]
  ·have hi2 : i < out.length := by simp at hi; omega
   have := h.new i hi2
   simp only [List.getD_eq_getElem?_getD, List.getElem?_append_left hi2] at this ⊢
   rw [List.getElem?_set_ne (by omega)]; exact this
 ·have hj2 : j < off ∨ off + (out.length + 1) ≤ j := by simpa using hj
  have := h.old j (by omega)
  simp only [List.getD_eq_getElem?_getD] at this ⊢
  rw [List.getElem?_set_ne (by omega)]; exact this
/-- What is left to be added at place k: the limbs ss from there on, and t times the number f from there on. -/
def rest (ss : List Int) (f : Nat → Int) (t : Int) (k : Nat) : Int := val (ss.drop k) + t * vf (fun i => f (k + i)) (ss.length - k)
theorem rest_step (ss : List Int) (f : Nat → Int) (t : Int) (k : Nat) (hk : k < ss.length) : rest ss f t k = ss.getD k 0 + t * f k + 65536 * rest ss f t (k + 1) := by
 unfold rest
 obtain ⟨m, hm⟩ : ∃ m, ss.length - k = m + 1 := ⟨ss.length - k - 1, by omega⟩
 rw [hm, show ss.length - (k + 1) = m by omega, List.drop_eq_getElem_cons hk]
 have e : (fun i => f (k + (i + 1))) = (fun i => f (k + 1 + i)) := by funext i; congr 1; omega
 simp only [val, vf, Nat.add_zero, e]
 rw [Int.mul_add, Int.mul_add, Int.mul_left_comm]
 simp [List.getD_eq_getElem?_getD, hk]
 omega
theorem rest_end (ss : List Int) (f : Nat → Int) (t : Int) : rest ss f t ss.length = 0 := by
 unfold rest; simp [val, vf]
theorem rest_start (ss : List Int) (f : Nat → Int) (t : Int) : rest ss f t 0 = val ss + t * vf f ss.length := by
 unfold rest; simp
theorem val_drop : ∀ (xs : List Int) (k : Nat), val (xs.drop k) = xs.getD k 0 + 65536 * val (xs.drop (k + 1))
 | [], k => by simp [val]
 | x :: xs, 0 => by simp [val]
 | x :: xs, k + 1 => by have := val_drop xs k; simpa using this

/-- A list of limbs whose last is not 0 is what its number's limbs are. -/
theorem digits_of_limbs {xs : List Int} (h : AllLimbs xs) (ht : 0 < xs.length → xs.getD (xs.length - 1) 0 ≠ 0) : xs = digits (val xs) :=
 (digits_val (canon_of_get xs h ht)).symm
theorem canon_limbs {xs : List Int} (h : Canon xs) : AllLimbs xs := (canon_get h).1
theorem canon_top {xs : List Int} (h : Canon xs) (k : Nat) (hk : k + 1 = xs.length) : 0 < xs.getD k 0 := by
 have h1 := (canon_get h).2 (by omega)
 have h2 := canon_limbs h k (by omega)
 rw [show xs.length - 1 = k by omega] at h1
 omega
theorem getD_limb {xs : List Int} (h : AllLimbs xs) (k : Nat) : 0 ≤ xs.getD k 0 ∧ xs.getD k 0 ≤ 65535 := by
 by_cases e : k < xs.length
 ·exact h k e
 ·rw [List.getD_eq_getElem?_getD, List.getElem?_eq_none (by omega)]; simp
theorem getD_past {xs : List Int} {k : Nat} (h : xs.length ≤ k) : xs.getD k 0 = 0 := by
 rw [List.getD_eq_getElem?_getD, List.getElem?_eq_none (by omega)]; rfl
theorem getD_last (xs : List Int) (d : Int) : (xs ++ [d]).getD ((xs ++ [d]).length - 1) 0 = d := by simp [List.getD_eq_getElem?_getD]

end Go.Proofs.Ytakomjocihlacaa

namespace Go.Proofs.Ytakomjocihlacaa

theorem val_append : ∀ (L W : List Int), val (L ++ W) = ap L (val W)
 | [], _ => rfl
 | d :: L, W => by simp only [List.cons_append, val, ap]; rw [val_append L W]
theorem val_zeros : ∀ (n : Nat), val (List.replicate n 0) = 0
 | 0 => rfl
 | n + 1 => by simp only [List.replicate_succ, val]; rw [val_zeros n]; rfl
theorem AllLimbs.append {xs ys : List Int} (h : AllLimbs xs) (h' : AllLimbs ys) : AllLimbs (xs ++ ys) := fun i hi => by
 by_cases e : i < xs.length
 ·have := h i e
  simp only [List.getD_eq_getElem?_getD, List.getElem?_append_left e] at this ⊢; exact this
 ·have := h' (i - xs.length) (by simp at hi; omega)
  simp only [List.getD_eq_getElem?_getD, List.getElem?_append_right (Nat.not_lt.1 e)] at this ⊢; exact this
theorem AllLimbs.zeros (n : Nat) : AllLimbs (List.replicate n 0) := fun i hi => by
 have : i < n := by simpa using hi
 simp [List.getD_eq_getElem?_getD, this]
/-- A product behind i limbs of the first factor: the limbs that are done, the window that still turns, zeros. -/
def MulAt (xs ys : List Int) (i : Nat) (P : List Int) : Prop :=
 ∃ L W, P = L ++ (W ++ List.replicate (xs.length - i) 0) ∧ L.length = i ∧ W.length = ys.length ∧ AllLimbs L ∧ AllLimbs W ∧ ap L (val W) = val (xs.take i) * val ys

theorem MulAt.start (xs ys : List Int) : MulAt xs ys 0 (List.replicate (xs.length + ys.length) 0) :=
 ⟨[], List.replicate ys.length 0, by rw [List.nil_append, List.replicate_append_replicate]; congr 1; omega, rfl, by simp, fun i hi => by simp at hi, AllLimbs.zeros _, by simp [ap, val_zeros, val]⟩
theorem MulAt.length {xs ys P : List Int} {i : Nat} (h : MulAt xs ys i P) (hi : i ≤ xs.length) : P.length = xs.length + ys.length := by
 obtain ⟨L, W, rfl, h1, h2, _⟩ := h
 simp; omega
theorem MulAt.limbs {xs ys P : List Int} {i : Nat} (h : MulAt xs ys i P) : AllLimbs P := by
 obtain ⟨L, W, rfl, _, _, h3, h4, _⟩ := h
 exact h3.append (h4.append (AllLimbs.zeros _))
end Go.Proofs.Ytakomjocihlacaa

namespace Go.Proofs.Ytakomjocihlacaa

theorem val_split (xs : List Int) (k : Nat) (hk : k ≤ xs.length) : val xs = val (xs.take k) + pw k * val (xs.drop k) := by
 have h : val (xs.take k ++ xs.drop k) = val xs := by rw [List.take_append_drop]
 rw [← h, val_append, ap_pw]
 have e : (xs.take k).length = k := by simp; omega
 rw [e]

theorem ediv_spec {X V : Int} (hV : 0 < V) : X = V * (X / V) + X % V ∧ 0 ≤ X % V ∧ X % V < V :=
 ⟨(Int.mul_ediv_add_emod X V).symm, Int.emod_nonneg X (by omega), Int.emod_lt_of_pos X hV⟩

end Go.Proofs.Ytakomjocihlacaa

namespace Go.Proofs.Ytakomjocihlacaa

theorem AllLimbs.set {Q : List Int} (h : AllLimbs Q) (i : Nat) {q : Int} (hq : 0 ≤ q ∧ q ≤ 65535) : AllLimbs (Q.set i q) := fun j hj => by
 rw [List.length_set] at hj
 have := h j hj
 simp only [List.getD_eq_getElem?_getD, List.getElem?_set] at this ⊢
 by_cases e : i = j
 ·subst e; simp [hj]; exact hq
 ·rw [if_neg e]; exact this
theorem pw_le_val {ys : List Int} (hy : AllLimbs ys) (hm : 0 < ys.length) (ht : ys.getD (ys.length - 1) 0 ≠ 0) : pw (ys.length - 1) ≤ val ys := by
 have h := val_split ys (ys.length - 1) (by omega)
 have d := val_drop ys (ys.length - 1)
 have z : val (ys.drop (ys.length - 1 + 1)) = 0 := by rw [List.drop_of_length_le (by omega)]; rfl
 have t := hy (ys.length - 1) (by omega)
 have tk := (hy.take (ys.length - 1)).val.1
 rw [z] at d
 have hd : 1 ≤ val (ys.drop (ys.length - 1)) := by omega
 have hp := pw_pos (ys.length - 1)
 have : pw (ys.length - 1) * 1 ≤ pw (ys.length - 1) * val (ys.drop (ys.length - 1)) := Int.mul_le_mul_of_nonneg_left hd (by omega)
 omega

/-- A long division with k steps to go: what is left, and the quotient so far. -/
def DivAt (xs ys : List Int) (ql k : Nat) (R Q : List Int) : Prop :=
 ∃ L V, R = L ++ (V ++ List.replicate (xs.length + 1 - k - ys.length) 0) ∧ L.length = k ∧ V.length = ys.length ∧ AllLimbs L ∧ AllLimbs V ∧ val V < val ys ∧ AllLimbs Q ∧ Q.length = ql ∧
  (∀ j, j < k → Q.getD j 0 = 0) ∧ ap L (val V) + val ys * val Q = val xs

theorem DivAt.start {xs ys : List Int} (ql : Nat) (hx : AllLimbs xs) (hy : AllLimbs ys) (hm : 0 < ys.length) (ht : ys.getD (ys.length - 1) 0 ≠ 0) (hn : ys.length ≤ xs.length) :
  DivAt xs ys ql (xs.length - ys.length + 1) (xs ++ List.replicate (xs.length + 1 - xs.length) 0) (List.replicate ql 0) := by
 have e1 : xs.length + 1 - xs.length = 1 := by omega
 have e2 : xs.length + 1 - (xs.length - ys.length + 1) - ys.length = 0 := by omega
 refine ⟨xs.take (xs.length - ys.length + 1), xs.drop (xs.length - ys.length + 1) ++ [0], ?_, by simp; omega, by simp; omega, hx.take _, (hx.drop _).snoc (by omega), ?_, AllLimbs.zeros _, by simp, fun j hj => ?_, ?_⟩
 ·rw [e1, e2, List.replicate_zero, List.append_nil, ← List.append_assoc, List.take_append_drop]; rfl
 ·rw [show xs.drop (xs.length - ys.length + 1) ++ [0] = xs.drop (xs.length - ys.length + 1) ++ List.replicate 1 0 from rfl, val_append, ap_pw, val_zeros]
  have h1 := (hx.drop (xs.length - ys.length + 1)).val
  rw [List.length_drop, show xs.length - (xs.length - ys.length + 1) = ys.length - 1 by omega] at h1
  have h2 := pw_le_val hy hm ht
  simp; omega
 ·by_cases e : j < ql
  ·simp [List.getD_eq_getElem?_getD, e]
  ·rw [List.getD_eq_getElem?_getD, List.getElem?_eq_none (by simp; omega)]; rfl
 ·rw [val_zeros, Int.mul_zero, Int.add_zero, ← val_append, ← List.append_assoc, List.take_append_drop, show xs ++ [0] = xs ++ List.replicate 1 0 from rfl, val_append, ap_pw, val_zeros]
  simp
theorem DivAt.length {xs ys R Q : List Int} {ql k : Nat} (h : DivAt xs ys ql k R Q) (hk : k + ys.length ≤ xs.length + 1) : R.length = xs.length + 1 := by
 obtain ⟨L, V, rfl, h1, h2, _⟩ := h
 simp; omega
theorem DivAt.limbs {xs ys R Q : List Int} {ql k : Nat} (h : DivAt xs ys ql k R Q) : AllLimbs R ∧ AllLimbs Q ∧ Q.length = ql := by
 obtain ⟨L, V, rfl, _, _, h3, h4, _, h6, h7, _⟩ := h
 exact ⟨h3.append (h4.append (AllLimbs.zeros _)), h6, h7⟩
/-- A long division by one limb: what is left over at place k, and the quotient from there on. -/
def ShortAt (xs : List Int) (d : Int) (k : Nat) (Q : List Int) : Prop :=
 Q.length = xs.length ∧ AllLimbs Q ∧ val (Q.drop k) = val (xs.drop k) / d
theorem ShortAt.start (xs : List Int) (d : Int) : ShortAt xs d xs.length (List.replicate xs.length 0) :=
 ⟨by simp, AllLimbs.zeros _, by rw [List.drop_of_length_le (by simp), List.drop_of_length_le (Nat.le_refl _)]; simp [val]⟩
theorem ShortAt.step {xs Q : List Int} {d : Int} {k : Nat} (h : ShortAt xs d (k + 1) Q) (hx : AllLimbs xs) (hd : 1 ≤ d ∧ d ≤ 65536) (hk : k < xs.length) :
  ShortAt xs d k (Q.set k ((val (xs.drop (k + 1)) % d * 65536 + xs.getD k 0) / d)) ∧ val (xs.drop k) % d = (val (xs.drop (k + 1)) % d * 65536 + xs.getD k 0) % d ∧
   0 ≤ (val (xs.drop (k + 1)) % d * 65536 + xs.getD k 0) / d ∧ (val (xs.drop (k + 1)) % d * 65536 + xs.getD k 0) / d ≤ 65535 := by
 obtain ⟨h1, h2, h3⟩ := h
 have hs := val_drop xs k
 have hx0 := hx k hk
 obtain ⟨q1, q2, q3⟩ := ediv_spec (X := val (xs.drop (k + 1))) (V := d) (by omega)
 have hdr : (Q.set k ((val (xs.drop (k + 1)) % d * 65536 + xs.getD k 0) / d)).drop (k + 1) = Q.drop (k + 1) := List.drop_set_of_lt (by omega)
 have hv := val_drop (Q.set k ((val (xs.drop (k + 1)) % d * 65536 + xs.getD k 0) / d)) k
 rw [hdr] at hv
 have hg : (Q.set k ((val (xs.drop (k + 1)) % d * 65536 + xs.getD k 0) / d)).getD k 0 = (val (xs.drop (k + 1)) % d * 65536 + xs.getD k 0) / d := by
  simp [List.getD_eq_getElem?_getD, show k < Q.length by omega]
 rw [hg, h3] at hv
 generalize hr : val (xs.drop (k + 1)) % d = r at *
 generalize hq : val (xs.drop (k + 1)) / d = q at *
 generalize hX : val (xs.drop (k + 1)) = X at *
 generalize hxk : xs.getD k 0 = x at *
 have hb1 : 0 ≤ (r * 65536 + x) / d := Int.ediv_nonneg (by omega) (by omega)
 have hb2 : (r * 65536 + x) / d < 65536 := Int.ediv_lt_of_lt_mul (by omega) (by omega)
 have e : val (xs.drop k) = (r * 65536 + x) + d * (65536 * q) := by
  rw [hs, q1, Int.mul_left_comm]; omega
 refine ⟨⟨by rw [List.length_set]; exact h1, h2.set k (by omega), ?_⟩, ?_, hb1, by omega⟩
 ·rw [hv, e, Int.add_mul_ediv_left _ _ (by omega : d ≠ 0)]
 ·rw [e, Int.add_mul_emod_self_left]

end Go.Proofs.Ytakomjocihlacaa

namespace Go.Proofs.Ytakomjocihlacaa

/-- The decimal digits of a number as bytes, the lowest first. -/
def decF : Nat → Int → List Int
 | 0, _ => []
 | f + 1, n => if n ≤ 0 then [] else (48 + n % 10) :: decF f (n / 10)
def dec (n : Int) : List Int := decF n.toNat n
theorem decF_zero (f : Nat) (n : Int) (h : n ≤ 0) : decF f n = [] := by
 cases f with
 | zero => rfl
 | succ f => simp only [decF]; rw [if_pos h]
theorem decF_fuel : ∀ (f g : Nat) (n : Int), n.toNat ≤ f → n.toNat ≤ g → decF f n = decF g n
 | 0, g, n, hf, _ => by rw [decF_zero g n (by omega)]; rfl
 | f + 1, 0, n, _, hg => by rw [decF_zero (f + 1) n (by omega)]; rfl
 | f + 1, g + 1, n, hf, hg => by
  simp only [decF]
  by_cases h : n ≤ 0
  ·rw [if_pos h, if_pos h]
  ·rw [if_neg h, if_neg h, decF_fuel f g (n / 10) (by omega) (by omega)]
theorem dec_zero {n : Int} (h : n ≤ 0) : dec n = [] := decF_zero _ n h
theorem dec_pos {n : Int} (h : 0 < n) : dec n = (48 + n % 10) :: dec (n / 10) := by
 unfold dec
 obtain ⟨f, hf⟩ : ∃ f, n.toNat = f + 1 := ⟨n.toNat - 1, by omega⟩
 rw [hf]
 simp only [decF]
 rw [if_neg (by omega), decF_fuel f (n / 10).toNat (n / 10) (by omega) (by omega)]

/-- Two to the power of b. -/
def p2 : Nat → Int
 | 0 => 1
 | b + 1 => 2 * p2 b
theorem dec_len2 : ∀ (b : Nat) (n : Int), n < p2 b → (dec n).length ≤ b
 | 0, n, h => by simp only [p2] at h; rw [dec_zero (by omega)]; simp
 | b + 1, n, h => by
  by_cases hn : 0 < n
  ·rw [dec_pos hn]
   simp only [p2] at h
   have := dec_len2 b (n / 10) (by omega)
   simp only [List.length_cons]; omega
  ·rw [dec_zero (by omega)]; simp
theorem pw_p2 : ∀ k, pw k = p2 (16 * k)
 | 0 => rfl
 | k + 1 => by
  have := pw_p2 k
  rw [show 16 * (k + 1) = 16 * k + 16 by omega]
  simp only [pw, p2]
  omega
theorem dec_len {n : Int} {k : Nat} (h : n < pw k) : (dec n).length ≤ 16 * k := dec_len2 (16 * k) n (by rw [← pw_p2]; exact h)

/-- The decimal text of a number, as bytes. -/
def decText (n : Int) : List Int := if n = 0 then [48] else (dec n).reverse

end Go.Proofs.Ytakomjocihlacaa

namespace Go.Proofs.Ytakomjocihlacaa

/-- So far from 0, and below it if neg. -/
def sg (neg : Bool) (v : Int) : Int := if neg = true then -v else v
theorem sg_true (v : Int) : sg true v = -v := rfl
theorem sg_false (v : Int) : sg false v = v := rfl
/-- The number of a big. -/
def sv (neg : Bool) (xs : List Int) : Int := sg neg (val xs)
def isNeg (z : Int) : Bool := decide (z < 0)
def mag (z : Int) : List Int := digits (if z < 0 then -z else z)
theorem isNeg_yes {z : Int} (h : z < 0) : isNeg z = true := decide_eq_true h
theorem isNeg_no {z : Int} (h : 0 ≤ z) : isNeg z = false := decide_eq_false (by omega)
theorem mag_yes {z : Int} (h : z < 0) : mag z = digits (-z) := by unfold mag; rw [if_pos h]
theorem mag_no {z : Int} (h : 0 ≤ z) : mag z = digits z := by unfold mag; rw [if_neg (by omega)]
theorem mag_zero : mag 0 = [] := by rw [mag_no (by omega), digits_zero (by omega)]
theorem digits_len_pos {v : Int} (h : 0 < v) : 0 < (digits v).length := by rw [digits_pos h]; simp
theorem isNeg_sg {neg : Bool} {v : Int} (h : 0 ≤ v) : isNeg (sg neg v) = (neg && decide (0 < (digits v).length)) := by
 cases neg with
 | false => rw [sg_false, isNeg_no h]; rfl
 | true =>
  rw [sg_true]
  by_cases e : v = 0
  ·subst e; rw [digits_zero (by omega)]; rfl
  ·rw [isNeg_yes (by omega), decide_eq_true (digits_len_pos (by omega))]; rfl
theorem mag_sg {neg : Bool} {v : Int} (h : 0 ≤ v) : mag (sg neg v) = digits v := by
 cases neg with
 | false => rw [sg_false, mag_no h]
 | true =>
  rw [sg_true]
  by_cases e : v = 0
  ·subst e; exact mag_zero
  ·rw [mag_yes (by omega), Int.neg_neg]
theorem mag_canon (z : Int) : Canon (mag z) := canon_digits' _
theorem val_mag_nonneg (z : Int) : 0 ≤ val (mag z) := (canon_nonneg (mag_canon z)).1
theorem val_mag (z : Int) : val (mag z) = if z < 0 then -z else z := by
 unfold mag; exact val_digits' (by split <;> omega)
theorem sv_mag (z : Int) : sv (isNeg z) (mag z) = z := by
 unfold sv
 rw [val_mag]
 by_cases h : z < 0
 ·rw [isNeg_yes h, sg_true, if_pos h, Int.neg_neg]
 ·rw [isNeg_no (by omega), sg_false, if_neg h]
/-- The code that BigFault tells. -/
def bigFault (neg : Bool) (xs : List Int) : Int := if natFault xs = 0 then (if neg = true ∧ xs.length = 0 then 1 else 0) else natFault xs
theorem bigFault_nat {neg : Bool} {xs : List Int} (h : natFault xs ≠ 0) : bigFault neg xs = natFault xs := if_neg h
theorem bigFault_form {xs : List Int} (h : natFault xs = 0) (hl : xs.length = 0) : bigFault true xs = 1 := by unfold bigFault; rw [if_pos h, if_pos ⟨rfl, hl⟩]
theorem bigFault_ok {neg : Bool} {xs : List Int} (h : natFault xs = 0) (hl : neg = true → xs.length ≠ 0) : bigFault neg xs = 0 := by
 unfold bigFault; rw [if_pos h, if_neg (fun hn => hl hn.1 hn.2)]
/-- A big without a fault. -/
structure BigOk (neg : Bool) (xs : List Int) : Prop where
 nat : natFault xs = 0
 sign : neg = true → xs.length ≠ 0
theorem bigFault_zero {neg : Bool} {xs : List Int} (h : bigFault neg xs = 0) : BigOk neg xs := by
 unfold bigFault at h
 by_cases h1 : natFault xs = 0
 ·rw [if_pos h1] at h
  by_cases h2 : neg = true ∧ xs.length = 0
  ·rw [if_pos h2] at h; omega
  ·exact ⟨h1, fun hn hl => h2 ⟨hn, hl⟩⟩
 ·rw [if_neg h1] at h; exact absurd h h1
theorem BigOk.n40 {neg : Bool} {xs : List Int} (h : BigOk neg xs) : Nat40 xs := natFault_zero h.nat
theorem BigOk.isNeg {neg : Bool} {xs : List Int} (h : BigOk neg xs) : isNeg (sv neg xs) = neg := by
 have hc := h.n40.canon
 have h0 := (canon_nonneg hc).1
 unfold sv
 rw [isNeg_sg h0, digits_val hc]
 cases neg with
 | false => rfl
 | true => have := h.sign rfl; rw [decide_eq_true (by omega)]; rfl
theorem BigOk.mag {neg : Bool} {xs : List Int} (h : BigOk neg xs) : mag (sv neg xs) = xs := by
 have hc := h.n40.canon
 unfold sv
 rw [mag_sg (canon_nonneg hc).1, digits_val hc]
theorem nat40_fault {xs : List Int} (h : Nat40 xs) : natFault xs = 0 := natFault_ok (by have := h.len; omega) h.limb h.top
theorem bigOk_of {z : Int} (h : (mag z).length ≤ 40) : BigOk (isNeg z) (mag z) := by
 refine ⟨nat40_fault (nat40_of_canon (mag_canon z) h), fun hn hl => ?_⟩
 have hz : z < 0 := of_decide_eq_true hn
 rw [mag_yes hz] at hl
 have := digits_len_pos (v := -z) (by omega)
 omega
/-- The number that decimal digits are, behind another one. -/
def num : Int → List Int → Int
 | a, [] => a
 | a, d :: ds => num (a * 10 + (d - 48)) ds
theorem num_append : ∀ (xs ys : List Int) (a : Int), num a (xs ++ ys) = num (num a xs) ys
 | [], _, _ => rfl
 | x :: xs, ys, a => by simp only [List.cons_append, num]; exact num_append xs ys _
theorem num_dec : ∀ (f : Nat) (n : Int), n.toNat ≤ f → 0 ≤ n → num 0 (dec n).reverse = n
 | 0, n, hf, h => by rw [dec_zero (by omega)]; simp [num]; omega
 | f + 1, n, hf, h => by
  by_cases hn : 0 < n
  ·rw [dec_pos hn, List.reverse_cons, num_append, num_dec f (n / 10) (by omega) (by omega)]
   simp only [num]; omega
  ·rw [dec_zero (by omega)]; simp [num]; omega
theorem num_decText {n : Int} (h : 0 ≤ n) : num 0 (decText n) = n := by
 unfold decText
 split
 ·simp [num]; omega
 ·exact num_dec _ n (Nat.le_refl _) h
/-- Each byte is a decimal digit. -/
def Decs (ds : List Int) : Prop := ∀ d, d ∈ ds → 48 ≤ d ∧ d ≤ 57
theorem num_ge : ∀ (ds : List Int) (a : Int), Decs ds → 0 ≤ a → a ≤ num a ds
 | [], _, _, _ => Int.le_refl _
 | d :: ds, a, h, ha => by
  have h1 := h d (by simp)
  have := num_ge ds (a * 10 + (d - 48)) (fun x hx => h x (by simp [hx])) (by omega)
  simp only [num]; omega
theorem dec_decs : ∀ (f : Nat) (n : Int), n.toNat ≤ f → Decs (dec n)
 | 0, n, hf => by rw [dec_zero (by omega)]; intro d hd; simp at hd
 | f + 1, n, hf => by
  by_cases hn : 0 < n
  ·rw [dec_pos hn]
   intro d hd
   rcases List.mem_cons.1 hd with e | e
   ·subst e; omega
   ·exact dec_decs f (n / 10) (by omega) d e
  ·rw [dec_zero (by omega)]; intro d hd; simp at hd
theorem decText_decs (n : Int) : Decs (decText n) := by
 unfold decText
 split
 ·intro d hd; simp at hd; omega
 ·intro d hd; exact dec_decs _ n (Nat.le_refl _) d (by simpa using hd)
theorem num_take_le {ds : List Int} (h : Decs ds) (k : Nat) : 0 ≤ num 0 (ds.take k) ∧ num 0 (ds.take k) ≤ num 0 ds := by
 have h1 : Decs (ds.take k) := fun d hd => h d (List.mem_of_mem_take hd)
 have h2 := num_ge _ 0 h1 (by omega)
 have h3 := num_ge (ds.drop k) (num 0 (ds.take k)) (fun d hd => h d (List.mem_of_mem_drop hd)) h2
 rw [← num_append, List.take_append_drop] at h3
 exact ⟨h2, h3⟩
theorem num_take_succ {ds : List Int} (k : Nat) (hk : k < ds.length) : num 0 (ds.take (k + 1)) = num 0 (ds.take k) * 10 + (ds.getD k 0 - 48) := by
 rw [List.take_succ_eq_append_getElem hk, num_append]
 simp only [num, List.getD_eq_getElem?_getD, List.getElem?_eq_getElem hk, Option.getD_some]
end Go.Proofs.Ytakomjocihlacaa

namespace Go.Proofs.Ytakomjocihlacaa

theorem cmpV_neg {x y : Int} : decide (cmpV x y < 0) = decide (x < y) := by
 unfold cmpV
 by_cases h : x < y
 ·simp [h]
 ·by_cases h' : y < x <;> simp [h, h']
theorem cmpV_pos {x y : Int} : decide (0 < cmpV x y) = decide (y < x) := by
 unfold cmpV
 by_cases h : x < y
 ·have : ¬ y < x := by omega
  simp [h, this]
 ·by_cases h' : y < x <;> simp [h, h']
end Go.Proofs.Ytakomjocihlacaa

namespace Go.Proofs.Ytakomjocihlacaa

end Go.Proofs.Ytakomjocihlacaa

namespace Go.Proofs.Ytakomjocihlacaa

/-- A big as a value: its sign, its slice, and the limbs that the slice reads as. -/
structure BE where
 neg : Bool
 ptr : Option Addr
 len : Nat
 cap : Nat
 limbs : List Int
def BE.z (b : BE) : Int := sv b.neg b.limbs
def BE.val (b : BE) : Value := .agg #[.bool b.neg, .slice b.ptr b.len b.cap]
end Go.Proofs.Ytakomjocihlacaa

namespace Go.Proofs.Ytakomjocihlacaa

end Go.Proofs.Ytakomjocihlacaa

namespace Go.Proofs.Ytakomjocihlacaa

end Go.Proofs.Ytakomjocihlacaa

namespace Go.Proofs.Ytakomjocihlacaa

end Go.Proofs.Ytakomjocihlacaa

namespace Go.Proofs.Ytakomjocihlacaa

end Go.Proofs.Ytakomjocihlacaa

namespace Go.Proofs.Ytakomjocihlacaa
open Go.ChangeShapes Go.WideShapes Go.RowKit Go.Deep Go.WideElems Go.Maps Go.Joins

end Go.Proofs.Ytakomjocihlacaa
