/-
  The laws' helpers over stores: a store made anew. Condition: the argument reads as named shapes.
-/
import Derived.Test.YtbljpeefekhoeabStoL
namespace Go.Proofs.Ytbljpeefekhoeab
open Go.RowKit

/-- Five stores into two boxes, and what is there then. -/
theorem cells33 {w : World} {g g' : Nat} (hg : g ≠ g') {x1 x2 y0 y1 y2 : Value} (u1 u2 v0 v1 v2 : Value) (c1 : w.cell? ⟨g', 1, none⟩ = some x1) (c2 : w.cell? ⟨g', 2, none⟩ = some x2) (d0 : w.cell? ⟨g, 0, none⟩ = some y0) (d1 : w.cell? ⟨g, 1, none⟩ = some y1) (d2 : w.cell? ⟨g, 2, none⟩ = some y2) :
    (w.setCell ⟨g', 1, none⟩ u1).cell? ⟨g', 1, none⟩ = some u1 ∧ ((w.setCell ⟨g', 1, none⟩ u1).setCell ⟨g', 2, none⟩ u2).cell? ⟨g', 2, none⟩ = some u2 ∧ ((w.setCell ⟨g', 1, none⟩ u1).setCell ⟨g', 2, none⟩ u2).cell? ⟨g', 1, none⟩ = some u1 ∧
    (((((w.setCell ⟨g', 1, none⟩ u1).setCell ⟨g', 2, none⟩ u2).setCell ⟨g, 0, none⟩ v0).setCell ⟨g, 1, none⟩ v1).setCell ⟨g, 2, none⟩ v2).cell? ⟨g, 0, none⟩ = some v0 ∧
    (((((w.setCell ⟨g', 1, none⟩ u1).setCell ⟨g', 2, none⟩ u2).setCell ⟨g, 0, none⟩ v0).setCell ⟨g, 1, none⟩ v1).setCell ⟨g, 2, none⟩ v2).cell? ⟨g, 1, none⟩ = some v1 ∧
    (((((w.setCell ⟨g', 1, none⟩ u1).setCell ⟨g', 2, none⟩ u2).setCell ⟨g, 0, none⟩ v0).setCell ⟨g, 1, none⟩ v1).setCell ⟨g, 2, none⟩ v2).cell? ⟨g, 2, none⟩ = some v2 := by
  have e1 := World.cell?_setCell_same w ⟨g', 1, none⟩ u1 c1
  generalize hW1 : w.setCell ⟨g', 1, none⟩ u1 = W1 at *
  have f2 : W1.cell? ⟨g', 2, none⟩ = some x2 := by rw [← hW1, World.cell?_setCell_other _ _ _ _ (by simp)]; exact c2
  have g0 : W1.cell? ⟨g, 0, none⟩ = some y0 := by rw [← hW1, World.cell?_setCell_other _ _ _ _ (by simp; try omega)]; exact d0
  have g1 : W1.cell? ⟨g, 1, none⟩ = some y1 := by rw [← hW1, World.cell?_setCell_other _ _ _ _ (by simp; try omega)]; exact d1
  have g2 : W1.cell? ⟨g, 2, none⟩ = some y2 := by rw [← hW1, World.cell?_setCell_other _ _ _ _ (by simp; try omega)]; exact d2
  have e2 := World.cell?_setCell_same W1 ⟨g', 2, none⟩ u2 f2
  have e3 : (W1.setCell ⟨g', 2, none⟩ u2).cell? ⟨g', 1, none⟩ = some u1 := by rw [World.cell?_setCell_other _ _ _ _ (by simp)]; exact e1
  generalize hW2 : W1.setCell ⟨g', 2, none⟩ u2 = W2 at *
  have h0 : W2.cell? ⟨g, 0, none⟩ = some y0 := by rw [← hW2, World.cell?_setCell_other _ _ _ _ (by simp; try omega)]; exact g0
  have h1 : W2.cell? ⟨g, 1, none⟩ = some y1 := by rw [← hW2, World.cell?_setCell_other _ _ _ _ (by simp; try omega)]; exact g1
  have h2 : W2.cell? ⟨g, 2, none⟩ = some y2 := by rw [← hW2, World.cell?_setCell_other _ _ _ _ (by simp; try omega)]; exact g2
  obtain ⟨_, k0, k1⟩ := cells2 v0 v1 h0 h1
  generalize hW4 : (W2.setCell ⟨g, 0, none⟩ v0).setCell ⟨g, 1, none⟩ v1 = W4 at *
  have k2 : W4.cell? ⟨g, 2, none⟩ = some y2 := by rw [← hW4, World.cell?_setCell_other _ _ _ _ (by simp), World.cell?_setCell_other _ _ _ _ (by simp)]; exact h2
  exact ⟨e1, e2, e3, by rw [World.cell?_setCell_other _ _ _ _ (by simp)]; exact k0, by rw [World.cell?_setCell_other _ _ _ _ (by simp)]; exact k1, World.cell?_setCell_same _ _ _ k2⟩

/-- Block g holds f, up to place n, and is not frozen. -/
def RowF (w : World) (g n : Nat) (f : Nat → Value) : Prop :=
  ∃ cur : Array Value × TypeId, w.heap[g]? = some (.cells cur.1 cur.2 (0, 0)) ∧ n ≤ cur.1.size ∧ ∀ k, k < n → cur.1[k]? = some (f k)
theorem RowF.lt {w : World} {g n : Nat} {f : Nat → Value} (h : RowF w g n f) : g < w.heap.size := by obtain ⟨_, h, _⟩ := h; exact (Array.getElem?_eq_some_iff.1 h).1
theorem RowF.cell {w : World} {g n : Nat} {f : Nat → Value} (h : RowF w g n f) {j : Nat} (hj : j < n) : w.cell? ⟨g, j, none⟩ = some (f j) := by
  obtain ⟨cur, h1, _, h3⟩ := h
  rw [cell_of_row w g j cur.1 _ _ h1, h3 j hj]
theorem RowF.frozen {w : World} {g n : Nat} {f : Nat → Value} (h : RowF w g n f) (j : Nat) : w.frozen? ⟨g, j, none⟩ = false := by
  obtain ⟨cur, h1, _, h3⟩ := h; exact frozen_of_row w g j _ _ h1
theorem RowF.congr {w : World} {g n : Nat} {f f' : Nat → Value} (h : RowF w g n f) (e : ∀ k, k < n → f k = f' k) : RowF w g n f' := by
  obtain ⟨cur, h1, h2, h3⟩ := h
  exact ⟨cur, h1, h2, fun k hk => by rw [h3 k hk, e k hk]⟩
theorem RowF.set {w : World} {g n : Nat} {f : Nat → Value} (h : RowF w g n f) (j : Nat) (y : Value) : RowF (w.setCell ⟨g, j, none⟩ y) g n (fun k => if k = j then y else f k) := by
  obtain ⟨cur, h1, h2, h3⟩ := h
  refine ⟨(cur.1.setIfInBounds j y, cur.2), heap_setCell_same w g j _ _ _ h1, by simpa using h2, fun k hk => ?_⟩
  show (cur.1.setIfInBounds j y)[k]? = _
  rw [Array.getElem?_setIfInBounds]
  by_cases e : j = k
  · subst e
    rw [if_pos rfl, if_pos (by omega)]
    show some y = some (if j = j then y else f j)
    rw [if_pos rfl]
  · rw [if_neg e, h3 k hk]
    show some (f k) = some (if k = j then y else f k)
    rw [if_neg (by omega)]
theorem RowF.ofHeap {w w' : World} {g n : Nat} {f : Nat → Value} (h : RowF w g n f) (e : w'.heap[g]? = w.heap[g]?) : RowF w' g n f := by
  obtain ⟨cur, h1, h2⟩ := h; exact ⟨cur, by rw [e]; exact h1, h2⟩
theorem RowF.kept {L : List Nat} {w w' : World} {g n : Nat} {f : Nat → Value} (h : RowF w g n f) (k : Kept L w w') (hg : g ∉ L) : RowF w' g n f := h.ofHeap (k.block g h.lt hg)
theorem RowF.other {w : World} {g n : Nat} {f : Nat → Value} (h : RowF w g n f) (a : Addr) (v : Value) (hne : g ≠ a.block) : RowF (w.setCell a v) g n f := h.ofHeap (heap_setCell_other w a g v hne)
theorem RowF.made (w : World) (cells : Array Value) (T : TypeId) : RowF (w.alloc (.cells cells T)) w.heap.size cells.size (fun j => cells.getD j undef) :=
  ⟨(cells, T), heap_alloc_new w _, Nat.le_refl _, fun k hk => by simp [Array.getD, hk]⟩

/-- The cells of a row of named shapes: the points of the i-th one lie in block gs i, with room for cs i. -/
def stF (L : List Sh) (gs cs : Nat → Nat) (j : Nat) : Value :=
  if j % 3 = 0 then .string (strB (L.getD (j / 3) sh0).nm) else if j % 3 = 1 then .int .i64 (L.getD (j / 3) sh0).k else .slice (some ⟨gs (j / 3), 0, none⟩) (L.getD (j / 3) sh0).n (cs (j / 3))
theorem stF_0 (L : List Sh) (gs cs : Nat → Nat) (i : Nat) : stF L gs cs (i * 3) = .string (strB (L.getD i sh0).nm) := by
  unfold stF; rw [if_pos (by omega), show i * 3 / 3 = i by omega]
theorem stF_1 (L : List Sh) (gs cs : Nat → Nat) (i : Nat) : stF L gs cs (i * 3 + 1) = .int .i64 (L.getD i sh0).k := by
  unfold stF; rw [if_neg (by omega), if_pos (by omega), show (i * 3 + 1) / 3 = i by omega]
theorem stF_2 (L : List Sh) (gs cs : Nat → Nat) (i : Nat) : stF L gs cs (i * 3 + 2) = .slice (some ⟨gs i, 0, none⟩) (L.getD i sh0).n (cs i) := by
  unfold stF; rw [if_neg (by omega), if_neg (by omega), show (i * 3 + 2) / 3 = i by omega]
def nOf (L : List Sh) (i : Nat) : Nat := (L.getD i sh0).n
/-- A store in blocks of its own. -/
def StB (w : World) (g : Nat) (gs cs : Nat → Nat) (n : Nat) (L : List Sh) : Prop :=
  L.length = n ∧ n ≤ 2000000 ∧ RowF w g (n * 3) (stF L gs cs) ∧ ∀ i, i < n → Blk w (gs i) (L.getD i sh0).xs ∧ (L.getD i sh0).xs.length = (L.getD i sh0).n * 2 ∧ (L.getD i sh0).n ≤ 2000000 ∧ (L.getD i sh0).nm.length ≤ 2000000 ∧ gs i ≠ g ∧ ∀ j, j < i → gs j ≠ gs i
theorem StB.rd {w : World} {g : Nat} {gs cs : Nat → Nat} {n : Nat} {L : List Sh} (h : StB w g gs cs n L) : RdSt w (some ⟨g, 0, none⟩) n L := by
  obtain ⟨h1, h2, h3, h4⟩ := h
  refine ⟨h1, by omega, fun i hi => ?_⟩
  obtain ⟨p1, p2, p3, p4, _⟩ := h4 i hi
  have c0 := h3.cell (j := i * 3) (by omega)
  have c1 := h3.cell (j := i * 3 + 1) (by omega)
  have c2 := h3.cell (j := i * 3 + 2) (by omega)
  rw [stF_0] at c0
  rw [stF_1] at c1
  rw [stF_2] at c2
  exact ⟨g, 0, _, _, rfl, by rw [Nat.zero_add]; exact c0, by rw [Nat.zero_add]; exact c1, by rw [Nat.zero_add]; exact c2, rd_newP p1 p2 (by omega), by omega⟩
/-- All of it lies from block B on. -/
def StA (B g : Nat) (gs : Nat → Nat) (n : Nat) : Prop := B ≤ g ∧ ∀ i, i < n → B ≤ gs i
theorem StB.kept {M : List Nat} {w w' : World} {g : Nat} {gs cs : Nat → Nat} {n : Nat} {L : List Sh} (h : StB w g gs cs n L) (k : Kept M w w') (hg : g ∉ M) (hgs : ∀ i, i < n → gs i ∉ M) : StB w' g gs cs n L := by
  obtain ⟨h1, h2, h3, h4⟩ := h
  refine ⟨h1, h2, h3.kept k hg, fun i hi => ?_⟩
  obtain ⟨p1, p2⟩ := h4 i hi
  exact ⟨k.blk p1 (hgs i hi), p2⟩
theorem StB.kept0 {w w' : World} {g : Nat} {gs cs : Nat → Nat} {n : Nat} {L : List Sh} (h : StB w g gs cs n L) (k : Kept [] w w') : StB w' g gs cs n L := h.kept k (by simp) (by simp)
def NewSt (w : World) (n : Nat) (L : List Sh) (e : Ending) (w' : World) : Prop :=
  ∃ g gs, e = .returned (.slice (some ⟨g, 0, none⟩) n n) ∧ StB w' g gs (nOf L) n L ∧ StA w.heap.size g gs n ∧ Kept [] w w'

/-- A call that answers a named shape in a new block. -/
def NewNm (w : World) (s : Sh) (e : Ending) (w' : World) : Prop :=
  ∃ g, e = .returned (.agg #[.string (strB s.nm), .int .i64 s.k, .slice (some ⟨g, 0, none⟩) s.n s.n]) ∧ w.heap.size ≤ g ∧ Blk w' g s.xs ∧ Kept [] w w'

theorem Try.infoNm : (Try.prog.info? 49).map (fun i => (i.zero, i.size, i.bytes)) = some (some (.agg #[.string ⟨#[]⟩, .int .i64 0, .slice none 0 0]), 3, 48) := by kernel_rfl

/-- A row of named shapes, made up to place k. -/
def mkF (L : List Sh) (gs : Nat → Nat) (z : Nat → Value) (k j : Nat) : Value := if j < k * 3 then stF L gs (nOf L) j else z j
theorem mkF_step {w : World} {g n : Nat} {L : List Sh} {gs : Nat → Nat} {z : Nat → Value} {k : Nat} (h : RowF w g (n * 3) (mkF L gs z k)) (g' : Nat) {S : ByteArray} {q : Int} {m : Nat} (hS : strB (L.getD k sh0).nm = S) (hq : (L.getD k sh0).k = q) (hm : (L.getD k sh0).n = m) :
    RowF (((w.setCell ⟨g, k * 3, none⟩ (.string S)).setCell ⟨g, k * 3 + 1, none⟩ (.int .i64 q)).setCell ⟨g, k * 3 + 2, none⟩ (.slice (some ⟨g', 0, none⟩) m m)) g (n * 3) (mkF L (fun i => if i = k then g' else gs i) z (k + 1)) := by
  subst hS hq hm
  refine (((h.set _ _).set _ _).set _ _).congr fun j _ => ?_
  by_cases h2 : j = k * 3 + 2
  · subst h2
    rw [if_pos rfl]; unfold mkF; rw [if_pos (by omega), stF_2, if_pos rfl]; rfl
  · rw [if_neg h2]
    by_cases h1 : j = k * 3 + 1
    · subst h1
      rw [if_pos rfl]; unfold mkF; rw [if_pos (by omega), stF_1]
    · rw [if_neg h1]
      by_cases h0 : j = k * 3
      · subst h0
        rw [if_pos rfl]; unfold mkF; rw [if_pos (by omega), stF_0]
      · rw [if_neg h0]
        unfold mkF
        by_cases hlt : j < k * 3
        · rw [if_pos hlt, if_pos (by omega)]
          unfold stF
          simp only [if_neg (show ¬ j / 3 = k by omega)]
        · rw [if_neg hlt, if_neg (by omega)]

end Go.Proofs.Ytbljpeefekhoeab
