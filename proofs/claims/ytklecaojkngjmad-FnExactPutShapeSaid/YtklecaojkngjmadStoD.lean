/-
  Plain facts on a store without a name; contract of the program's DropShape. Condition: the slice reads as named shapes.
-/
import Derived.Test.YtklecaojkngjmadStoI
import Derived.Test.YtklecaojkngjmadStoG
namespace Go.Proofs.Ytklecaojkngjmad
open Go.RowKit

/-- The named shapes but for one name. -/
def dropL (L : List Sh) (x : List UInt8) : List Sh := L.filter fun s => decide (s.nm ≠ x)
theorem apart_iff {L : List Sh} : Apart L ↔ L.Pairwise (fun s t => s.nm < t.nm) := by
  rw [List.pairwise_iff_getElem]
  constructor
  · intro h i j hi hj hij
    have := h i j hij hj
    simpa [List.getD_eq_getElem?_getD, hi, hj] using this
  · intro h i j hij hj
    have := h i j (by omega) hj hij
    simpa [List.getD_eq_getElem?_getD, show i < L.length by omega, hj] using this
theorem drop_apart {L : List Sh} (h : Apart L) (x : List UInt8) : Apart (dropL L x) := apart_iff.2 ((apart_iff.1 h).filter _)
theorem drop_mem {L : List Sh} {x : List UInt8} {s : Sh} : s ∈ dropL L x ↔ s ∈ L ∧ s.nm ≠ x := by unfold dropL; rw [List.mem_filter]; simp
theorem drop_len (L : List Sh) (x : List UInt8) : (dropL L x).length ≤ L.length := List.length_filter_le _ _
theorem lookF_some {L : List Sh} (V : Nat → Value) {y : List UInt8} : ∀ {k : Nat}, k ≤ L.length → ((lookF L V k y).isSome = true ↔ ∃ i, i < k ∧ (L.getD i sh0).nm = y)
  | 0, _ => by simp [lookF]
  | k + 1, hk => by
    unfold lookF
    by_cases he : y = (L.getD k sh0).nm
    · rw [if_pos he]
      exact ⟨fun _ => ⟨k, by omega, he.symm⟩, fun _ => rfl⟩
    · rw [if_neg he, lookF_some V (by omega)]
      constructor
      · rintro ⟨i, hi, h⟩; exact ⟨i, by omega, h⟩
      · rintro ⟨i, hi, h⟩
        refine ⟨i, ?_, h⟩
        by_cases hik : i = k
        · subst hik; exact absurd h.symm he
        · omega
theorem mem_getD {L : List Sh} {s : Sh} : s ∈ L ↔ ∃ i, i < L.length ∧ L.getD i sh0 = s := by
  rw [List.mem_iff_getElem]
  constructor
  · rintro ⟨i, hi, h⟩; exact ⟨i, hi, by simpa [List.getD_eq_getElem?_getD, hi] using h⟩
  · rintro ⟨i, hi, h⟩; exact ⟨i, hi, by simpa [List.getD_eq_getElem?_getD, hi] using h⟩
theorem told_of {w : World} {f : List UInt8 → Option Value} {M : List Sh} (hM : Apart M) (hl : M.length ≤ 11) (hf : ∀ y, y ∈ M.map Sh.nm ↔ (f y).isSome = true)
    (hv : ∀ m, m ∈ M → ∃ p c, f m.nm = some (.agg #[.int .i64 m.k, .slice p m.n c]) ∧ Rd w p (m.n * 2) m.xs ∧ (1 ≤ m.n ∧ m.n ≤ 12) ∧ m.nm.length ≤ 8) : ∃ ps cs, Told w f M ps cs := by
  have each : ∀ i, i < M.length → ∃ q : Option Addr × Nat, f (M.getD i sh0).nm = some (.agg #[.int .i64 (M.getD i sh0).k, .slice q.1 (M.getD i sh0).n q.2]) ∧ Rd w q.1 ((M.getD i sh0).n * 2) (M.getD i sh0).xs ∧ (1 ≤ (M.getD i sh0).n ∧ (M.getD i sh0).n ≤ 12) ∧ (M.getD i sh0).nm.length ≤ 8 := by
    intro i hi
    obtain ⟨p, c, h⟩ := hv (M.getD i sh0) (mem_getD.2 ⟨i, hi, rfl⟩)
    exact ⟨(p, c), h⟩
  have : Inhabited (Option Addr × Nat) := ⟨(none, 0)⟩
  obtain ⟨q, hq⟩ := Deep.choose_lt each
  exact ⟨fun i => (q i).1, fun i => (q i).2, hM, hl, hf, hq⟩
/-- What a store without a fault tells of each of its shapes. -/
theorem cells_told {w : World} {a : Option Addr} {n : Nat} {L : List Sh} {ps : Nat → Option Addr} {cs : Nat → Nat} (hc : Cells w a n L ps cs) (hl : L.length = n) (hz : storeC L = 0) {m : Sh} (hm : m ∈ L) :
    ∃ p c, lookF L (shV L ps cs) L.length m.nm = some (.agg #[.int .i64 m.k, .slice p m.n c]) ∧ Rd w p (m.n * 2) m.xs ∧ (1 ≤ m.n ∧ m.n ≤ 12) ∧ m.nm.length ≤ 8 := by
  obtain ⟨i, hi, rfl⟩ := mem_getD.1 hm
  obtain ⟨_, h2, h3⟩ := storeC_ok hz
  obtain ⟨_, _, _, _, _, _, hr, _⟩ := hc i (by omega)
  have h4 := namedC_ok (h2 i hi)
  exact ⟨ps i, cs i, lookF_at h3.apart _ hi (Nat.le_refl _), hr, shapeC_n h4.2, (isNm_len h4.1).2⟩
theorem told_drop {w : World} {a : Option Addr} {n : Nat} {L : List Sh} {ps : Nat → Option Addr} {cs : Nat → Nat} (hc : Cells w a n L ps cs) (hl : L.length = n) (hz : storeC L = 0) (x : List UInt8) :
    ∃ ps' cs', Told w (delF (lookF L (shV L ps cs) L.length) x) (dropL L x) ps' cs' := by
  obtain ⟨h1, h2, h3⟩ := storeC_ok hz
  refine told_of (drop_apart h3.apart x) (by have := drop_len L x; omega) (fun y => ?_) (fun m hm => ?_)
  · unfold delF
    rw [List.mem_map]
    by_cases he : y = x
    · rw [if_pos he]
      simp only [Option.isSome_none, Bool.false_eq_true, iff_false]
      rintro ⟨s, hs, rfl⟩
      exact (drop_mem.1 hs).2 he
    · rw [if_neg he, lookF_some _ (Nat.le_refl _)]
      constructor
      · rintro ⟨s, hs, rfl⟩
        obtain ⟨i, hi, e⟩ := mem_getD.1 (drop_mem.1 hs).1
        exact ⟨i, hi, by rw [e]⟩
      · rintro ⟨i, hi, e⟩
        exact ⟨L.getD i sh0, drop_mem.2 ⟨mem_getD.2 ⟨i, hi, rfl⟩, by rw [e]; exact he⟩, e⟩
  · obtain ⟨hmL, hne⟩ := drop_mem.1 hm
    obtain ⟨p, c, h⟩ := cells_told hc hl hz hmL
    exact ⟨p, c, by unfold delF; rw [if_neg hne]; exact h.1, h.2⟩

/-- What DropShape answers. -/
def dropS (L : List Sh) (x : List UInt8) : List Sh := if getC L x = 0 then dropL L x else []
def StoRes (w : World) (v : Int) (M : List Sh) (e : Ending) (w' : World) : Prop := ∃ u, e = .returned (.agg #[.int .i64 v, u]) ∧ StV w.heap.size w' u M.length M ∧ Kept [] w w'
theorem stoRes_zero {w w' : World} {v : Int} (k : Kept [] w w') : StoRes w v [] (.returned (.agg #[.int .i64 v, .slice none 0 0])) w' := ⟨_, rfl, ⟨rfl, .inl ⟨rfl, rfl⟩⟩, k⟩

theorem boxRR {w w1 : World} {o : Obj} {T : TypeId} (hk : Kept [] ((w.alloc o).alloc (.cells #[.int .i64 0, .slice none 0 0] T)) w1) :
    (w1.cell? ⟨w.heap.size + 1, 0, none⟩ = some (.int .i64 0) ∧ w1.frozen? ⟨w.heap.size + 1, 0, none⟩ = false) ∧ w1.cell? ⟨w.heap.size + 1, 1, none⟩ = some (.slice none 0 0) ∧ w1.frozen? ⟨w.heap.size + 1, 1, none⟩ = false := by
  obtain ⟨c0, f0, _⟩ := hk.top (g := w.heap.size + 1) (by simp) (by simp) 0 (v := .int .i64 0) rfl
  obtain ⟨c1, f1, _⟩ := hk.top (g := w.heap.size + 1) (by simp) (by simp) 1 (v := .slice none 0 0) rfl
  exact ⟨⟨c0, f0⟩, c1, f1⟩

end Go.Proofs.Ytklecaojkngjmad
