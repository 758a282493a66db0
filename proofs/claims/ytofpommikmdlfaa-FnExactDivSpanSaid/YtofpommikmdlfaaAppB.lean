/-
  Append of one big to a row of bigs that the call made itself. Condition: the row is short.
-/
import Derived.Test.YtofpommikmdlfaaSpanJ
import Derived.Laws.AppendOwn
namespace Go.Proofs.Ytofpommikmdlfaa
open Go.RowKit

/-- Block g is a row of bigs with room for cap of them; the first n are these cells. -/
def OwB (w : World) (g n cap : Nat) (xs : List Value) : Prop :=
  xs.length = n * 2 ∧ n ≤ cap ∧ cap ≤ maxLen ∧ ∃ cur : Array Value, w.heap[g]? = some (.cells cur 28 (0, 0)) ∧ cur.size = cap * 2 ∧ cur.toList.take (n * 2) = xs
theorem OwB.lt {w : World} {g n cap : Nat} {xs : List Value} (h : OwB w g n cap xs) : g < w.heap.size := by
  obtain ⟨_, _, _, _, h, _⟩ := h; exact (Array.getElem?_eq_some_iff.1 h).1
theorem OwB.kept {L : List Nat} {w w' : World} {g n cap : Nat} {xs : List Value} (h : OwB w g n cap xs) (k : Kept L w w') (hg : g ∉ L) : OwB w' g n cap xs := by
  have hl := h.lt
  obtain ⟨h0, h1, h2, cur, h3, h4⟩ := h; exact ⟨h0, h1, h2, cur, by rw [k.block g hl hg]; exact h3, h4⟩
theorem OwB.kept0 {w w' : World} {g n cap : Nat} {xs : List Value} (h : OwB w g n cap xs) (k : Kept [] w w') : OwB w' g n cap xs := h.kept k (by simp)
theorem OwB.empty (w : World) : OwB (w.alloc (.cells #[] 28)) w.heap.size 0 0 [] := ⟨rfl, Nat.le_refl _, Nat.zero_le _, #[], heap_alloc_new w _, rfl, rfl⟩
theorem OwB.cell {w : World} {g n cap : Nat} {xs : List Value} (h : OwB w g n cap xs) {j : Nat} {u : Value} (hj : xs[j]? = some u) : w.cell? ⟨g, j, none⟩ = some u := by
  obtain ⟨h0, h1, h2, cur, h3, h4, h5⟩ := h
  rw [cell_of_row w g j cur _ _ h3, ← Array.getElem?_toList]
  rw [← h5, List.getElem?_take] at hj
  split at hj
  · exact hj
  · cases hj
theorem Try.infoBig : (Try.prog.info? 28).map (fun i => (i.zero, i.size, i.bytes)) = some (some (.agg #[.bool false, .slice none 0 0]), 2, 32) := by kernel_rfl
theorem lenB {p : Bool} {a : Option Addr} {n c : Nat} : ∀ u ∈ [Value.bool p, Value.slice a n c], u.oneCell' = true := by
  intro u hu
  rcases List.mem_cons.1 hu with rfl | hu
  · rfl
  · rcases List.mem_cons.1 hu with rfl | hu
    · rfl
    · cases hu

/-- The run of the append. -/
theorem run_appendB {w : World} (ty : TypeId) {g n cap : Nat} {xs : List Value} (hown : OwB w g n cap xs) (g0 : Nat) (p : Bool) (a : Option Addr) (m c : Nat)
    (hc0 : w.cell? ⟨g0, 0, none⟩ = some (.bool p)) (hc1 : w.cell? ⟨g0, 1, none⟩ = some (.slice a m c)) (hn : n ≤ 1000000) :
    ∃ g' cap' w', (Builtin.append_ #[57, 57] ty #[.slice (some ⟨g, 0, none⟩) n cap, .slice (some ⟨g0, 0, none⟩) 1 1]).run Try.prog w = .ok (.slice (some ⟨g', 0, none⟩) (n + 1) cap') w' ∧
      OwB w' g' (n + 1) cap' (xs ++ [.bool p, .slice a m c]) ∧ Kept [g] w w' ∧ (g' = g ∨ w.heap.size ≤ g') := by
  obtain ⟨i0, hi, hz0, hz1, hz2⟩ := info_parts Try.infoBig
  have hlt := hown.lt
  have hown' := hown
  obtain ⟨h0, h1, h2, cur, h3, h4, h5⟩ := hown
  have hnews : ∀ j u, [Value.bool p, Value.slice a m c][j]? = some u → w.cell? ((⟨g0, 0, none⟩ : Addr).add j) = some u := by
    intro j u hj
    match j, hj with
    | 0, hj => cases hj; exact hc0
    | 1, hj => cases hj; exact hc1
  have hl2 : [Value.bool p, Value.slice a m c].length = 1 * i0.size := by rw [hz1]; rfl
  have hmx : n + 1 ≤ maxLen := by unfold maxLen; omega
  by_cases hroom : n + 1 ≤ cap
  · have hfit : n * i0.size + [Value.bool p, Value.slice a m c].length ≤ cur.size := by rw [hz1, h4]; simp only [List.length_cons, List.length_nil]; omega
    have hr := run_append_room (P := Try.prog) w 57 ty 28 i0 Try.underlying57 hi g n cap cur h3 ⟨g0, 0, none⟩ 1 1 [.bool p, .slice a m c] hl2 hnews lenB hroom hfit
    refine ⟨g, cap, _, hr, ⟨by rw [List.length_append, h0]; simp only [List.length_cons, List.length_nil]; omega, hroom, h2, _, setRow_heap w g cur _ _ _ h3, ?_, ?_⟩, ⟨rfl, rfl, rfl, by simp, fun k _ hk => setRow_other w g k _ (by simpa using hk)⟩, Or.inl rfl⟩
    · simp only [List.size_toArray, List.length_append, List.length_take, List.length_drop, Array.length_toList]
      rw [hz1] at hfit ⊢
      omega
    · rw [hz1]
      show List.take ((n + 1) * 2) (List.take (n * 2) cur.toList ++ [Value.bool p, Value.slice a m c] ++ _) = _
      rw [h5, List.take_left' (by rw [List.length_append, h0]; simp only [List.length_cons, List.length_nil]; omega)]
  · have hxl : xs.length = n * i0.size := by rw [hz1]; exact h0
    have hr := run_append_grow (P := Try.prog) w 57 ty 28 i0 (.agg #[.bool false, .slice none 0 0]) Try.underlying57 hi hz0 ⟨g, 0, none⟩ n cap xs hxl
      (fun j v hj => by rw [Addr.add_lit, Nat.zero_add]; exact hown'.cell hj) ⟨g0, 0, none⟩ 1 1 [.bool p, .slice a m c] hl2 hnews (by omega) (by omega)
      (growslice_fits (by omega) (by rw [hz2]; omega))
    have hge := grownCap_ge w (n + 1) cap 28
    have hcm : grownCap w (n + 1) cap 28 ≤ maxLen := grownCap_le_maxLen w (n + 1) cap 28 hmx
    refine ⟨w.heap.size, _, _, hr, ⟨by rw [List.length_append, h0]; simp only [List.length_cons, List.length_nil]; omega, hge, hcm, _, heap_alloc_new w.drew _, ?_, ?_⟩, ⟨rfl, rfl, rfl, by simp, fun k hk _ => heap_alloc_old w.drew _ hk⟩, Or.inr (Nat.le_refl _)⟩
    · simp only [Array.size_append, List.size_toArray, size_zeroCells, List.length_cons, List.length_nil, h0]
      show _ + (0 + 1 + 1) + (grownCap w (n + 1) cap 28 - (n + 1)) * 2 = _
      omega
    · simp only [Array.toList_append, List.append_assoc]
      rw [← List.append_assoc, List.take_left' (by rw [List.length_append, h0]; simp only [List.length_cons, List.length_nil]; omega)]

/-- The append as an operation. -/
theorem appB1 {w : World} {ops : Array Oper} {rest : List Oper} {o : Oper} {a : Act} {Q : Exit → Act → World → Prop} (hgd : o.guard = none) (s x : Operand)
    (ho : o.op = .call { callee := .builtin .append, args := #[s, x], argTypes := #[57, 57] })
    {g n cap : Nat} {xs : List Value} (hs : a.eval s = .slice (some ⟨g, 0, none⟩) n cap) (hown : OwB w g n cap xs) (g0 : Nat) (p : Bool) (b : Option Addr) (m c : Nat)
    (hx : a.eval x = .slice (some ⟨g0, 0, none⟩) 1 1) (hc0 : w.cell? ⟨g0, 0, none⟩ = some (.bool p)) (hc1 : w.cell? ⟨g0, 1, none⟩ = some (.slice b m c)) (hn : n ≤ 1000000)
    (h : ∀ g' cap' w', OwB w' g' (n + 1) cap' (xs ++ [.bool p, .slice b m c]) → Kept [g] w w' → (g' = g ∨ w.heap.size ≤ g') → wpList Try.prog ops Q rest (a.put o.dst (.slice (some ⟨g', 0, none⟩) (n + 1) cap')) w') :
    wpList Try.prog ops Q (o :: rest) a w :=
  wpList_plain hgd fun K hK => by
    obtain ⟨g', cap', w', hr, h2, h3, h4⟩ := run_appendB o.type hown g0 p b m c hc0 hc1 hn
    unfold Oper.wp execOp
    simp only [ho, resolve, invoke, builtin, Sem.run_bind, Sem.run_pure, Result.andThen_ok, List.map_toArray, List.map_cons, List.map_nil, hs, hx, hr]
    exact hK _ _ (h g' cap' w' h2 h3 h4)

end Go.Proofs.Ytofpommikmdlfaa
