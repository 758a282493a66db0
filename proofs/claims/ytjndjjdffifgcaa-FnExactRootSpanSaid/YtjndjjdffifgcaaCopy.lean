/-
  The builtin copy into a row that the call made; a slice appended to an empty one. Conditions: what is copied fits.
-/
import Derived.Test.YtjndjjdffifgcaaOwn
import Derived.Laws.CopyOwn
import Derived.Laws.AppendOwnNone
namespace Go.Proofs.Ytjndjjdffifgcaa
open Go.RowKit

theorem getD_map {xs : List Int} {j : Nat} {u : Value} (h : (xs.map (Value.int .i64))[j]? = some u) : j < xs.length ∧ u = .int .i64 (xs.getD j 0) := by
  have hj : j < xs.length := by simpa using (List.getElem?_eq_some_iff.1 h).1
  refine ⟨hj, ?_⟩
  rw [List.getElem?_map, List.getElem?_eq_getElem hj] at h
  simp at h
  rw [← h]; simp [List.getD_eq_getElem?_getD, hj]

/-- The list cs, its head overwritten by xs. -/
def over (cs xs : List Int) : List Int := xs ++ cs.drop xs.length
theorem over_zeros (xs : List Int) (n : Nat) : over (List.replicate n 0) xs = xs ++ List.replicate (n - xs.length) 0 := by simp [over]

theorem copyT (T : TypeId) {w : World} {ops : Array Oper} {rest : List Oper} {o : Oper} {a : Act} {Q : Exit → Act → World → Prop} (hgd : o.guard = none) (d s : Operand)
    (ho : o.op = .call { callee := .builtin .copy, args := #[d, s], argTypes := #[22, 22] })
    (g dLen dCap n sCap : Nat) (sp : Option Addr) (hd : a.eval d = .slice (some ⟨g, 0, none⟩) dLen dCap) (hs : a.eval s = .slice sp n sCap)
    (cs xs : List Int) (hg : w.heap[g]? = some (.cells (ints cs) T (0, 0))) (hr : Rd w sp n xs) (hn : n ≤ dLen) (hdl : dLen ≤ cs.length)
    (h : ∀ w', Blk w' g (over cs xs) → Kept [g] w w' → wpList Try.prog ops Q rest (a.put o.dst (goInt n)) w') :
    wpList Try.prog ops Q (o :: rest) a w := by
  obtain ⟨i0, hi, hz0, hz1, hz2⟩ := info_parts Try.info64
  have hsz : (Try.prog.info? 2).map (·.size) = some 1 := by rw [hi]; simp [hz1]
  have hxl := hr.1
  by_cases h0 : n = 0
  · subst h0
    have hx : xs = [] := List.eq_nil_of_length_eq_zero hxl
    subst hx
    refine wpList_copy_nothing hgd d s 22 22 ho 2 Try.underlying22 hsz _ _ _ _ _ _ hd hs (by simp) ?_
    refine h w ?_ (Kept.refl _ _)
    exact ⟨(ints cs, T), hg, by simp [ints, over], fun k hk => by simpa [over] using ints_get cs k (by simpa [over] using hk)⟩
  · obtain ⟨g', off, rfl, _⟩ := hr.2.2 0 (by omega)
    refine wpList_copy_own hgd d s 22 22 ho 2 Try.underlying22 hsz g 0 dLen dCap ⟨g', off, none⟩ n sCap hd hs (ints cs) T hg (xs.map (Value.int .i64)) (by rw [List.length_map, hxl]; exact (Nat.min_eq_left hn).symm)
      (fun j v hj => ?_) (by rw [ints_size, List.length_map, hxl]; omega) (fun v hv => by obtain ⟨_, _, rfl⟩ := List.mem_map.1 hv; rfl) ?_
    · obtain ⟨hj', rfl⟩ := getD_map hj
      obtain ⟨g2, off2, he, hc⟩ := hr.2.2 j (by omega)
      cases he
      rw [Addr.add_lit]; exact hc
    · have e : (xs.map (Value.int .i64)).length = n := by rw [List.length_map, hxl]
      rw [e]
      refine h _ ?_ ⟨rfl, rfl, rfl, by simp, fun k _ hk => setRow_other w g k _ (by simpa using hk)⟩
      unfold over at *
      rw [hxl]
      refine ⟨(_, _), setRow_heap w g _ _ _ _ hg, ?_, fun k hk => ?_⟩
      · simp [ints, hxl]
      · simp only [Nat.zero_add]
        have : ((ints cs).toList.take 0 ++ (xs.map (Value.int .i64) ++ (ints cs).toList.drop n)).toArray = ints (xs ++ cs.drop n) := by simp [ints]
        show (((ints cs).toList.take 0 ++ (xs.map (Value.int .i64) ++ (ints cs).toList.drop n)).toArray)[k]? = _
        rw [this, ints_get _ k hk]
theorem copy1 {w : World} {ops : Array Oper} {rest : List Oper} {o : Oper} {a : Act} {Q : Exit → Act → World → Prop} (hgd : o.guard = none) (d s : Operand)
    (ho : o.op = .call { callee := .builtin .copy, args := #[d, s], argTypes := #[22, 22] })
    (g dLen dCap n sCap : Nat) (sp : Option Addr) (hd : a.eval d = .slice (some ⟨g, 0, none⟩) dLen dCap) (hs : a.eval s = .slice sp n sCap)
    (cs xs : List Int) (hg : w.heap[g]? = some (.cells (ints cs) 2 (0, 0))) (hr : Rd w sp n xs) (hn : n ≤ dLen) (hdl : dLen ≤ cs.length)
    (h : ∀ w', Blk w' g (over cs xs) → Kept [g] w w' → wpList Try.prog ops Q rest (a.put o.dst (goInt n)) w') :
    wpList Try.prog ops Q (o :: rest) a w :=
  copyT 2 hgd d s ho g dLen dCap n sCap sp hd hs cs xs hg hr hn hdl h

/-- A whole slice appended to one that the call owns. -/
theorem appS {w : World} {ops : Array Oper} {rest : List Oper} {o : Oper} {a : Act} {Q : Exit → Act → World → Prop} (hgd : o.guard = none) (s x : Operand)
    (ho : o.op = .call { callee := .builtin .append, args := #[s, x], argTypes := #[22, 22] })
    (base : Nat) (v : Value) (xs : List Int) (hs : a.eval s = v) (hown : Ow base w v xs)
    (b : Option Addr) (m c : Nat) (ys : List Int) (hx : a.eval x = .slice b m c) (hr : Rd w b m ys) (hbc : b = none → m = 0 ∧ c = 0)
    (hlen : xs.length + m ≤ 1099511627776) (hbase : base ≤ w.heap.size)
    (h : ∀ v' w', Ow base w' v' (xs ++ ys) → w.grownBy w' v.ownBlock → wpList Try.prog ops Q rest (a.put o.dst v') w') :
    wpList Try.prog ops Q (o :: rest) a w := by
  obtain ⟨i0, hi, hz0, hz1, hz2⟩ := info_parts Try.info64
  have hyl := hr.1
  cases b with
  | none =>
    obtain ⟨rfl, rfl⟩ := hbc rfl
    have hy : ys = [] := List.eq_nil_of_length_eq_zero hyl
    subst hy
    refine wpList_append_own_none hgd s x 22 ho base 2 i0 1 Try.underlying22 hi v xs.length _ hs hown hx ?_
    exact h v w (by rw [List.append_nil]; exact hown) (World.grownBy.refl w _)
  | some ad =>
    refine wpList_append_own w hgd s x 22 ho base 2 i0 (.int .i64 0) 1 8 Try.underlying22 hi hz0 hz1 hz2 rfl (by decide) v xs.length _ hs hown ad m c (ys.map (Value.int .i64)) hx (by rw [List.length_map, hyl, Nat.mul_one]) ?_ ?_ ?_ ?_ hbase ?_
    · intro j u hj
      obtain ⟨hj', rfl⟩ := getD_map hj
      obtain ⟨g2, off2, he, hc⟩ := hr.2.2 j (by omega)
      cases he
      rw [Addr.add_lit]; exact hc
    · exact fun v hv => by obtain ⟨_, _, rfl⟩ := List.mem_map.1 hv; rfl
    · unfold maxLen; omega
    · omega
    · intro v' w' h1 h2 _
      refine h v' w' ?_ h2
      unfold Ow
      rw [List.length_append, hyl, List.map_append]
      exact h1

end Go.Proofs.Ytjndjjdffifgcaa
