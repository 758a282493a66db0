/-
  Append of one number to a slice of the call's own, and results that are structs with a slice. Conditions: the lengths are small.
-/
import Derived.Test.YtjndjjdffifgcaaLib
import Derived.Test.YtjndjjdffifgcaaPlain
namespace Go.Proofs.Ytjndjjdffifgcaa
open Go.RowKit

/-- The call owns, from block B on, a slice that holds the numbers xs. -/
def Ow (B : Nat) (w : World) (v : Value) (xs : List Int) : Prop := w.ownsRow B 2 1 v xs.length (xs.map (Value.int .i64))
theorem Ow.alloc {B : Nat} {w : World} {v : Value} {xs : List Int} (h : Ow B w v xs) (o : Obj) : Ow B (w.alloc o) v xs := World.ownsRow.alloc h o
theorem Ow.sl {B : Nat} {w : World} {v : Value} {xs : List Int} (h : Ow B w v xs) : ∃ a c, v = .slice a xs.length c ∧ Sl w a xs.length c xs ∧ Fr B a xs.length := by
  obtain ⟨a, c, h1, h2, h3, _⟩ := sl_of_owns h; exact ⟨a, c, h1, h2, h3⟩
theorem Ow.nil (B : Nat) (w : World) : Ow B w (.slice none 0 0) [] := World.ownsRow_nil w B 2 1
theorem Ow.empty (B : Nat) (w : World) (hB : B ≤ w.heap.size) : Ow B (w.alloc (.cells #[] 2)) (.slice (some ⟨w.heap.size, 0, none⟩) 0 0) [] :=
  World.ownsRow_made (e := 2) (size := 1) w #[] 0 hB (Nat.zero_le _) rfl
theorem Ow.kept {B : Nat} {w w' : World} {v : Value} {xs : List Int} {L : List Nat} (h : Ow B w v xs) (k : Kept L w w') (hL : ∀ g, v.ownBlock = some g → g ∉ L) : Ow B w' v xs := by
  have hlt := World.ownsRow.lt h
  obtain ⟨h1, h2⟩ := h
  refine ⟨h1, ?_⟩
  rcases h2 with h2 | ⟨g, cap, cur, hv, hg, hh, r⟩
  · exact Or.inl h2
  · exact Or.inr ⟨g, cap, cur, hv, hg, by rw [k.block g (hlt g (by rw [hv]; rfl)).2 (hL g (by rw [hv]; rfl))]; exact hh, r⟩
theorem Ow.kept0 {B : Nat} {w w' : World} {v : Value} {xs : List Int} (h : Ow B w v xs) (k : Kept [] w w') : Ow B w' v xs := h.kept k (by simp)
theorem Ow.mono {B B' : Nat} {w : World} {v : Value} {xs : List Int} (h : Ow B w v xs) (hB : B' ≤ B) : Ow B' w v xs := by
  obtain ⟨h1, h2⟩ := h
  refine ⟨h1, ?_⟩
  rcases h2 with h2 | ⟨g, cap, cur, hv, hg, r⟩
  · exact Or.inl h2
  · exact Or.inr ⟨g, cap, cur, hv, Nat.le_trans hB hg, r⟩

/-- One number more at the end of a slice that the call owns. -/
theorem app1 {w : World} {ops : Array Oper} {rest : List Oper} {o : Oper} {a : Act} {Q : Exit → Act → World → Prop} (hgd : o.guard = none) (s x : Operand)
    (ho : o.op = .call { callee := .builtin .append, args := #[s, x], argTypes := #[22, 22] })
    (base : Nat) (v : Value) (xs : List Int) (hs : a.eval s = v) (hown : Ow base w v xs)
    (g0 : Nat) (y : Int) (hx : a.eval x = .slice (some ⟨g0, 0, none⟩) 1 1) (hc : w.cell? ⟨g0, 0, none⟩ = some (.int .i64 y))
    (hlen : xs.length ≤ 1099511627776) (hbase : base ≤ w.heap.size)
    (h : ∀ v' w', Ow base w' v' (xs ++ [y]) → w.grownBy w' v.ownBlock → wpList Try.prog ops Q rest (a.put o.dst v') w') :
    wpList Try.prog ops Q (o :: rest) a w := by
  obtain ⟨i0, hi, hz0, hz1, hz2⟩ := info_parts Try.info64
  refine wpList_append_own w hgd s x 22 ho base 2 i0 (.int .i64 0) 1 8 Try.underlying22 hi hz0 hz1 hz2 rfl (by decide) v xs.length _ hs hown ⟨g0, 0, none⟩ 1 1 [.int .i64 y] hx rfl ?_ ?_ ?_ ?_ hbase ?_
  · intro j u hj
    have hj0 : j = 0 := by
      have := (List.getElem?_eq_some_iff.1 hj).1
      simp at this; exact this
    subst hj0
    simp at hj
    subst hj
    rw [Addr.add_lit]; exact hc
  · intro u hu; simp at hu; subst hu; rfl
  · unfold maxLen; omega
  · omega
  · intro v' w' h1 h2 _
    refine h v' w' ?_ h2
    have e : (xs ++ [y]).length = xs.length + 1 := by simp
    unfold Ow
    rw [e, List.map_append]
    exact h1

/-- A call that answers a code and a slice in memory of its own. -/
def NatR (w : World) (code : Int) (xs : List Int) (e : Ending) (w' : World) : Prop :=
  ∃ a c, e = .returned (.agg #[.int .i64 code, .slice a xs.length c]) ∧ Sl w' a xs.length c xs ∧ Fr w.heap.size a xs.length ∧ Kept [] w w'
/-- A call that answers a slice in memory of its own. -/
def SlR (w : World) (xs : List Int) (e : Ending) (w' : World) : Prop :=
  ∃ v, e = .returned v ∧ Ow w.heap.size w' v xs ∧ Kept [] w w'

/-- What happens to a slice of the call's own when memory grows by an append to it. -/
theorem kept_grown {L : List Nat} {w wr w' : World} {base : Nat} {v : Value} {xs : List Int} (h : Kept L w wr) (hown : Ow base wr v xs) (hg : wr.grownBy w' v.ownBlock) (hb : w.heap.size ≤ base) : Kept L w w' :=
  h.grown hg (fun k hk hlt => by have := (World.ownsRow.lt hown k hk).1; omega)

/-- The result's own cells behind whatever leaves old memory alone. -/
theorem resCells {w w1 : World} {L : List Nat} (hK : Kept L (w.alloc (.cells #[.int .i64 0, .slice none 0 0] 92)) w1) (hL : w.heap.size ∉ L) :
    w1.cell? ⟨w.heap.size, 0, none⟩ = some (.int .i64 0) ∧ w1.cell? ⟨w.heap.size, 1, none⟩ = some (.slice none 0 0) ∧ w1.frozen? ⟨w.heap.size, 0, none⟩ = false ∧ w1.frozen? ⟨w.heap.size, 1, none⟩ = false ∧ w.heap.size + 1 ≤ w1.heap.size :=
  ⟨hK.cell (p := ⟨w.heap.size, 0, none⟩) (by simp) hL, hK.cell (p := ⟨w.heap.size, 1, none⟩) (by simp) hL, hK.free (p := ⟨w.heap.size, 0, none⟩) (by simp) (by simp) hL, hK.free (p := ⟨w.heap.size, 1, none⟩) (by simp) (by simp) hL,
    by have := hK.size; simpa using this⟩
theorem natR_fin {w w1 : World} {a : Option Addr} {c : Nat} {xs : List Int} (code : Int) (hK : Kept [] (w.alloc (.cells #[.int .i64 0, .slice none 0 0] 92)) w1) (hS : Sl w1 a xs.length c xs) (hF : Fr (w.heap.size + 1) a xs.length) :
    NatR w code xs (.returned (.agg #[.int .i64 code, .slice a xs.length c])) ((w1.setCell ⟨w.heap.size, 0, none⟩ (.int .i64 code)).setCell ⟨w.heap.size, 1, none⟩ (.slice a xs.length c)) :=
  ⟨a, c, rfl, hS.kept (((Kept.refl [w.heap.size] w1).setCell _ _ (by simp)).setCell _ _ (by simp)) (fun hn y hy => by have := hF hn y hy; simp; omega), hF.mono (by omega),
    ((((Kept.refl [] w).alloc _).trans0 hK).setCell _ _ (by simp)).setCell _ _ (by simp)⟩

end Go.Proofs.Ytjndjjdffifgcaa
