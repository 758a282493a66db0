/-
  A struct of two structs of two cells each, by value, opened: its four cells, each with its reading. No condition.
-/
import Derived.ProofKit
import Derived.Lib.SmallJoins
namespace Go.Proofs.Ytjndjjdffifgcaa
open Go.ChangeShapes Go.WideShapes Go.RowKit Go.Deep Go.WideElems Go.Maps Go.Joins

theorem open_two2 {H : Type} {enc : TypeId × Value → H} {P : Program} {w : World} {base : Nat} {spare : Nat → Bool} {held : Bool} {r : Reach} {b0 : Nat} {t tb : TypeId} {f0 f1 g0 g1 : Field} {v : Value} {d : DataW H} {p : List MemPlace}
    (hs : P.underlying t = some (.struct #[f0, f1])) (ht0 : f0.type = tb) (ht1 : f1.type = tb) (ho0 : f0.offset = 0) (ho1 : f1.offset = 2) (hc : P.cellsOf tb = 2)
    (hb : P.underlying tb = some (.struct #[g0, g1])) (hp0 : g0.offset = 0) (hp1 : g1.offset = 1) (hk0 : P.cellsOf g0.type = 1) (hk1 : P.cellsOf g1.type = 1) (hC : P.cellsOf t = 4)
    (hv : Value.okWide P w r b0 t v) (h : DataW.Trod enc P w base spare held t v d p) :
    ∃ (v0 v1 v2 v3 : Value) (y0 y1 y2 y3 : DataW H × List MemPlace) (n : Nat), v = .agg #[v0, v1, v2, v3] ∧
      DataW.trod enc P w base spare held n g0.type [v0] = some y0 ∧ DataW.trod enc P w base spare held n g1.type [v1] = some y1 ∧
      DataW.trod enc P w base spare held n g0.type [v2] = some y2 ∧ DataW.trod enc P w base spare held n g1.type [v3] = some y3 := by
  obtain ⟨cs, rfl, hsz⟩ := okWide_struct hs hv
  obtain ⟨c0, c1, c2, c3, rfl⟩ := array4 (hsz.trans hC)
  obtain ⟨fuel, hf⟩ := h
  obtain ⟨y0, y1, n, _, _, h0, h1⟩ := trod_struct2 hs hf
  rw [ht0, ho0, hc] at h0
  rw [ht1, ho1, hc] at h1
  simp only [Value.cells, List.drop_zero, List.drop_succ_cons, List.take_succ_cons, List.take_zero] at h0 h1
  obtain ⟨z0, z1, m, _, _, i0, i1⟩ := trod_struct2 hb h0
  obtain ⟨z2, z3, m', _, _, i2, i3⟩ := trod_struct2 hb h1
  rw [hp0, hk0] at i0 i2
  rw [hp1, hk1] at i1 i3
  simp only [List.drop_zero, List.drop_succ_cons, List.take_succ_cons, List.take_zero] at i0 i1 i2 i3
  exact ⟨c0, c1, c2, c3, z0, z1, z2, z3, max m m', rfl, DataW.trod_le (Nat.le_max_left m m') i0, DataW.trod_le (Nat.le_max_left m m') i1, DataW.trod_le (Nat.le_max_right m m') i2, DataW.trod_le (Nat.le_max_right m m') i3⟩

end Go.Proofs.Ytjndjjdffifgcaa
