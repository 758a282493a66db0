/-
  The draws of two spans: plain words. No condition.
-/
import Derived.Test.YtlhiahhpmjiioaaDrwB3
namespace Go.Proofs.Ytlhiahhpmjiioaa
open Go.RowKit

/-- What a draw of two spans answers. -/
def Draw2S (w : World) (e : Ending) (w' : World) : Prop :=
  ∃ p a c xs q b d ys p' a' c' xs' q' b' d' ys', e = .returned (.tuple #[.agg #[.bool p, .slice a xs.length c, .bool q, .slice b ys.length d], .agg #[.bool p', .slice a' xs'.length c', .bool q', .slice b' ys'.length d']]) ∧ EndD w w' a c xs 60 ∧ EndD w w' b d ys 60 ∧ EndD w w' a' c' xs' 60 ∧ EndD w w' b' d' ys' 60 ∧ Kept [] w w'
theorem kset8 (w : World) (R S : Nat) (u0 u1 u2 u3 t0 t1 t2 t3 : Value) : Kept [R, S] w ((((((((w.setCell ⟨R, 0, none⟩ u0).setCell ⟨R, 1, none⟩ u1).setCell ⟨R, 2, none⟩ u2).setCell ⟨R, 3, none⟩ u3).setCell ⟨S, 0, none⟩ t0).setCell ⟨S, 1, none⟩ t1).setCell ⟨S, 2, none⟩ t2).setCell ⟨S, 3, none⟩ t3) :=
  (((((((((Kept.refl [R, S] w).setCell _ _ (by simp)).setCell _ _ (by simp)).setCell _ _ (by simp)).setCell _ _ (by simp)).setCell _ _ (by simp)).setCell _ _ (by simp)).setCell _ _ (by simp)).setCell _ _ (by simp))
theorem B4.two {w : World} {R S : Nat} {x0 x1 x2 x3 y0 y1 y2 y3 : Value} (hR : B4 w R x0 x1 x2 x3) (hS : B4 w S y0 y1 y2 y3) (hRS : R ≠ S) (u0 u1 u2 u3 t0 t1 t2 t3 : Value) :
    B4 ((((((((w.setCell ⟨R, 0, none⟩ u0).setCell ⟨R, 1, none⟩ u1).setCell ⟨R, 2, none⟩ u2).setCell ⟨R, 3, none⟩ u3).setCell ⟨S, 0, none⟩ t0).setCell ⟨S, 1, none⟩ t1).setCell ⟨S, 2, none⟩ t2).setCell ⟨S, 3, none⟩ t3) R u0 u1 u2 u3 ∧
    B4 ((((((((w.setCell ⟨R, 0, none⟩ u0).setCell ⟨R, 1, none⟩ u1).setCell ⟨R, 2, none⟩ u2).setCell ⟨R, 3, none⟩ u3).setCell ⟨S, 0, none⟩ t0).setCell ⟨S, 1, none⟩ t1).setCell ⟨S, 2, none⟩ t2).setCell ⟨S, 3, none⟩ t3) S t0 t1 t2 t3 :=
  ⟨(hR.set4 u0 u1 u2 u3).kept (kset4o _ S t0 t1 t2 t3) (by simp; omega), (hS.kept (kset4o w R u0 u1 u2 u3) (by simp; omega)).set4 t0 t1 t2 t3⟩
theorem EndD.sl {w w' : World} {a : Option Addr} {c : Nat} {xs : List Int} {k : Nat} (h : EndD w w' a c xs k) : Sl w' a xs.length c xs := h.1
theorem EndD.keptRS {w w' w'' : World} {a : Option Addr} {c : Nat} {xs : List Int} {k R S : Nat} (h : EndD w w' a c xs k) (kk : Kept [R, S] w' w'') (hR : R < w.heap.size) (hS : S < w.heap.size) : EndD w w'' a c xs k := h.kept kk (by simp; omega)
theorem kb1 {g : Nat} {L : List Nat} {w u v : World} (hg : g ∈ L) (h : Hid (Kept L w u)) (k : Kept [g] u v) : Hid (Kept L w v) := kg1 hg h k
theorem pick_in {ys : List Int} {lo hi : Int} (h : ∀ y ∈ ys, lo ≤ y ∧ y ≤ hi) {j : Nat} (hj : j < ys.length) : lo ≤ ys.getD j 0 ∧ ys.getD j 0 ≤ hi := by
  rw [List.getD_eq_getElem?_getD, List.getElem?_eq_getElem hj]; exact h _ (List.getElem_mem hj)
theorem nat40_mag {x : Int} (h : -100 ≤ x ∧ x ≤ 100) : Nat40 (mag x) ∧ (mag x).length ≤ 8 := by
  have h1 : (100 : Int) < pw 8 := by decide +kernel
  have := mag_len_lt (z := x) (k := 8) (by omega)
  exact ⟨nat40_of_canon (mag_canon x) (by omega), this⟩
theorem sum_len40 {p q : Bool} {xs ys : List Int} (h : Nat40 xs) (hl : xs.length ≤ 20) (h' : Nat40 ys) (hl' : ys.length ≤ 20) : (mag (sv p xs + sv q ys)).length ≤ 40 := by
  have h1 := sv_bound (p := p) h hl
  have h2 := sv_bound (p := q) h' hl'
  have h3 : pw 20 + pw 20 ≤ pw 40 := by decide +kernel
  exact mag_len_lt (k := 40) (by omega)
theorem sub_len40 {p q : Bool} {xs ys : List Int} (h : Nat40 xs) (hl : xs.length ≤ 20) (h' : Nat40 ys) (hl' : ys.length ≤ 20) : (mag (sv p xs - sv q ys)).length ≤ 40 := by
  have h1 := sv_bound (p := p) h hl
  have h2 := sv_bound (p := q) h' hl'
  have h3 : pw 20 + pw 20 ≤ pw 40 := by decide +kernel
  exact mag_len_lt (k := 40) (by omega)

end Go.Proofs.Ytlhiahhpmjiioaa
