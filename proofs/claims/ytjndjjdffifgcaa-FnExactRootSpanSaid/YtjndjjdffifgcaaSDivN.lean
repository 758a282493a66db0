/-
  Contract of the model's DivNats. Condition: the slices read as lists of numbers.
-/
import Derived.Test.YtjndjjdffifgcaaSDiv
import Derived.Test.YtjndjjdffifgcaaMarks
namespace Go.Proofs.Ytjndjjdffifgcaa
open Go.RowKit

theorem l1Div_any (a b : Option Addr) (n c m d : Nat) (xs ys : List Int) (w : World) (h : Sl w a n c xs) (h' : Rd w b m ys) (hx : Canon xs) (hy : Canon ys) (hn : n ≤ 900) (hm1 : 1 ≤ m) (hm2 : m ≤ 900) :
    Calls Try.prog 130 #[.slice a n c, .slice b m d] w (DivT w (digits (val xs / val ys)) (digits (val xs % val ys))) := by
  by_cases hlt : val xs < val ys
  · exact l1Div_small a b n c m d xs ys w h h' hx hy (by omega) hlt
  · rcases (by omega : m = 1 ∨ 2 ≤ m) with e | e
    · subst e
      obtain ⟨y, rfl⟩ : ∃ y, ys = [y] := by
        have := h'.1
        match ys, this with
        | [y], _ => exact ⟨y, rfl⟩
      exact l1Div_one a b n c d xs y w h h' hx hy (by omega) hlt
    · exact l1Div_many a b n c m d xs ys w h h' hx hy hn e (by omega) hlt

/-- A call that answers a code and two slices of new memory. -/
def DivS (w : World) (code : Int) (qs rs : List Int) (e : Ending) (w' : World) : Prop :=
  ∃ a c a' c', e = .returned (.agg #[.int .i64 code, .slice a qs.length c, .slice a' rs.length c']) ∧ Sl w' a qs.length c qs ∧ Sl w' a' rs.length c' rs ∧ Fr w.heap.size a qs.length ∧ Fr w.heap.size a' rs.length ∧ Kept [] w w'
theorem divS_fin {w w1 : World} {a a' : Option Addr} {c c' : Nat} {qs rs : List Int} (code : Int) (hK : Kept [] (w.alloc (.cells #[.int .i64 0, .slice none 0 0, .slice none 0 0] 103)) w1) (hS : Sl w1 a qs.length c qs) (hS' : Sl w1 a' rs.length c' rs) (hF : Fr (w.heap.size + 1) a qs.length) (hF' : Fr (w.heap.size + 1) a' rs.length) :
    DivS w code qs rs (.returned (.agg #[.int .i64 code, .slice a qs.length c, .slice a' rs.length c'])) (((w1.setCell ⟨w.heap.size, 0, none⟩ (.int .i64 code)).setCell ⟨w.heap.size, 1, none⟩ (.slice a qs.length c)).setCell ⟨w.heap.size, 2, none⟩ (.slice a' rs.length c')) :=
  ⟨a, c, a', c', rfl, hS.kept ((((Kept.refl [w.heap.size] w1).setCell _ _ (by simp)).setCell _ _ (by simp)).setCell _ _ (by simp)) (fun hn y hy => by have := hF hn y hy; simp; omega),
    hS'.kept ((((Kept.refl [w.heap.size] w1).setCell _ _ (by simp)).setCell _ _ (by simp)).setCell _ _ (by simp)) (fun hn y hy => by have := hF' hn y hy; simp; omega), hF.mono (by omega), hF'.mono (by omega),
    (((((Kept.refl [] w).alloc _).trans0 hK).setCell _ _ (by simp)).setCell _ _ (by simp)).setCell _ _ (by simp)⟩

theorem div_len (xs ys : List Int) : (divQuot xs ys).length ≤ 100 ∧ (divRest xs ys).length ≤ 100 := by
  by_cases hc : fault2 xs ys = 0 ∧ ys.length ≠ 0
  · have hx := natFault_zero (fault2_zero hc.1).1
    have hy := natFault_zero (fault2_zero hc.1).2
    have hxv := (show AllLimbs xs from hx.limb).val
    have hyv : 0 < val ys := (canon_nonneg hy.canon).2 (fun e => hc.2 (by rw [e]; rfl))
    have hl := hx.len
    have h1 := Int.ediv_le_self (b := val ys) hxv.1
    have h2 := (ediv_spec (X := val xs) hyv)
    have h3 := Int.mul_nonneg (Int.le_of_lt hyv) (Int.ediv_nonneg hxv.1 (Int.le_of_lt hyv))
    have d1 := digits_len xs.length (val xs / val ys) (by omega)
    have d2 := digits_len xs.length (val xs % val ys) (by omega)
    unfold divQuot divRest
    rw [if_pos hc, if_pos hc]; omega
  · unfold divQuot divRest
    rw [if_neg hc, if_neg hc]; simp

end Go.Proofs.Ytjndjjdffifgcaa
