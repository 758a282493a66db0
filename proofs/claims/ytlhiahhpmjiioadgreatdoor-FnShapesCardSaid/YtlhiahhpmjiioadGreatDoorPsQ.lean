/-
  Several of my texts joined: the contracts of the functions that they name, each with the conditions that it states.
-/
import Derived.Test.YtlhiahhpmjiioadGreatDoorJ1
import Derived.Test.YtlhiahhpmjiioadGreatDoorPpP
import Derived.Test.YtlhiahhpmjiioadGreatDoorPsF
import Derived.Test.YtlhiahhpmjiioadGreatDoorPmF
import Derived.Test.YtlhiahhpmjiioadGreatDoorPrtC
import Derived.Test.YtlhiahhpmjiioadGreatDoorShpC
namespace Go.Proofs.YtlhiahhpmjiioadGreatDoor
open Go.RowKit

/-- Several slices read as several lists. -/
def SlL (w : World) (L : List (Option Addr × Nat × List Int)) : Prop := ∀ z, z ∈ L → Sl w z.1 z.2.2.length z.2.1 z.2.2
theorem SlL.nil (w : World) : SlL w [] := fun z hz => by cases hz
theorem SlL.cons {w : World} {L : List (Option Addr × Nat × List Int)} {a : Option Addr} {c : Nat} {xs : List Int} (h : SlL w L) (h' : Sl w a xs.length c xs) : SlL w ((a, c, xs) :: L) := fun z hz => by
  rcases List.mem_cons.1 hz with rfl | hz
  · exact h'
  · exact h z hz
theorem SlL.kept0 {w w' : World} {L : List (Option Addr × Nat × List Int)} (h : SlL w L) (k : Kept [] w w') : SlL w' L := fun z hz => (h z hz).kept0 k
theorem SlL.at {w : World} {L : List (Option Addr × Nat × List Int)} {a : Option Addr} {c : Nat} {xs : List Int} (h : SlL w L) (hz : (a, c, xs) ∈ L) : Sl w a xs.length c xs := h _ hz

/-- The cells of a box. -/
def Bx (w : World) (g : Nat) (vs : List Value) : Prop := ∀ i, i < vs.length → w.cell? ⟨g, i, none⟩ = vs[i]?
theorem Bx.kept0 {w w' : World} {g : Nat} {vs : List Value} (h : Bx w g vs) (k : Kept [] w w') : Bx w' g vs := fun i hi => by
  have := h i hi
  rw [List.getElem?_eq_getElem hi] at this ⊢
  exact k.cell this (by simp)
theorem Bx.at {w : World} {g : Nat} {vs : List Value} (h : Bx w g vs) (i : Nat) (hi : i < vs.length) {v : Value} (hv : vs[i]? = some v) : w.cell? ⟨g, i, none⟩ = some v := by rw [h i hi, hv]
theorem Bx.new (w : World) (vs : List Value) (t : TypeId) : Bx (w.alloc (.cells vs.toArray t)) w.heap.size vs := fun i hi => by
  rw [World.cell?_alloc_new]; simp

end Go.Proofs.YtlhiahhpmjiioadGreatDoor

namespace Go.Proofs.YtlhiahhpmjiioadGreatDoor
open Go.RowKit

theorem par_of_print {k : Int} {xs : List Int} {n : Nat} (hx : xs.length = n * 2) (h : shapeC k xs n = 0) : parC (printT k xs n) = 0 ∧ parS (printT k xs n) = (k, pairsN xs n) := by
  obtain ⟨h1, h2⟩ := print_back h
  refine par_ok (by omega) h1 ?_
  show shapeC k (flatP (pairsN xs n)) (pairsN xs n).length = 0
  rw [flat_pairs_all hx, pairsN_len]; exact h
theorem par_zero {l : List UInt8} (h : parC l = 0) : shapeC (parS l).1 (flatP (parS l).2) (parS l).2.length = 0 := by
  unfold parS
  rw [if_pos h]
  unfold parC at h
  split at h
  · omega
  · cases hs : shapeR l with
    | none => rw [hs] at h; simp at h
    | some x => rw [hs] at h; exact h
theorem par_not {l : List UInt8} (h : parC l ≠ 0) : parS l = (0, []) := by
  unfold parS; rw [if_neg h]

/-- A call that answers a code and a shape. -/
def ParQ (w : World) (v k : Int) (m : Nat) (xs : List Int) (e : Ending) (w' : World) : Prop := ∃ a c, e = .returned (.agg #[.int .i64 v, .int .i64 k, .slice a m c]) ∧ Rd w' a (m * 2) xs ∧ Kept [] w w'
theorem ShpR.q {w : World} {c v k : Int} {s : Int × List (Int × Int)} {ps : List (Int × Int)} {m : Nat} {xs : List Int} {e : Ending} {w' : World} (h : ShpR w c s e w') (hv : c = v) (hs : s = (k, ps)) (hm : ps.length = m) (hx : flatP ps = xs) : ParQ w v k m xs e w' := by
  subst hv hs hm hx
  obtain ⟨u, rfl, ho, hl, hk⟩ := h
  obtain ⟨a, d, rfl⟩ := ho.sl
  exact ⟨a, d, rfl, (ho.rd hl).2, hk⟩
variable {a b p : Option Addr} {n m c d : Nat} {l : List UInt8} {k q v u : Int} {xs ys : List Int} {ps : List (Int × Int)} {w : World} {T : ByteArray} {t : Bool}
theorem ParseShape_q (hl : l.length ≤ 1500000) (hv : parC l = v) (hs : parS l = (k, ps)) (hm : ps.length = m) (hx : flatP ps = xs) :
    Calls Tryz.prog 8 #[.string (strB l)] w (ParQ w v k m xs) := (ParseShape_any l w hl).mono fun _ _ h => h.q hv hs hm hx
theorem sParseShape_q (hl : l.length ≤ 1500000) (hv : parC l = v) (hs : parS l = (k, ps)) (hm : ps.length = m) (hx : flatP ps = xs) :
    Calls Tryz.prog 11 #[.string (strB l)] w (ParQ w v k m xs) := (sParseShape_any l w hl).mono fun _ _ h => h.q hv hs hm hx
theorem PrintShape_q (h : Rd w a (n * 2) xs) (hp : Pow10 w) (hv : shapeC k xs n = v) (ht : printS k xs n = T) :
    Calls Tryz.prog 6 #[.agg #[.int .i64 k, .slice a n c]] w (Ans w (.agg #[.int .i64 v, .string T])) := by
  subst hv ht; exact PrintShape_any k a n c xs w h hp
theorem sPrintShape_q (h : Rd w a (n * 2) xs) (hv : shapeC k xs n = v) (ht : printS k xs n = T) :
    Calls Tryz.prog 10 #[.agg #[.int .i64 k, .slice a n c]] w (Ans w (.agg #[.int .i64 v, .string T])) := by
  subst hv ht; exact sPrintShape_any k a n c xs w h
theorem ShapeFault_q (h : Rd w a (n * 2) xs) (hv : shapeC k xs n = v) : Calls Tryz.prog 14 #[.agg #[.int .i64 k, .slice a n c]] w (Ans w (.int .i64 v)) := by
  subst hv; exact ShapeFault_any k a n c xs w h
theorem sShapeFault_q (h : Rd w a (n * 2) xs) (hv : shapeC k xs n = v) : Calls Tryz.prog 15 #[.agg #[.int .i64 k, .slice a n c]] w (Ans w (.int .i64 v)) := by
  subst hv; exact sShapeFault_any k a n c xs w h
theorem SameShapes_t (h : Rd w a (n * 2) xs) (h' : Rd w b (m * 2) ys) (ht : sameShp k xs n q ys m = t) :
    Calls Tryz.prog 12 #[.agg #[.int .i64 k, .slice a n c], .agg #[.int .i64 q, .slice b m d]] w (Ans w (.bool t)) := by
  subst ht; exact SameShapes_any k a n c xs q b m d ys w h h'
theorem sSameShapes_t (h : Rd w a (n * 2) xs) (h' : Rd w b (m * 2) ys) (ht : sameShp k xs n q ys m = t) :
    Calls Tryz.prog 13 #[.agg #[.int .i64 k, .slice a n c], .agg #[.int .i64 q, .slice b m d]] w (Ans w (.bool t)) := by
  subst ht; exact sSameShapes_any k a n c xs q b m d ys w h h'
theorem sameShp_self (k : Int) (xs : List Int) (n : Nat) : sameShp k xs n k xs n = true := by
  unfold sameShp samePts; simp

end Go.Proofs.YtlhiahhpmjiioadGreatDoor
