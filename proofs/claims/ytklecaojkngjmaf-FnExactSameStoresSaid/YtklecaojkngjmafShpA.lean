/-
  Contracts of ShapeFault, the program's and the model's; of isRing, sizesOf. Condition: the slice reads as a list of numbers, two a point.
-/
import Derived.Test.YtklecaojkngjmafPtM
import Derived.Test.YtklecaojkngjmafOrd
import Derived.Laws.StructEq
namespace Go.Proofs.Ytklecaojkngjmaf
open Go.RowKit

theorem run_ptEq (w : World) (x y u v : Int) : (binOp .eql 50 (.agg #[.int .i64 x, .int .i64 y]) (.agg #[.int .i64 u, .int .i64 v])).run Try.prog w = .ok (.bool ((x == u) && (y == v))) w := by
  rw [run_eql_struct]
  rw [run_equalIn_agg w 9999 50 _ _ (by kernel_rfl) (by kernel_rfl)]
  cases hp : (x == u)
  · simp [Op.eqFields, go_sem, hp]
  · cases ht : (y == v) <;> simp [Op.eqFields, go_sem, hp, ht]
theorem run_ptNe (w : World) (x y u v : Int) : (binOp .neq 50 (.agg #[.int .i64 x, .int .i64 y]) (.agg #[.int .i64 u, .int .i64 v])).run Try.prog w = .ok (.bool (!((x == u) && (y == v)))) w := by
  rw [run_neq_struct]
  rw [run_equalIn_agg w 9999 50 _ _ (by kernel_rfl) (by kernel_rfl)]
  cases hp : (x == u)
  · simp [Op.eqFields, go_sem, hp]
  · cases ht : (y == v) <;> simp [Op.eqFields, go_sem, hp, ht]

/-- The first point is the last one. -/
def sameEnds (xs : List Int) (n : Nat) : Bool := (xs.getD 0 0 == xs.getD ((n - 1) * 2) 0) && (xs.getD 1 0 == xs.getD ((n - 1) * 2 + 1) 0)
def ringOk (xs : List Int) (n : Nat) : Bool := decide (4 ≤ n) && sameEnds xs n

def szLo (k : Int) : Int := if k = 3 then 2 else if k = 4 then 4 else 1
def szHi (k : Int) : Int := if k = 1 then 1 else 12
/-- Not so many points as the kind has. -/
def fewS (k : Int) (n : Nat) : Prop := (k = 1 ∧ n ≠ 1) ∨ (k = 3 ∧ n < 2) ∨ (k = 4 ∧ n < 4)
def inK (k : Int) : Bool := decide (1 ≤ k ∧ k ≤ 4)
instance (k : Int) (n : Nat) : Decidable (fewS k n) := by unfold fewS; exact inferInstance
def shapeC (k : Int) (xs : List Int) (n : Nat) : Int :=
  if inK k = false then 1 else if ptsFault xs n ≠ 0 then ptsFault xs n else if fewS k n then 2 else if k = 4 ∧ sameEnds xs n = false then 1 else 0

theorem shapeC_kind {k : Int} {xs : List Int} {n : Nat} (h : inK k = false) : shapeC k xs n = 1 := if_pos h
theorem shapeC_pts {k : Int} {xs : List Int} {n : Nat} (h : inK k = true) (hp : ptsFault xs n ≠ 0) : shapeC k xs n = ptsFault xs n := by
  unfold shapeC; rw [if_neg (by rw [h]; simp), if_pos hp]
theorem shapeC_few {k : Int} {xs : List Int} {n : Nat} (h : inK k = true) (hp : ptsFault xs n = 0) (hf : fewS k n) : shapeC k xs n = 2 := by
  unfold shapeC; rw [if_neg (by rw [h]; simp), if_neg (fun x => x hp), if_pos hf]
theorem shapeC_ring {k : Int} {xs : List Int} {n : Nat} (h : inK k = true) (hp : ptsFault xs n = 0) (hf : ¬ fewS k n) (hr : k = 4 ∧ sameEnds xs n = false) : shapeC k xs n = 1 := by
  unfold shapeC; rw [if_neg (by rw [h]; simp), if_neg (fun x => x hp), if_neg hf, if_pos hr]
theorem shapeC_ok {k : Int} {xs : List Int} {n : Nat} (h : inK k = true) (hp : ptsFault xs n = 0) (hf : ¬ fewS k n) (hr : ¬ (k = 4 ∧ sameEnds xs n = false)) : shapeC k xs n = 0 := by
  unfold shapeC; rw [if_neg (by rw [h]; simp), if_neg (fun x => x hp), if_neg hf, if_neg hr]
theorem ptsFault_len {xs : List Int} {n : Nat} (h : ptsFault xs n = 0) : 1 ≤ n ∧ n ≤ 12 := by
  unfold ptsFault at h
  by_cases hh : n < 1 ∨ 12 < n
  · rw [if_pos hh] at h; omega
  · omega

attribute [local go_sem ↓] run_ptEq run_ptNe

theorem boxS {w w1 : World} {k : Int} {a : Option Addr} {n c : Nat} {T : TypeId} (hk : Kept [] (w.alloc (.cells #[.int .i64 k, .slice a n c] T)) w1) :
    w1.cell? ⟨w.heap.size, 0, none⟩ = some (.int .i64 k) ∧ w1.cell? ⟨w.heap.size, 1, none⟩ = some (.slice a n c) :=
  ⟨(hk.top rfl (by simp) 0 (v := .int .i64 k) rfl).1, (hk.top rfl (by simp) 1 (v := .slice a n c) rfl).1⟩

end Go.Proofs.Ytklecaojkngjmaf
