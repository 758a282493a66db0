/-
  Contracts of ShapeFault, the program's and the model's; of isRing, sizesOf. Condition: the slice reads as a list of numbers, two a point.
-/
import Derived.Test.YtlhiahhpmjiioadGreatDoorPtM
import Derived.Test.YtlhiahhpmjiioadGreatDoorOrd
import Derived.Laws.StructEq
namespace Go.Proofs.YtlhiahhpmjiioadGreatDoor
open Go.RowKit

theorem run_ptEq (w : World) (x y u v : Int) : (binOp .eql 44 (.agg #[.int .i64 x, .int .i64 y]) (.agg #[.int .i64 u, .int .i64 v])).run Tryz.prog w = .ok (.bool ((x == u) && (y == v))) w := by
  rw [run_eql_struct]
  rw [run_equalIn_agg w 9999 44 _ _ (by kernel_rfl) (by kernel_rfl)]
  cases hp : (x == u)
  · simp [Op.eqFields, go_sem, hp]
  · cases ht : (y == v) <;> simp [Op.eqFields, go_sem, hp, ht]
theorem run_ptNe (w : World) (x y u v : Int) : (binOp .neq 44 (.agg #[.int .i64 x, .int .i64 y]) (.agg #[.int .i64 u, .int .i64 v])).run Tryz.prog w = .ok (.bool (!((x == u) && (y == v)))) w := by
  rw [run_neq_struct]
  rw [run_equalIn_agg w 9999 44 _ _ (by kernel_rfl) (by kernel_rfl)]
  cases hp : (x == u)
  · simp [Op.eqFields, go_sem, hp]
  · cases ht : (y == v) <;> simp [Op.eqFields, go_sem, hp, ht]

/-- The first point is the last one. -/
def sameEnds (xs : List Int) (n : Nat) : Bool := (xs.getD 0 0 == xs.getD ((n - 1) * 2) 0) && (xs.getD 1 0 == xs.getD ((n - 1) * 2 + 1) 0)
def ringOk (xs : List Int) (n : Nat) : Bool := decide (4 ≤ n) && sameEnds xs n

def szLo (k : Int) : Int := if k = 3 then 2 else if k = 4 then 4 else 1
def szHi (k : Int) : Int := if k = 1 then 1 else 12
/-- Not so many points as the kind has. -/
def fewS (k : Int) (n : Nat) : Prop := (k = 1 ∧ n ≠ 1) ∨ (k = 3 ∧ n < 2) ∨ (k = 4 ∧ n < 4)
def inK (k : Int) : Bool := decide (1 ≤ k ∧ k ≤ 4)
instance (k : Int) (n : Nat) : Decidable (fewS k n) := by unfold fewS; exact inferInstance
def shapeC (k : Int) (xs : List Int) (n : Nat) : Int :=
  if inK k = false then 1 else if ptsFault xs n ≠ 0 then ptsFault xs n else if fewS k n then 2 else if k = 4 ∧ sameEnds xs n = false then 1 else 0

theorem shapeC_kind {k : Int} {xs : List Int} {n : Nat} (h : inK k = false) : shapeC k xs n = 1 := if_pos h
theorem shapeC_pts {k : Int} {xs : List Int} {n : Nat} (h : inK k = true) (hp : ptsFault xs n ≠ 0) : shapeC k xs n = ptsFault xs n := by
  unfold shapeC; rw [if_neg (by rw [h]; simp), if_pos hp]
theorem shapeC_few {k : Int} {xs : List Int} {n : Nat} (h : inK k = true) (hp : ptsFault xs n = 0) (hf : fewS k n) : shapeC k xs n = 2 := by
  unfold shapeC; rw [if_neg (by rw [h]; simp), if_neg (fun x => x hp), if_pos hf]
theorem shapeC_ring {k : Int} {xs : List Int} {n : Nat} (h : inK k = true) (hp : ptsFault xs n = 0) (hf : ¬ fewS k n) (hr : k = 4 ∧ sameEnds xs n = false) : shapeC k xs n = 1 := by
  unfold shapeC; rw [if_neg (by rw [h]; simp), if_neg (fun x => x hp), if_neg hf, if_pos hr]
theorem shapeC_ok {k : Int} {xs : List Int} {n : Nat} (h : inK k = true) (hp : ptsFault xs n = 0) (hf : ¬ fewS k n) (hr : ¬ (k = 4 ∧ sameEnds xs n = false)) : shapeC k xs n = 0 := by
  unfold shapeC; rw [if_neg (by rw [h]; simp), if_neg (fun x => x hp), if_neg hf, if_neg hr]
theorem ptsFault_len {xs : List Int} {n : Nat} (h : ptsFault xs n = 0) : 1 ≤ n ∧ n ≤ 12 := by
  unfold ptsFault at h
  by_cases hh : n < 1 ∨ 12 < n
  · rw [if_pos hh] at h; omega
  · omega

attribute [local go_sem ↓] run_ptEq run_ptNe

set_option maxHeartbeats 2000000 in
theorem isRing_no (a : Option Addr) (n c : Nat) (w : World) (hn : n < 4) :
    Calls Tryz.prog 37 #[.slice a n c] w (Ans w (.bool false)) := by
  have h4 : decide ((4 : Int) ≤ n) = false := decide_eq_false (by omega)
  go_enter Tryz.func37, Tryz.ntmps37
  go_wp2
  go_quiet (fail)
  go_wp2
  go_ret
  exact ⟨rfl, (Kept.refl _ _).drewN _⟩

set_option maxHeartbeats 4000000 in
theorem isRing_yes (a : Option Addr) (n c : Nat) (xs : List Int) (w : World) (h : Rd w a (n * 2) xs) (hn : 4 ≤ n) :
    Calls Tryz.prog 37 #[.slice a n c] w (Ans w (.bool (sameEnds xs n))) := by
  have hmax : n ≤ 4611686018427387903 := by have := h.2.1; omega
  obtain ⟨g, off, rfl, c0, c1⟩ := rd_pt h 0 (by omega)
  obtain ⟨g', off', he, d0, d1⟩ := rd_pt h (n - 1) (by omega)
  simp at he
  obtain ⟨rfl, rfl⟩ := he
  clear h
  obtain ⟨v, hv⟩ : ∃ v, sameEnds xs n = v := ⟨_, rfl⟩
  have HV := Lib.hid hv
  unfold sameEnds at hv
  simp only [Nat.zero_mul, Nat.add_zero, Nat.zero_add] at c0 c1
  generalize xs.getD 0 0 = x0 at *
  generalize xs.getD 1 0 = x1 at *
  generalize xs.getD ((n - 1) * 2) 0 = y0 at *
  generalize xs.getD ((n - 1) * 2 + 1) 0 = y1 at *
  have HV2 := Lib.hid hv
  clear hv
  have e1 : IntKind.i64.wrap ((n : Int) - 1) = (n : Int) - 1 := IntWalk.i64_in _ (by omega)
  have hlt1 : n - 1 < n := by omega
  have hlt2 : (n : Int) - 1 < n := by omega
  have hnn : (1 : Int) ≤ n := by omega
  have h0n : 0 < n := by omega
  have h4 : decide ((4 : Int) ≤ n) = true := decide_eq_true (by omega)
  go_enter Tryz.func37, Tryz.ntmps37
  go_wp2
  go_quiet (fail)
  go_wp2
  go_ret
  exact ⟨by rw [HV.out, ← HV2.out]; rfl, (Kept.refl _ _).drewN _⟩

set_option maxHeartbeats 2000000 in
theorem sizesOf_any (k : Int) (w : World) :
    Calls Tryz.prog 36 #[.int .i64 k] w (Ans w (.tuple #[.int .i64 (szLo k), .int .i64 (szHi k)])) := by
  by_cases h1 : k = 1
  · subst h1
    go_enter Tryz.func36, Tryz.ntmps36
    go_wp2
    go_ret2
    exact ⟨rfl, Kept.refl _ _⟩
  by_cases h3 : k = 3
  · subst h3
    clear h1
    go_enter Tryz.func36, Tryz.ntmps36
    go_wp2
    go_ret2
    exact ⟨rfl, Kept.refl _ _⟩
  by_cases h4 : k = 4
  · subst h4
    clear h1 h3
    go_enter Tryz.func36, Tryz.ntmps36
    go_wp2
    go_ret2
    exact ⟨rfl, Kept.refl _ _⟩
  have HV := Lib.hid (show szLo k = 1 ∧ szHi k = 12 by unfold szLo szHi; rw [if_neg h3, if_neg h4, if_neg h1]; exact ⟨rfl, rfl⟩)
  go_enter Tryz.func36, Tryz.ntmps36
  go_wp2
  go_ret2
  exact ⟨by rw [HV.out.1, HV.out.2]; rfl, Kept.refl _ _⟩

theorem boxS {w w1 : World} {k : Int} {a : Option Addr} {n c : Nat} {T : TypeId} (hk : Kept [] (w.alloc (.cells #[.int .i64 k, .slice a n c] T)) w1) :
    w1.cell? ⟨w.heap.size, 0, none⟩ = some (.int .i64 k) ∧ w1.cell? ⟨w.heap.size, 1, none⟩ = some (.slice a n c) :=
  ⟨(hk.top rfl (by simp) 0 (v := .int .i64 k) rfl).1, (hk.top rfl (by simp) 1 (v := .slice a n c) rfl).1⟩

end Go.Proofs.YtlhiahhpmjiioadGreatDoor
