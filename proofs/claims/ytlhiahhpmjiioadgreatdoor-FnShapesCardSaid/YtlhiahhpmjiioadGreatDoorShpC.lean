/-
  Contracts of SameShapes, the program's and the model's, and of slices.Equal over points. Condition: the slices read as lists of numbers, two a point.
-/
import Derived.Test.YtlhiahhpmjiioadGreatDoorShpA
namespace Go.Proofs.YtlhiahhpmjiioadGreatDoor
open Go.RowKit

/-- The points are the same up to place k. -/
def SamePt (xs ys : List Int) (k : Nat) : Prop := ∀ i, i < k → xs.getD (i * 2) 0 = ys.getD (i * 2) 0 ∧ xs.getD (i * 2 + 1) 0 = ys.getD (i * 2 + 1) 0
theorem SamePt.more {xs ys : List Int} {k : Nat} (h : SamePt xs ys k) (h0 : xs.getD (k * 2) 0 = ys.getD (k * 2) 0) (h1 : xs.getD (k * 2 + 1) 0 = ys.getD (k * 2 + 1) 0) : SamePt xs ys (k + 1) := by
  intro i hi
  by_cases he : i < k
  · exact h i he
  · obtain rfl : i = k := by omega
    exact ⟨h0, h1⟩
/-- The same number of points, and the same ones. -/
def samePts (xs : List Int) (n : Nat) (ys : List Int) (m : Nat) : Bool := decide (n = m ∧ xs = ys)
theorem samePts_len {xs ys : List Int} {n m : Nat} (h : ¬ n = m) : samePts xs n ys m = false := decide_eq_false (fun x => h x.1)
theorem samePts_at {xs ys : List Int} {n k : Nat} {x0 x1 y0 y1 : Int} (h0 : xs.getD (k * 2) 0 = x0) (h1 : xs.getD (k * 2 + 1) 0 = x1) (g0 : ys.getD (k * 2) 0 = y0) (g1 : ys.getD (k * 2 + 1) 0 = y1) (hd : ((x0 == y0) && (x1 == y1)) = false) : samePts xs n ys n = false := by
  refine decide_eq_false (fun x => ?_)
  obtain ⟨_, rfl⟩ := x
  subst h0 h1 g0 g1
  simp at hd
theorem samePts_all {xs ys : List Int} {n : Nat} (hx : xs.length = n * 2) (hy : ys.length = n * 2) (h : SamePt xs ys n) : samePts xs n ys n = true := by
  refine decide_eq_true ⟨rfl, ?_⟩
  apply List.ext_getElem (by omega)
  intro i h1 h2
  have h3 := h (i / 2) (by omega)
  rcases (by omega : i % 2 = 0 ∨ i % 2 = 1) with hp | hp
  · have e : i / 2 * 2 = i := by omega
    rw [e] at h3
    simpa [List.getD_eq_getElem?_getD, h1, h2] using h3.1
  · have e : i / 2 * 2 + 1 = i := by omega
    rw [e] at h3
    simpa [List.getD_eq_getElem?_getD, h1, h2] using h3.2

attribute [local go_sem ↓] run_ptEq run_ptNe

set_option maxHeartbeats 2000000 in
theorem slEqP_any (a : Option Addr) (n c : Nat) (xs : List Int) (b : Option Addr) (m d : Nat) (ys : List Int) (w : World) (h : Rd w a (n * 2) xs) (h' : Rd w b (m * 2) ys) :
    Calls Tryz.prog 33 #[.slice a n c, .slice b m d] w (Ans w (.bool (samePts xs n ys m))) := by
  have hmax : n ≤ 4611686018427387903 := by have := h.2.1; omega
  have hmax' : m ≤ 4611686018427387903 := by have := h'.2.1; omega
  have HR := Lib.hid h
  have HR' := Lib.hid h'
  clear h h'
  by_cases hnm : n = m
  · subst hnm
    go_enter Tryz.func33, Tryz.ntmps33
    go_wp2
    go_loopw [13] (fun i wr => ∃ k : Nat, k ≤ n ∧ i = .int .i64 k ∧ Hid (SamePt xs ys k) ∧ Hid (Kept [] w wr)) (fun i _ => n - (intOf i).toNat)
    case atStart => exact ⟨0, Nat.zero_le _, rfl, fun i hi => by omega, Kept.refl [] w⟩
    case round =>
      obtain ⟨k, hk, rfl, hO, hK⟩ := hrel
      by_cases hlt : k < n
      · obtain ⟨g, off, rfl, hc0, hc1⟩ := rd_pt HR.out k hlt
        obtain ⟨g', off', rfl, hd0, hd1⟩ := rd_pt HR'.out k hlt
        have c0 := hK.out.cell hc0 (by simp)
        have c1 := hK.out.cell hc1 (by simp)
        have d0 := hK.out.cell hd0 (by simp)
        have d1 := hK.out.cell hd1 (by simp)
        clear hc0 hc1 hd0 hd1
        generalize hx0 : xs.getD (k * 2) 0 = x0 at *
        generalize hx1 : xs.getD (k * 2 + 1) 0 = x1 at *
        generalize hy0 : ys.getD (k * 2) 0 = y0 at *
        generalize hy1 : ys.getD (k * 2 + 1) 0 = y1 at *
        have X := Lib.hid (And.intro (And.intro hx0 hx1) (And.intro hy0 hy1))
        clear hx0 hx1 hy0 hy1
        by_cases hs : ((x0 == y0) && (x1 == y1)) = true
        · have hO2 : Hid (SamePt xs ys (k + 1)) := by
            simp at hs
            exact hO.out.more (by rw [X.out.1.1, X.out.2.1]; exact hs.1) (by rw [X.out.1.2, X.out.2.2]; exact hs.2)
          go_wp2
          go_quiet (fail)
          have hK2 : Hid (Kept [] w (wr.drewN nq)) := hK.out.drewN _
          clear hK
          go_wp2
          go_roundw
          case rel => exact ⟨k + 1, by omega, by go_num, hO2, hK2⟩
          case measure => simp [intOf]; omega
        · have hs' : ((x0 == y0) && (x1 == y1)) = false := by simpa using hs
          have hv := Lib.hid (samePts_at (n := n) X.out.1.1 X.out.1.2 X.out.2.1 X.out.2.2 hs')
          clear hs
          go_wp2
          go_quiet (fail)
          have hK2 : Hid (Kept [] w (wr.drewN nq)) := hK.out.drewN _
          clear hK
          go_wp2
          go_ret
          exact ⟨by rw [hv.out]; rfl, hK2.out⟩
      · obtain rfl : k = n := by omega
        have hv := Lib.hid (samePts_all HR.out.1 HR'.out.1 hO.out)
        go_wp2
        go_ret
        exact ⟨by rw [hv.out]; rfl, hK.out⟩
  · have hv := Lib.hid (samePts_len (xs := xs) (ys := ys) hnm)
    go_enter Tryz.func33, Tryz.ntmps33
    go_wp2
    go_ret
    exact ⟨by rw [hv.out]; rfl, Kept.refl _ _⟩

/-- Both fields are the same. -/
def sameShp (k : Int) (xs : List Int) (n : Nat) (l : Int) (ys : List Int) (m : Nat) : Bool := decide (k = l) && samePts xs n ys m

theorem box2S {w w1 : World} {k l : Int} {a b : Option Addr} {n c m d : Nat} (hk : Kept [] ((w.alloc (.cells #[.int .i64 k, .slice a n c] 26)).alloc (.cells #[.int .i64 l, .slice b m d] 26)) w1) :
    (w1.cell? ⟨w.heap.size, 0, none⟩ = some (.int .i64 k) ∧ w1.cell? ⟨w.heap.size, 1, none⟩ = some (.slice a n c)) ∧ w1.cell? ⟨w.heap.size + 1, 0, none⟩ = some (.int .i64 l) ∧ w1.cell? ⟨w.heap.size + 1, 1, none⟩ = some (.slice b m d) :=
  ⟨⟨(hk.peel.top rfl (by simp) 0 (v := .int .i64 k) rfl).1, (hk.peel.top rfl (by simp) 1 (v := .slice a n c) rfl).1⟩, (hk.top (g := w.heap.size + 1) (by simp) (by simp) 0 (v := .int .i64 l) rfl).1, (hk.top (g := w.heap.size + 1) (by simp) (by simp) 1 (v := .slice b m d) rfl).1⟩

set_option maxHeartbeats 4000000 in
theorem SameShapes_any (k : Int) (a : Option Addr) (n c : Nat) (xs : List Int) (l : Int) (b : Option Addr) (m d : Nat) (ys : List Int) (w : World) (h : Rd w a (n * 2) xs) (h' : Rd w b (m * 2) ys) :
    Calls Tryz.prog 12 #[.agg #[.int .i64 k, .slice a n c], .agg #[.int .i64 l, .slice b m d]] w (Ans w (.bool (sameShp k xs n l ys m))) := by
  have HR := Lib.hid h
  have HR' := Lib.hid h'
  clear h h'
  by_cases hkl : k = l
  · have hv : Hid (sameShp k xs n l ys m = samePts xs n ys m) := by unfold sameShp; rw [decide_eq_true hkl]; exact Bool.true_and _
    subst hkl
    generalize hs : samePts xs n ys m = s at *
    have HS := Lib.hid hs
    clear hs
    go_enter Tryz.func12, Tryz.ntmps12
    go_wp2_with fail
    refine (slEqP_any _ _ _ _ _ _ _ _ _ (HR.out.kept0 (((Kept.refl _ _).alloc _).alloc _)) (HR'.out.kept0 (((Kept.refl _ _).alloc _).alloc _))).mono ?_
    rintro e w1 ⟨rfl, h1⟩
    rw [HS.out]
    go_wp2_with fail
    go_ret
    exact ⟨by rw [hv.out]; rfl, h1.peel.peel⟩
  · have hv : Hid (sameShp k xs n l ys m = false) := by unfold sameShp; rw [decide_eq_false hkl]; exact Bool.false_and _
    go_enter Tryz.func12, Tryz.ntmps12
    go_wp2_with fail
    go_ret
    exact ⟨by rw [hv.out]; rfl, ((Kept.refl _ _).alloc _).alloc _⟩

set_option maxHeartbeats 4000000 in
theorem sSameShapes_any (k : Int) (a : Option Addr) (n c : Nat) (xs : List Int) (l : Int) (b : Option Addr) (m d : Nat) (ys : List Int) (w : World) (h : Rd w a (n * 2) xs) (h' : Rd w b (m * 2) ys) :
    Calls Tryz.prog 13 #[.agg #[.int .i64 k, .slice a n c], .agg #[.int .i64 l, .slice b m d]] w (Ans w (.bool (sameShp k xs n l ys m))) := by
  have hmax : n ≤ 4611686018427387903 := by have := h.2.1; omega
  have hmax' : m ≤ 4611686018427387903 := by have := h'.2.1; omega
  have HR := Lib.hid h
  have HR' := Lib.hid h'
  clear h h'
  by_cases hkl : k = l
  · subst hkl
    by_cases hnm : n = m
    · subst hnm
      have hv : Hid (sameShp k xs n k ys n = samePts xs n ys n) := by unfold sameShp; rw [decide_eq_true rfl]; exact Bool.true_and _
      go_enter Tryz.func13, Tryz.ntmps13
      go_wp2
      go_loopw [5] (fun i wr => ∃ k0 : Nat, k0 ≤ n ∧ i = .int .i64 k0 ∧ Hid (SamePt xs ys k0) ∧ Hid (Kept [] ((w.alloc (.cells #[.int .i64 k, .slice a n c] 26)).alloc (.cells #[.int .i64 k, .slice b n d] 26)) wr)) (fun i _ => n - (intOf i).toNat)
      case atStart => exact ⟨0, Nat.zero_le _, rfl, fun i hi => by omega, Kept.refl [] _⟩
      case round =>
        obtain ⟨k0, hk, rfl, hO, hK⟩ := hrel
        obtain ⟨⟨b0, b1⟩, b2, b3⟩ := box2S hK.out
        by_cases hlt : k0 < n
        · obtain ⟨g, off, rfl, hc0, hc1⟩ := rd_pt HR.out k0 hlt
          obtain ⟨g', off', rfl, hd0, hd1⟩ := rd_pt HR'.out k0 hlt
          have c0 := hK.out.peel.peel.cell hc0 (by simp)
          have c1 := hK.out.peel.peel.cell hc1 (by simp)
          have d0 := hK.out.peel.peel.cell hd0 (by simp)
          have d1 := hK.out.peel.peel.cell hd1 (by simp)
          clear hc0 hc1 hd0 hd1
          generalize hx0 : xs.getD (k0 * 2) 0 = x0 at *
          generalize hx1 : xs.getD (k0 * 2 + 1) 0 = x1 at *
          generalize hy0 : ys.getD (k0 * 2) 0 = y0 at *
          generalize hy1 : ys.getD (k0 * 2 + 1) 0 = y1 at *
          have X := Lib.hid (And.intro (And.intro hx0 hx1) (And.intro hy0 hy1))
          clear hx0 hx1 hy0 hy1
          by_cases hs : ((x0 == y0) && (x1 == y1)) = true
          · have hO2 : Hid (SamePt xs ys (k0 + 1)) := by
              simp at hs
              exact hO.out.more (by rw [X.out.1.1, X.out.2.1]; exact hs.1) (by rw [X.out.1.2, X.out.2.2]; exact hs.2)
            go_wp2
            go_quiet (fail)
            have hK2 := Lib.hid (hK.out.drewN nq)
            clear hK
            go_wp2
            go_roundw
            case rel => exact ⟨k0 + 1, by omega, by go_num, hO2, hK2⟩
            case measure => simp [intOf]; omega
          · have hs' : ((x0 == y0) && (x1 == y1)) = false := by simpa using hs
            have hv2 := Lib.hid (samePts_at (n := n) X.out.1.1 X.out.1.2 X.out.2.1 X.out.2.2 hs')
            clear hs
            go_wp2
            go_quiet (fail)
            have hK2 := Lib.hid (hK.out.drewN nq)
            clear hK
            go_wp2
            go_ret
            exact ⟨by rw [hv.out, hv2.out]; rfl, hK2.out.peel.peel⟩
        · obtain rfl : k0 = n := by omega
          have hv2 := Lib.hid (samePts_all HR.out.1 HR'.out.1 hO.out)
          go_wp2
          go_ret
          exact ⟨by rw [hv.out, hv2.out]; rfl, hK.out.peel.peel⟩
    · have hv : Hid (sameShp k xs n k ys m = false) := by unfold sameShp; rw [samePts_len hnm]; exact Bool.and_false _
      go_enter Tryz.func13, Tryz.ntmps13
      go_wp2
      go_ret
      exact ⟨by rw [hv.out]; rfl, ((Kept.refl _ _).alloc _).alloc _⟩
  · have hv : Hid (sameShp k xs n l ys m = false) := by unfold sameShp; rw [decide_eq_false hkl]; exact Bool.false_and _
    go_enter Tryz.func13, Tryz.ntmps13
    go_wp2
    go_ret
    exact ⟨by rw [hv.out]; rfl, ((Kept.refl _ _).alloc _).alloc _⟩

end Go.Proofs.YtlhiahhpmjiioadGreatDoor
