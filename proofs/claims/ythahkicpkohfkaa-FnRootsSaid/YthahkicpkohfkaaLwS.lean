/-
  Contracts of lwNums and lwSame at any two lists, and what the laws on bigs ask of a comparison. Condition: the slices read as lists of numbers.
-/
import Derived.Test.YthahkicpkohfkaaDrwA
import Derived.Test.YthahkicpkohfkaaBigsP
import Derived.Test.YthahkicpkohfkaaSameC
namespace Go.Proofs.Ythahkicpkohfkaa
open Go.RowKit

set_option maxHeartbeats 400000 in
theorem lwNums_any (a b : Option Addr) (n c m c' : Nat) (xs ys : List Int) (w : World) (h : Rd w a n xs) (h' : Rd w b m ys) :
    Calls Try.prog 54 #[.slice a n c, .slice b m c'] w (Ans w (.bool (decide (xs = ys)))) := by
  by_cases he : xs = ys
  · subst he
    obtain rfl : n = m := by rw [← h.1, ← h'.1]
    rw [decide_eq_true rfl]
    exact lwNums_yes a b n c c' xs w h h'
  rw [decide_eq_false he]
  have hm1 := h.2.1
  have hm2 := h'.2.1
  by_cases hnm : n = m
  · subst hnm
    have hlen : xs.length = ys.length := by rw [h.1, h'.1]
    have HE := Lib.hid (fun hh : (∀ i, i < n → xs.getD i 0 = ys.getD i 0) => he (getD_ext hlen (fun i hi => hh i (by rw [← h.1]; exact hi))))
    have HR := Lib.hid h
    have HR' := Lib.hid h'
    clear h h' he hlen
    go_enter Try.func54, Try.ntmps54
    go_wp2
    go_loopw [5] (fun i wr => ∃ k : Nat, k ≤ n ∧ i = .int .i64 k ∧ Hid (∀ i, i < k → xs.getD i 0 = ys.getD i 0) ∧ Hid (Kept [] w wr)) (fun i _ => n - (intOf i).toNat)
    case atStart => exact ⟨0, Nat.zero_le _, rfl, fun i hi => by omega, Kept.refl [] w⟩
    case round =>
      obtain ⟨k, hk, rfl, hO, hK⟩ := hrel
      by_cases hlt : k < n
      · obtain ⟨g, off, rfl, hc0⟩ := HR.out.2.2 k hlt
        obtain ⟨g', off', rfl, hc0'⟩ := HR'.out.2.2 k hlt
        have hc := hK.out.cell hc0 (by simp)
        have hc' := hK.out.cell hc0' (by simp)
        clear hc0 hc0'
        by_cases hxy : xs.getD k 0 = ys.getD k 0
        · have hO2 : Hid (∀ i, i < k + 1 → xs.getD i 0 = ys.getD i 0) := fun i hi => by
            by_cases e : i < k
            · exact hO.out i e
            · obtain rfl : i = k := by omega
              exact hxy
          rw [← hxy] at hc'
          clear hxy
          generalize xs.getD k 0 = z at *
          go_wp2
          go_quiet (fail)
          have hK2 : Hid (Kept [] w (wr.drewN nq)) := hK.out.drewN _
          clear hK
          go_wp2
          go_roundw
          case rel => exact ⟨k + 1, by omega, by go_num, hO2, hK2⟩
          case measure => simp [intOf]; omega
        · have hb : (xs.getD k 0 == ys.getD k 0) = false := beq_eq_false_iff_ne.2 hxy
          generalize xs.getD k 0 = z at *
          generalize ys.getD k 0 = z' at *
          go_wp2
          go_quiet (fail)
          have hK2 : Hid (Kept [] w (wr.drewN nq)) := hK.out.drewN _
          clear hK
          go_wp2
          go_ret
          exact ⟨rfl, hK2.out⟩
      · exact absurd (fun i hi => hO.out i (by omega)) HE.out
  · have hb : ((n : Int) == (m : Int)) = false := by rw [beq_eq_false_iff_ne]; omega
    clear h h' he
    go_enter Try.func54, Try.ntmps54
    go_wp2
    go_ret
    exact ⟨rfl, Kept.refl _ _⟩

def sameD (p : Bool) (xs : List Int) (q : Bool) (ys : List Int) : Bool := (p == q) && decide (xs = ys)
theorem sameD_self (p : Bool) (xs : List Int) : sameD p xs p xs = true := by unfold sameD; simp

set_option maxHeartbeats 1000000 in
theorem lwSame_any (p q : Bool) (a b : Option Addr) (n c m d : Nat) (xs ys : List Int) (w : World) (h : Rd w a n xs) (h' : Rd w b m ys) :
    Calls Try.prog 16 #[.agg #[.bool p, .slice a n c], .agg #[.bool q, .slice b m d]] w (Ans w (.bool (sameD p xs q ys))) := by
  obtain ⟨r, hr⟩ : ∃ r, decide (xs = ys) = r := ⟨_, rfl⟩
  rw [show sameD p xs q ys = ((p == q) && r) by unfold sameD; rw [hr]]
  have HRR := Lib.hid hr
  have HR := Lib.hid h
  have HR' := Lib.hid h'
  clear h h' hr
  cases p <;> cases q
  · go_enter Try.func16, Try.ntmps16
    go_wp2_with fail
    refine (lwNums_any _ _ _ _ _ _ _ _ _ (HR.out.kept0 (((Kept.refl [] w).alloc _).alloc _)) (HR'.out.kept0 (((Kept.refl [] w).alloc _).alloc _))).mono ?_
    rintro e w1 ⟨rfl, hk⟩
    rw [HRR.out]
    go_wp2_with fail
    go_ret
    exact ⟨rfl, hk.peel.peel⟩
  · go_enter Try.func16, Try.ntmps16
    go_wp2_with fail
    go_ret
    exact ⟨rfl, ((Kept.refl _ _).alloc _).alloc _⟩
  · go_enter Try.func16, Try.ntmps16
    go_wp2_with fail
    go_ret
    exact ⟨rfl, ((Kept.refl _ _).alloc _).alloc _⟩
  · go_enter Try.func16, Try.ntmps16
    go_wp2_with fail
    refine (lwNums_any _ _ _ _ _ _ _ _ _ (HR.out.kept0 (((Kept.refl [] w).alloc _).alloc _)) (HR'.out.kept0 (((Kept.refl [] w).alloc _).alloc _))).mono ?_
    rintro e w1 ⟨rfl, hk⟩
    rw [HRR.out]
    go_wp2_with fail
    go_ret
    exact ⟨rfl, hk.peel.peel⟩
theorem lwSame_yes (p : Bool) (a b : Option Addr) (n c d : Nat) (xs : List Int) (w : World) (h : Rd w a n xs) (h' : Rd w b n xs) :
    Calls Try.prog 16 #[.agg #[.bool p, .slice a n c], .agg #[.bool p, .slice b n d]] w (Ans w (.bool true)) := by
  have := lwSame_any p p a b n c n d xs xs w h h'
  rwa [sameD_self] at this

theorem bigFault2_comm {p q : Bool} {xs ys : List Int} : bigFault2 p xs q ys = 0 ↔ bigFault2 q ys p xs = 0 :=
  ⟨fun h => bigFault2_of (bigFault2_zero h).2 (bigFault2_zero h).1, fun h => bigFault2_of (bigFault2_zero h).2 (bigFault2_zero h).1⟩
theorem cmpB_flip (p : Bool) (xs : List Int) (q : Bool) (ys : List Int) : cmpB q ys p xs = -cmpB p xs q ys := by
  unfold cmpB
  by_cases h : bigFault2 p xs q ys = 0
  · rw [if_pos h, if_pos (bigFault2_comm.1 h)]
    unfold cmpV
    split <;> split <;> (try split) <;> omega
  · rw [if_neg h, if_neg (fun h' => h (bigFault2_comm.2 h'))]; rfl
theorem cmpB_small (p : Bool) (xs : List Int) (q : Bool) (ys : List Int) : -1 ≤ cmpB p xs q ys ∧ cmpB p xs q ys ≤ 1 := by
  unfold cmpB cmpV
  split
  · split
    · omega
    · split <;> omega
  · omega
theorem Near.in64 {xs : List Int} (h : Near xs) : In64 xs := by
  intro z hz
  obtain ⟨i, hi, rfl⟩ := List.getElem_of_mem hz
  have := h i hi
  rw [List.getD_eq_getElem?_getD, List.getElem?_eq_getElem hi, Option.getD_some] at this
  omega

/-- What a call that answers a big with a code answers, by its three parts. -/
def BR3 (w : World) (c : Int) (n : Bool) (l : List Int) (e : Ending) (w' : World) : Prop :=
  ∃ a d, e = .returned (.agg #[.int .i64 c, .bool n, .slice a l.length d]) ∧ Sl w' a l.length d l ∧ Fr w.heap.size a l.length ∧ Kept [] w w'
theorem bigR3 (w : World) (c : Int) (n : Bool) (l : List Int) : BigR w ⟨c, n, l⟩ = BR3 w c n l := rfl

end Go.Proofs.Ythahkicpkohfkaa
