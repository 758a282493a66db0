/-
  A slice of points that a call owns; one point more at its end; a shape's reading in steps. No condition.
-/
import Derived.Test.YtlhiahhpmjiioacGreatDoorPsB
import Derived.Test.YtlhiahhpmjiioacGreatDoorOwP
namespace Go.Proofs.YtlhiahhpmjiioacGreatDoor
open Go.RowKit

/-- How much the reader in R has left. -/
def leftOf (w : World) (R : Nat) : Nat := match w.cell? ⟨R, 0, none⟩ with | some (.string s) => s.size | _ => 0
theorem Rdr.left {w : World} {R : Nat} {l : List UInt8} (h : Rdr w R l) : leftOf w R = l.length := by unfold leftOf; rw [h.cell]; exact strB_size l

/-- A shape and what is left behind it and the blanks. -/
def shapeQ (l : List UInt8) : Option (Int × List (Int × Int) × List UInt8) :=
  (kindR (blk l)).bind fun k => (openR 40 (parK k.1) k.2).bind fun t => (pointR t).bind fun p => (ptsR (p.2.length + 1) p.2).bind fun q => (openR 41 (parK k.1) q.2).bind fun u => some (k.1, p.1 :: q.1, blk u)
theorem shapeR_Q (l : List UInt8) : shapeR l = (shapeQ l).bind fun x => if x.2.2 = [] then some (x.1, x.2.1) else none := by
  unfold shapeR shapeQ
  simp only [Option.bind_assoc, Option.bind_some]
theorem openR_yes {c : UInt8} {m : Nat} {l : List UInt8} (h : markB c l = true) : openR c (m + 1) l = openR c m (markL c l) := by
  have h := of_decide_eq_true h
  rw [openR, if_pos h, markL_yes h]
theorem openR_no {c : UInt8} {m : Nat} {l : List UInt8} (h : markB c l = false) : openR c (m + 1) l = none := by
  rw [openR, if_neg (of_decide_eq_false h)]
/-- Where the reading of the points is: ps so far, cur left. -/
def PtsAt (t : List UInt8) (p : Int × Int) (ps : List (Int × Int)) (cur : List UInt8) : Prop :=
  ∃ f, cur.length < f ∧ ((ptsR (t.length + 1) t).map fun q => (p :: q.1, q.2)) = (ptsR f cur).map fun q => (ps ++ q.1, q.2)
theorem ptsAt_start (t : List UInt8) (p : Int × Int) : PtsAt t p [p] t := ⟨t.length + 1, Nat.lt_succ_self _, rfl⟩
theorem ptsAt_stop {t cur : List UInt8} {p : Int × Int} {ps : List (Int × Int)} (h : PtsAt t p ps cur) (hm : markB 44 cur = false) : (ptsR (t.length + 1) t).map (fun q => (p :: q.1, q.2)) = some (ps, markL 44 cur) := by
  obtain ⟨f, hf, e⟩ := h
  have hm := of_decide_eq_false hm
  cases f with
  | zero => omega
  | succ f => rw [e, ptsR, if_neg hm, markL_no hm]; simp
theorem ptsAt_no {t cur : List UInt8} {p : Int × Int} {ps : List (Int × Int)} (h : PtsAt t p ps cur) (hm : markB 44 cur = true) (hp : pointR (markL 44 cur) = none) : ptsR (t.length + 1) t = none := by
  obtain ⟨f, hf, e⟩ := h
  have hm := of_decide_eq_true hm
  rw [markL_yes hm] at hp
  cases f with
  | zero => omega
  | succ f =>
    have e2 : ptsR (f + 1) cur = none := by rw [ptsR, if_pos hm, hp]; rfl
    rw [e2] at e
    simp only [Option.map_none] at e
    exact Option.map_eq_none_iff.1 e
theorem ptsAt_next {t cur r : List UInt8} {p q : Int × Int} {ps : List (Int × Int)} (h : PtsAt t p ps cur) (hm : markB 44 cur = true) (hp : pointR (markL 44 cur) = some (q, r)) : PtsAt t p (ps ++ [q]) r ∧ r.length < cur.length := by
  obtain ⟨f, hf, e⟩ := h
  have hml := markL_len 44 cur
  have hm := of_decide_eq_true hm
  obtain ⟨_, _, _, _, hlt⟩ := pointR_some hp
  rw [markL_yes hm] at hp
  cases f with
  | zero => omega
  | succ f =>
    refine ⟨⟨f, by omega, ?_⟩, by omega⟩
    have e2 : ptsR (f + 1) cur = (ptsR f r).map fun x => (q :: x.1, x.2) := by rw [ptsR, if_pos hm, hp]; rfl
    rw [e, e2, Option.map_map]
    congr 1
    funext x
    simp

end Go.Proofs.YtlhiahhpmjiioacGreatDoor
