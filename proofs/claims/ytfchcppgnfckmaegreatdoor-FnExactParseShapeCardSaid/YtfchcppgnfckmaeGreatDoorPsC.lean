/-
  A slice of points that a call owns; one point more at its end; a shape's reading in steps. No condition.
-/
import Derived.Deep.DeepAppendWide
import Derived.Test.YtfchcppgnfckmaeGreatDoorPsB
import Derived.Test.YtfchcppgnfckmaeGreatDoorPtL
import Derived.Test.YtfchcppgnfckmaeGreatDoorJ1
namespace Go.Proofs.YtfchcppgnfckmaeGreatDoor
open Go.RowKit

/-- The numbers of some points, two a point. -/
def flatP : List (Int × Int) → List Int
  | [] => []
  | p :: ps => p.1 :: p.2 :: flatP ps
theorem flatP_len : ∀ ps : List (Int × Int), (flatP ps).length = ps.length * 2
  | [] => rfl
  | p :: ps => by simp only [flatP, List.length_cons, flatP_len ps]; omega
theorem flatP_app (a : List (Int × Int)) (x y : Int) : flatP (a ++ [(x, y)]) = flatP a ++ [x, y] := by
  induction a with
  | nil => rfl
  | cons p a ih => simp only [List.cons_append, flatP, ih]

/-- The call owns, from block B on, a slice that holds these points. -/
def OwP (B : Nat) (w : World) (v : Value) (ps : List (Int × Int)) : Prop := w.ownsRow B 50 2 v ps.length ((flatP ps).map (Value.int .i64))
theorem OwP.alloc {B : Nat} {w : World} {v : Value} {ps : List (Int × Int)} (h : OwP B w v ps) (o : Obj) : OwP B (w.alloc o) v ps := World.ownsRow.alloc h o
theorem OwP.lt {B : Nat} {w : World} {v : Value} {ps : List (Int × Int)} (h : OwP B w v ps) {g : Nat} (hg : v.ownBlock = some g) : B ≤ g := (World.ownsRow.lt h g hg).1
theorem OwP.kept {B : Nat} {w w' : World} {v : Value} {ps : List (Int × Int)} {L : List Nat} (h : OwP B w v ps) (k : Kept L w w') (hL : ∀ g, v.ownBlock = some g → g ∉ L) : OwP B w' v ps := by
  have hlt := World.ownsRow.lt h
  obtain ⟨h1, h2⟩ := h
  refine ⟨h1, ?_⟩
  rcases h2 with h2 | ⟨g, cap, cur, hv, hg, hh, r⟩
  · exact Or.inl h2
  · exact Or.inr ⟨g, cap, cur, hv, hg, by rw [k.block g (hlt g (by rw [hv]; rfl)).2 (hL g (by rw [hv]; rfl))]; exact hh, r⟩
theorem OwP.kept0 {B : Nat} {w w' : World} {v : Value} {ps : List (Int × Int)} (h : OwP B w v ps) (k : Kept [] w w') : OwP B w' v ps := h.kept k (by simp)
theorem OwP.mono {B B' : Nat} {w : World} {v : Value} {ps : List (Int × Int)} (h : OwP B w v ps) (hB : B' ≤ B) : OwP B' w v ps := by
  obtain ⟨h1, h2⟩ := h
  refine ⟨h1, ?_⟩
  rcases h2 with h2 | ⟨g, cap, cur, hv, hg, r⟩
  · exact Or.inl h2
  · exact Or.inr ⟨g, cap, cur, hv, Nat.le_trans hB hg, r⟩
theorem OwP.empty {B : Nat} {w : World} {g : Nat} (hg : w.heap.size = g) (hB : B ≤ g) : OwP B (w.alloc (.cells #[] 50)) (.slice (some ⟨g, 0, none⟩) 0 0) [] := by
  subst hg
  exact ⟨rfl, Or.inr ⟨_, 0, #[], rfl, hB, heap_alloc_new w _, Nat.le_refl _, by unfold maxLen; omega, rfl, rfl⟩⟩
theorem OwP.one {B : Nat} {w : World} {g : Nat} (x y : Int) (hg : w.heap.size = g) (hB : B ≤ g) : OwP B (w.alloc (.cells #[.int .i64 x, .int .i64 y] 50)) (.slice (some ⟨g, 0, none⟩) 1 1) [(x, y)] := by
  subst hg
  exact ⟨rfl, Or.inr ⟨_, 1, #[.int .i64 x, .int .i64 y], rfl, hB, heap_alloc_new w _, Nat.le_refl _, by unfold maxLen; omega, rfl, rfl⟩⟩
theorem OwP.grown {L : List Nat} {B : Nat} {w0 w w' : World} {v : Value} {ps : List (Int × Int)} (k : Kept L w0 w) (h : OwP B w v ps) (hB : w0.heap.size ≤ B) (hG : w.grownBy w' v.ownBlock) : Kept L w0 w' :=
  k.grown hG (fun g hg hlt => by have := h.lt hg; omega)
theorem appP {w : World} {ops : Array Oper} {rest : List Oper} {o : Oper} {a : Act} {Q : Exit → Act → World → Prop} (hgd : o.guard = none) (s x : Operand)
    (ho : o.op = .call { callee := .builtin .append, args := #[s, x], argTypes := #[22, 22] })
    (base : Nat) (v : Value) (ps : List (Int × Int)) (hs : a.eval s = v) (hown : OwP base w v ps)
    (g0 : Nat) (u y : Int) (hx : a.eval x = .slice (some ⟨g0, 0, none⟩) 1 1) (hc : w.cell? ⟨g0, 0, none⟩ = some (.int .i64 u)) (hd : w.cell? ⟨g0, 1, none⟩ = some (.int .i64 y))
    (hlen : ps.length ≤ 1099511627776) (hbase : base ≤ w.heap.size)
    (h : ∀ v' w', OwP base w' v' (ps ++ [(u, y)]) → w.grownBy w' v.ownBlock → wpList Tryz.prog ops Q rest (a.put o.dst v') w') :
    wpList Tryz.prog ops Q (o :: rest) a w := by
  obtain ⟨i0, hi, hz0, hz1, hz2⟩ := info_parts Tryz.infoPt
  refine wpList_append_own_wide w hgd s x 22 ho base 50 i0 (.agg #[.int .i64 0, .int .i64 0]) 2 16 Tryz.underlying22 hi hz0 hz1 hz2 rfl (by decide) v ps.length _ hs hown ⟨g0, 0, none⟩ 1 1 [.int .i64 u, .int .i64 y] hx rfl ?_ ?_ ?_ ?_ hbase ?_
  · intro j z hj
    have hj0 : j < 2 := by
      have := (List.getElem?_eq_some_iff.1 hj).1
      simpa using this
    rcases (by omega : j = 0 ∨ j = 1) with rfl | rfl
    · simp at hj
      subst hj
      rw [Addr.add_lit]; exact hc
    · simp at hj
      subst hj
      rw [Addr.add_lit]; exact hd
  · intro z hz
    simp at hz
    rcases hz with rfl | rfl <;> rfl
  · unfold maxLen; omega
  · omega
  · intro v' w' h1 h2 _
    refine h v' w' ?_ h2
    unfold OwP
    rw [flatP_app, List.map_append, List.length_append]
    exact h1

/-- How much the reader in R has left. -/
def leftOf (w : World) (R : Nat) : Nat := match w.cell? ⟨R, 0, none⟩ with | some (.string s) => s.size | _ => 0
theorem Rdr.left {w : World} {R : Nat} {l : List UInt8} (h : Rdr w R l) : leftOf w R = l.length := by unfold leftOf; rw [h.cell]; exact strB_size l

/-- A shape and what is left behind it and the blanks. -/
def shapeQ (l : List UInt8) : Option (Int × List (Int × Int) × List UInt8) :=
  (kindR (blk l)).bind fun k => (openR 40 (parK k.1) k.2).bind fun t => (pointR t).bind fun p => (ptsR (p.2.length + 1) p.2).bind fun q => (openR 41 (parK k.1) q.2).bind fun u => some (k.1, p.1 :: q.1, blk u)
theorem shapeR_Q (l : List UInt8) : shapeR l = (shapeQ l).bind fun x => if x.2.2 = [] then some (x.1, x.2.1) else none := by
  unfold shapeR shapeQ
  simp only [Option.bind_assoc, Option.bind_some]
theorem openR_yes {c : UInt8} {m : Nat} {l : List UInt8} (h : markB c l = true) : openR c (m + 1) l = openR c m (markL c l) := by
  have h := of_decide_eq_true h
  rw [openR, if_pos h, markL_yes h]
theorem openR_no {c : UInt8} {m : Nat} {l : List UInt8} (h : markB c l = false) : openR c (m + 1) l = none := by
  rw [openR, if_neg (of_decide_eq_false h)]
/-- Where the reading of the points is: ps so far, cur left. -/
def PtsAt (t : List UInt8) (p : Int × Int) (ps : List (Int × Int)) (cur : List UInt8) : Prop :=
  ∃ f, cur.length < f ∧ ((ptsR (t.length + 1) t).map fun q => (p :: q.1, q.2)) = (ptsR f cur).map fun q => (ps ++ q.1, q.2)
theorem ptsAt_start (t : List UInt8) (p : Int × Int) : PtsAt t p [p] t := ⟨t.length + 1, Nat.lt_succ_self _, rfl⟩
theorem ptsAt_stop {t cur : List UInt8} {p : Int × Int} {ps : List (Int × Int)} (h : PtsAt t p ps cur) (hm : markB 44 cur = false) : (ptsR (t.length + 1) t).map (fun q => (p :: q.1, q.2)) = some (ps, markL 44 cur) := by
  obtain ⟨f, hf, e⟩ := h
  have hm := of_decide_eq_false hm
  cases f with
  | zero => omega
  | succ f => rw [e, ptsR, if_neg hm, markL_no hm]; simp
theorem ptsAt_no {t cur : List UInt8} {p : Int × Int} {ps : List (Int × Int)} (h : PtsAt t p ps cur) (hm : markB 44 cur = true) (hp : pointR (markL 44 cur) = none) : ptsR (t.length + 1) t = none := by
  obtain ⟨f, hf, e⟩ := h
  have hm := of_decide_eq_true hm
  rw [markL_yes hm] at hp
  cases f with
  | zero => omega
  | succ f =>
    have e2 : ptsR (f + 1) cur = none := by rw [ptsR, if_pos hm, hp]; rfl
    rw [e2] at e
    simp only [Option.map_none] at e
    exact Option.map_eq_none_iff.1 e
theorem ptsAt_next {t cur r : List UInt8} {p q : Int × Int} {ps : List (Int × Int)} (h : PtsAt t p ps cur) (hm : markB 44 cur = true) (hp : pointR (markL 44 cur) = some (q, r)) : PtsAt t p (ps ++ [q]) r ∧ r.length < cur.length := by
  obtain ⟨f, hf, e⟩ := h
  have hml := markL_len 44 cur
  have hm := of_decide_eq_true hm
  obtain ⟨_, _, _, _, hlt⟩ := pointR_some hp
  rw [markL_yes hm] at hp
  cases f with
  | zero => omega
  | succ f =>
    refine ⟨⟨f, by omega, ?_⟩, by omega⟩
    have e2 : ptsR (f + 1) cur = (ptsR f r).map fun x => (q :: x.1, x.2) := by rw [ptsR, if_pos hm, hp]; rfl
    rw [e, e2, Option.map_map]
    congr 1
    funext x
    simp

end Go.Proofs.YtfchcppgnfckmaeGreatDoor
