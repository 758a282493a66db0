/-
  A slice of strings that a call owns; one string more at its end. No condition.
-/
import Derived.Test.YtlhiahhpmjiioadGreatDoorJ1
import Derived.Test.YtlhiahhpmjiioadGreatDoorCooP
namespace Go.Proofs.YtlhiahhpmjiioadGreatDoor
open Go.RowKit

theorem Tryz.infoStr : (Tryz.prog.info? 9).map (fun i => (i.zero, i.size, i.bytes)) = some (some (.string ⟨#[]⟩), 1, 16) := by kernel_rfl
def strV (l : List UInt8) : Value := .string (strB l)
/-- The call owns, from block B on, a slice that holds these strings. -/
def OwS (B : Nat) (w : World) (v : Value) (xs : List (List UInt8)) : Prop := w.ownsRow B 9 1 v xs.length (xs.map strV)
theorem OwS.alloc {B : Nat} {w : World} {v : Value} {xs : List (List UInt8)} (h : OwS B w v xs) (o : Obj) : OwS B (w.alloc o) v xs := World.ownsRow.alloc h o
theorem OwS.kept {B : Nat} {w w' : World} {v : Value} {xs : List (List UInt8)} {L : List Nat} (h : OwS B w v xs) (k : Kept L w w') (hL : ∀ g, v.ownBlock = some g → g ∉ L) : OwS B w' v xs := by
  have hlt := World.ownsRow.lt h
  obtain ⟨h1, h2⟩ := h
  refine ⟨h1, ?_⟩
  rcases h2 with h2 | ⟨g, cap, cur, hv, hg, hh, r⟩
  · exact Or.inl h2
  · exact Or.inr ⟨g, cap, cur, hv, hg, by rw [k.block g (hlt g (by rw [hv]; rfl)).2 (hL g (by rw [hv]; rfl))]; exact hh, r⟩
theorem OwS.kept0 {B : Nat} {w w' : World} {v : Value} {xs : List (List UInt8)} (h : OwS B w v xs) (k : Kept [] w w') : OwS B w' v xs := h.kept k (by simp)
theorem OwS.nil (B : Nat) (w : World) : OwS B w (.slice none 0 0) [] := ⟨rfl, Or.inl ⟨rfl, rfl⟩⟩

theorem OwS.empty {B : Nat} {w : World} {g : Nat} (hg : w.heap.size = g) (hB : B ≤ g) : OwS B (w.alloc (.cells #[] 9)) (.slice (some ⟨g, 0, none⟩) 0 0) [] := by
  subst hg
  exact ⟨rfl, Or.inr ⟨_, 0, #[], rfl, hB, heap_alloc_new w _, Nat.le_refl _, by unfold maxLen; omega, rfl, rfl⟩⟩
theorem appStr {w : World} {ops : Array Oper} {rest : List Oper} {o : Oper} {a : Act} {Q : Exit → Act → World → Prop} (hgd : o.guard = none) (s x : Operand)
    (ho : o.op = .call { callee := .builtin .append, args := #[s, x], argTypes := #[42, 42] })
    (base : Nat) (v : Value) (xs : List (List UInt8)) (hs : a.eval s = v) (hown : OwS base w v xs)
    (g0 : Nat) (y : List UInt8) (hx : a.eval x = .slice (some ⟨g0, 0, none⟩) 1 1) (hc : w.cell? ⟨g0, 0, none⟩ = some (strV y))
    (hlen : xs.length ≤ 1099511627776) (hbase : base ≤ w.heap.size)
    (h : ∀ v' w', OwS base w' v' (xs ++ [y]) → w.grownBy w' v.ownBlock → wpList Tryz.prog ops Q rest (a.put o.dst v') w') :
    wpList Tryz.prog ops Q (o :: rest) a w := by
  obtain ⟨i0, hi, hz0, hz1, hz2⟩ := info_parts Tryz.infoStr
  refine wpList_append_own w hgd s x 42 ho base 9 i0 (.string ⟨#[]⟩) 1 16 Tryz.underlying42 hi hz0 hz1 hz2 rfl (by decide) v xs.length _ hs hown ⟨g0, 0, none⟩ 1 1 [strV y] hx rfl ?_ ?_ ?_ ?_ hbase ?_
  · intro j u hj
    have hj0 : j = 0 := by
      have := (List.getElem?_eq_some_iff.1 hj).1
      simp at this; exact this
    subst hj0
    simp at hj
    subst hj
    rw [Addr.add_lit]; exact hc
  · intro u hu; simp at hu; subst hu; rfl
  · unfold maxLen; omega
  · omega
  · intro v' w' h1 h2 _
    refine h v' w' ?_ h2
    have e : (xs ++ [y]).length = xs.length + 1 := by simp
    unfold OwS
    rw [e, List.map_append]
    exact h1
/-- The like, as a step of a region that draws its order. -/
theorem step_appStr {w : World} {ops : Array Oper} {o : Oper} {a : Act} {K : Act → World → Prop} {Q : Exit → Act → World → Prop} {E : Prop} (hgd : o.guard = none) (s x : Operand)
    (ho : o.op = .call { callee := .builtin .append, args := #[s, x], argTypes := #[42, 42] })
    (base : Nat) (v : Value) (xs : List (List UInt8)) (hs : a.eval s = v) (hown : OwS base w v xs)
    (g0 : Nat) (y : List UInt8) (hx : a.eval x = .slice (some ⟨g0, 0, none⟩) 1 1) (hc : w.cell? ⟨g0, 0, none⟩ = some (strV y))
    (hlen : xs.length ≤ 1099511627776) (hbase : base ≤ w.heap.size)
    (h : ∀ v' w', OwS base w' v' (xs ++ [y]) → w.grownBy w' v.ownBlock → K (a.put o.dst v') w') :
    if Region.wanted o (yielded ops a.tmps) = true then Oper.wp Tryz.prog o a w K Q else E := by
  have hw : Region.wanted o (yielded ops a.tmps) = true := by simp [Region.wanted, hgd]
  rw [if_pos hw]
  obtain ⟨i0, hi, hz0, hz1, hz2⟩ := info_parts Tryz.infoStr
  refine wp_append_own w s x 42 ho base 9 i0 (.string ⟨#[]⟩) 1 16 Tryz.underlying42 hi hz0 hz1 hz2 rfl (by decide) v xs.length _ hs hown ⟨g0, 0, none⟩ 1 1 [strV y] hx rfl ?_ ?_ ?_ ?_ hbase ?_
  · intro j u hj
    have hj0 : j = 0 := by
      have := (List.getElem?_eq_some_iff.1 hj).1
      simp at this; exact this
    subst hj0
    simp at hj
    subst hj
    rw [Addr.add_lit]; exact hc
  · intro u hu; simp at hu; subst hu; rfl
  · unfold maxLen; omega
  · omega
  · intro v' w' h1 h2 _
    refine h v' w' ?_ h2
    have e : (xs ++ [y]).length = xs.length + 1 := by simp
    unfold OwS
    rw [e, List.map_append]
    exact h1
theorem OwS.lt {B : Nat} {w : World} {v : Value} {xs : List (List UInt8)} (h : OwS B w v xs) {g : Nat} (hg : v.ownBlock = some g) : B ≤ g := (World.ownsRow.lt h g hg).1
theorem OwS.grown {L : List Nat} {B : Nat} {w0 w w' : World} {v : Value} {xs : List (List UInt8)} (k : Kept L w0 w) (h : OwS B w v xs) (hB : w0.heap.size ≤ B) (hG : w.grownBy w' v.ownBlock) : Kept L w0 w' :=
  k.grown hG (fun g hg hlt => by have := h.lt hg; omega)
/-- What is in a slice of strings, where there is any. -/
theorem OwS.form {B : Nat} {w : World} {v : Value} {xs : List (List UInt8)} (h : OwS B w v xs) (hn : 0 < xs.length) : ∃ g c, v = .slice (some ⟨g, 0, none⟩) xs.length c ∧ xs.length ≤ c ∧ c ≤ 9223372036854775807 ∧ B ≤ g ∧ g < w.heap.size ∧ ∀ i, i < xs.length → w.cell? ⟨g, i, none⟩ = some (strV (xs.getD i [])) := by
  have hlt := World.ownsRow.lt h
  obtain ⟨h1, h2⟩ := h
  rcases h2 with ⟨_, h2⟩ | ⟨g, cap, cur, hv, hg, hh, hc, hm, hs, ht⟩
  · omega
  · subst hv
    unfold maxLen at hm
    refine ⟨g, cap, rfl, hc, by omega, hg, (hlt g rfl).2, fun i hi => ?_⟩
    rw [cell_of_row w g i cur _ _ hh]
    have : (cur.toList.take (xs.length * 1))[i]? = (xs.map strV)[i]? := by rw [ht]
    rw [List.getElem?_take, if_pos (by omega)] at this
    rw [← Array.getElem?_toList, this]
    simp [List.getD_eq_getElem?_getD, hi]

theorem kept_ownS {w w' : World} {v : Value} (hG : w.grownBy w' v.ownBlock) : Kept v.ownBlock.toList w w' :=
  (Kept.refl _ w).grown hG (fun k hk _ => by rw [hk]; simp)

end Go.Proofs.YtlhiahhpmjiioadGreatDoor
