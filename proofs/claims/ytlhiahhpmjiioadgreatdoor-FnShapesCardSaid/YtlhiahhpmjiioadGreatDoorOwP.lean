/-
  A slice of points that a call owns; one point more at its end. No condition.
-/
import Derived.Deep.DeepAppendWide
import Derived.Test.YtlhiahhpmjiioadGreatDoorPtL
import Derived.Test.YtlhiahhpmjiioadGreatDoorJ1
namespace Go.Proofs.YtlhiahhpmjiioadGreatDoor
open Go.RowKit

/-- The numbers of some points, two a point. -/
def flatP : List (Int × Int) → List Int
  | [] => []
  | p :: ps => p.1 :: p.2 :: flatP ps
theorem flatP_len : ∀ ps : List (Int × Int), (flatP ps).length = ps.length * 2
  | [] => rfl
  | p :: ps => by simp only [flatP, List.length_cons, flatP_len ps]; omega
theorem flatP_app (a : List (Int × Int)) (x y : Int) : flatP (a ++ [(x, y)]) = flatP a ++ [x, y] := by
  induction a with
  | nil => rfl
  | cons p a ih => simp only [List.cons_append, flatP, ih]

/-- The call owns, from block B on, a slice that holds these points. -/
def OwP (B : Nat) (w : World) (v : Value) (ps : List (Int × Int)) : Prop := w.ownsRow B 44 2 v ps.length ((flatP ps).map (Value.int .i64))
theorem OwP.alloc {B : Nat} {w : World} {v : Value} {ps : List (Int × Int)} (h : OwP B w v ps) (o : Obj) : OwP B (w.alloc o) v ps := World.ownsRow.alloc h o
theorem OwP.lt {B : Nat} {w : World} {v : Value} {ps : List (Int × Int)} (h : OwP B w v ps) {g : Nat} (hg : v.ownBlock = some g) : B ≤ g := (World.ownsRow.lt h g hg).1
theorem OwP.kept {B : Nat} {w w' : World} {v : Value} {ps : List (Int × Int)} {L : List Nat} (h : OwP B w v ps) (k : Kept L w w') (hL : ∀ g, v.ownBlock = some g → g ∉ L) : OwP B w' v ps := by
  have hlt := World.ownsRow.lt h
  obtain ⟨h1, h2⟩ := h
  refine ⟨h1, ?_⟩
  rcases h2 with h2 | ⟨g, cap, cur, hv, hg, hh, r⟩
  · exact Or.inl h2
  · exact Or.inr ⟨g, cap, cur, hv, hg, by rw [k.block g (hlt g (by rw [hv]; rfl)).2 (hL g (by rw [hv]; rfl))]; exact hh, r⟩
theorem OwP.kept0 {B : Nat} {w w' : World} {v : Value} {ps : List (Int × Int)} (h : OwP B w v ps) (k : Kept [] w w') : OwP B w' v ps := h.kept k (by simp)
theorem OwP.mono {B B' : Nat} {w : World} {v : Value} {ps : List (Int × Int)} (h : OwP B w v ps) (hB : B' ≤ B) : OwP B' w v ps := by
  obtain ⟨h1, h2⟩ := h
  refine ⟨h1, ?_⟩
  rcases h2 with h2 | ⟨g, cap, cur, hv, hg, r⟩
  · exact Or.inl h2
  · exact Or.inr ⟨g, cap, cur, hv, Nat.le_trans hB hg, r⟩
theorem OwP.empty {B : Nat} {w : World} {g : Nat} (hg : w.heap.size = g) (hB : B ≤ g) : OwP B (w.alloc (.cells #[] 44)) (.slice (some ⟨g, 0, none⟩) 0 0) [] := by
  subst hg
  exact ⟨rfl, Or.inr ⟨_, 0, #[], rfl, hB, heap_alloc_new w _, Nat.le_refl _, by unfold maxLen; omega, rfl, rfl⟩⟩
theorem OwP.one {B : Nat} {w : World} {g : Nat} (x y : Int) (hg : w.heap.size = g) (hB : B ≤ g) : OwP B (w.alloc (.cells #[.int .i64 x, .int .i64 y] 44)) (.slice (some ⟨g, 0, none⟩) 1 1) [(x, y)] := by
  subst hg
  exact ⟨rfl, Or.inr ⟨_, 1, #[.int .i64 x, .int .i64 y], rfl, hB, heap_alloc_new w _, Nat.le_refl _, by unfold maxLen; omega, rfl, rfl⟩⟩
theorem OwP.grown {L : List Nat} {B : Nat} {w0 w w' : World} {v : Value} {ps : List (Int × Int)} (k : Kept L w0 w) (h : OwP B w v ps) (hB : w0.heap.size ≤ B) (hG : w.grownBy w' v.ownBlock) : Kept L w0 w' :=
  k.grown hG (fun g hg hlt => by have := h.lt hg; omega)
theorem appP {w : World} {ops : Array Oper} {rest : List Oper} {o : Oper} {a : Act} {Q : Exit → Act → World → Prop} (hgd : o.guard = none) (s x : Operand)
    (ho : o.op = .call { callee := .builtin .append, args := #[s, x], argTypes := #[24, 24] })
    (base : Nat) (v : Value) (ps : List (Int × Int)) (hs : a.eval s = v) (hown : OwP base w v ps)
    (g0 : Nat) (u y : Int) (hx : a.eval x = .slice (some ⟨g0, 0, none⟩) 1 1) (hc : w.cell? ⟨g0, 0, none⟩ = some (.int .i64 u)) (hd : w.cell? ⟨g0, 1, none⟩ = some (.int .i64 y))
    (hlen : ps.length ≤ 1099511627776) (hbase : base ≤ w.heap.size)
    (h : ∀ v' w', OwP base w' v' (ps ++ [(u, y)]) → w.grownBy w' v.ownBlock → wpList Tryz.prog ops Q rest (a.put o.dst v') w') :
    wpList Tryz.prog ops Q (o :: rest) a w := by
  obtain ⟨i0, hi, hz0, hz1, hz2⟩ := info_parts Tryz.infoPt
  refine wpList_append_own_wide w hgd s x 24 ho base 44 i0 (.agg #[.int .i64 0, .int .i64 0]) 2 16 Tryz.underlying24 hi hz0 hz1 hz2 rfl (by decide) v ps.length _ hs hown ⟨g0, 0, none⟩ 1 1 [.int .i64 u, .int .i64 y] hx rfl ?_ ?_ ?_ ?_ hbase ?_
  · intro j z hj
    have hj0 : j < 2 := by
      have := (List.getElem?_eq_some_iff.1 hj).1
      simpa using this
    rcases (by omega : j = 0 ∨ j = 1) with rfl | rfl
    · simp at hj
      subst hj
      rw [Addr.add_lit]; exact hc
    · simp at hj
      subst hj
      rw [Addr.add_lit]; exact hd
  · intro z hz
    simp at hz
    rcases hz with rfl | rfl <;> rfl
  · unfold maxLen; omega
  · omega
  · intro v' w' h1 h2 _
    refine h v' w' ?_ h2
    unfold OwP
    rw [flatP_app, List.map_append, List.length_append]
    exact h1

/-- One more point, as a step of a region that draws its order. -/
theorem step_appP {w : World} {ops : Array Oper} {o : Oper} {a : Act} {K : Act → World → Prop} {Q : Exit → Act → World → Prop} {E : Prop} (hgd : o.guard = none) (s x : Operand)
    (ho : o.op = .call { callee := .builtin .append, args := #[s, x], argTypes := #[24, 24] })
    (base : Nat) (v : Value) (ps : List (Int × Int)) (hs : a.eval s = v) (hown : OwP base w v ps)
    (g0 : Nat) (u y : Int) (hx : a.eval x = .slice (some ⟨g0, 0, none⟩) 1 1) (hc : w.cell? ⟨g0, 0, none⟩ = some (.int .i64 u)) (hd : w.cell? ⟨g0, 1, none⟩ = some (.int .i64 y))
    (hlen : ps.length ≤ 1099511627776) (hbase : base ≤ w.heap.size)
    (h : ∀ v' w', OwP base w' v' (ps ++ [(u, y)]) → w.grownBy w' v.ownBlock → K (a.put o.dst v') w') :
    if Region.wanted o (yielded ops a.tmps) = true then Oper.wp Tryz.prog o a w K Q else E := by
  have hw : Region.wanted o (yielded ops a.tmps) = true := by simp [Region.wanted, hgd]
  rw [if_pos hw]
  obtain ⟨i0, hi, hz0, hz1, hz2⟩ := info_parts Tryz.infoPt
  refine wp_append_own_wide w s x 24 ho base 44 i0 (.agg #[.int .i64 0, .int .i64 0]) 2 16 Tryz.underlying24 hi hz0 hz1 hz2 rfl (by decide) v ps.length _ hs hown ⟨g0, 0, none⟩ 1 1 [.int .i64 u, .int .i64 y] hx rfl ?_ ?_ ?_ ?_ hbase ?_
  · intro j z hj
    have hj0 : j < 2 := by
      have := (List.getElem?_eq_some_iff.1 hj).1
      simpa using this
    rcases (by omega : j = 0 ∨ j = 1) with rfl | rfl
    · simp at hj
      subst hj
      rw [Addr.add_lit]; exact hc
    · simp at hj
      subst hj
      rw [Addr.add_lit]; exact hd
  · intro z hz
    simp at hz
    rcases hz with rfl | rfl <;> rfl
  · unfold maxLen; omega
  · omega
  · intro v' w' h1 h2 _
    refine h v' w' ?_ h2
    unfold OwP
    rw [flatP_app, List.map_append, List.length_append]
    exact h1

theorem OwP.sl {B : Nat} {w : World} {v : Value} {ps : List (Int × Int)} (h : OwP B w v ps) : ∃ a c, v = .slice a ps.length c := by
  rcases h.2 with ⟨hv, h0⟩ | ⟨g, cap, cur, hv, _⟩
  · exact ⟨none, 0, by rw [h0]; exact hv⟩
  · exact ⟨_, _, hv⟩
theorem kept_ownP {w w' : World} {v : Value} (hG : w.grownBy w' v.ownBlock) : Kept v.ownBlock.toList w w' :=
  (Kept.refl _ w).grown hG (fun k hk _ => by rw [hk]; simp)
theorem OwP.notin {B R : Nat} {w : World} {v : Value} {ps : List (Int × Int)} (h : OwP B w v ps) (hR : R < B) : R ∉ v.ownBlock.toList := by
  intro hm
  have hm : v.ownBlock = some R := by simpa using hm
  have := h.lt hm; omega
theorem OwP.notR {B R : Nat} {w : World} {v : Value} {ps : List (Int × Int)} (h : OwP B w v ps) (hR : R < B) : ∀ g, v.ownBlock = some g → g ∉ [R] := by
  intro g hg hm
  have := h.lt hg
  simp at hm; omega
theorem OwP.none0 (B : Nat) (w : World) : OwP B w (.slice none 0 0) [] := ⟨rfl, Or.inl ⟨rfl, rfl⟩⟩

theorem OwP.blk {B : Nat} {w : World} {v : Value} {ps : List (Int × Int)} (h : OwP B w v ps) (hn : 0 < ps.length) : ∃ g c, v = .slice (some ⟨g, 0, none⟩) ps.length c ∧ B ≤ g ∧ ps.length ≤ c ∧ c ≤ 9223372036854775807 ∧ Blk w g (flatP ps) := by
  obtain ⟨h1, h2⟩ := h
  rcases h2 with ⟨_, h2⟩ | ⟨g, cap, cur, hv, hg, hh, hc, hm, hs, ht⟩
  · omega
  · unfold maxLen at hm
    refine ⟨g, cap, hv, hg, hc, by omega, (cur, _), hh, ?_, ?_⟩
    · rw [flatP_len, hs]; exact Nat.mul_le_mul_right 2 hc
    · intro k hk
      have hk2 := hk
      rw [flatP_len] at hk2
      have : (cur.toList.take (ps.length * 2))[k]? = ((flatP ps).map (Value.int .i64))[k]? := by rw [ht]
      rw [List.getElem?_take, if_pos (by omega)] at this
      show cur[k]? = _
      rw [← Array.getElem?_toList, this]
      simp [List.getD_eq_getElem?_getD, hk]
theorem OwP.rd {B : Nat} {w : World} {a : Option Addr} {n c : Nat} {ps : List (Int × Int)} (h : OwP B w (.slice a n c) ps) (hm : ps.length ≤ 2000000) : n = ps.length ∧ Rd w a (ps.length * 2) (flatP ps) := by
  by_cases h0 : 0 < ps.length
  · obtain ⟨g, c', hv, _, _, _, hb⟩ := h.blk h0
    simp only [Value.slice.injEq] at hv
    obtain ⟨rfl, rfl, rfl⟩ := hv
    exact ⟨rfl, rd_newP hb (flatP_len ps) (by omega)⟩
  · have hps : ps = [] := List.length_eq_zero_iff.1 (by omega)
    subst hps
    obtain ⟨a', c', e⟩ := h.sl
    simp only [Value.slice.injEq] at e
    exact ⟨e.2.1, rfl, by simp, fun k hk => by simp at hk⟩

/-- A box with something else than a number at its second place is no row of points. -/
theorem OwP.neO {B : Nat} {w : World} {v : Value} {ps : List (Int × Int)} (h : OwP B w v ps) (h0 : 0 < ps.length) (hm : ps.length ≤ 2000000) {O : Nat} {u : Value} (hc : w.cell? ⟨O, 1, none⟩ = some u) (hu : ∀ z, u ≠ .int .i64 z) : O ∉ v.ownBlock.toList := by
  intro he
  obtain ⟨g, c, rfl, _, _, _, hb⟩ := h.blk h0
  have hg : g = O := by have he : O = g := by simpa [Value.ownBlock] using he
                        exact he.symm
  subst hg
  have hr := rd_newP hb (flatP_len ps) (by omega)
  obtain ⟨g', off, e, hcell⟩ := hr.2.2 1 (by omega)
  simp only [Option.some.injEq, Addr.mk.injEq, and_true] at e
  obtain ⟨rfl, rfl⟩ := e
  rw [Nat.zero_add] at hcell
  rw [hc] at hcell
  exact hu _ (by simpa using hcell)

end Go.Proofs.YtlhiahhpmjiioadGreatDoor
