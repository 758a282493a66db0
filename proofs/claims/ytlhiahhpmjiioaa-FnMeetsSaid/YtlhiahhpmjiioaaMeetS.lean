/-
  Plain facts on a region that makes rows, boxes and calls in any order: what it has made so far, told by which of its operations have been done. No condition.
-/
import Derived.Test.YtlhiahhpmjiioaaBox4
import Derived.Test.YtlhiahhpmjiioaaSpanN
import Derived.Test.YtlhiahhpmjiioaaSpanR
import Derived.Test.YtlhiahhpmjiioaaRange
namespace Go.Proofs.Ytlhiahhpmjiioaa
open Go.RowKit

/-- What a region reads: two boxes of four cells; nothing that was there is written. -/
def RdE (w0 : World) (g7 g8 : Nat) (v0 v1 v2 v3 u0 u1 u2 u3 : Value) (w : World) : Prop :=
  w.cell? ⟨g7, 0, none⟩ = some v0 ∧ w.cell? ⟨g7, 1, none⟩ = some v1 ∧ w.cell? ⟨g7, 2, none⟩ = some v2 ∧ w.cell? ⟨g7, 3, none⟩ = some v3 ∧
    w.cell? ⟨g8, 0, none⟩ = some u0 ∧ w.cell? ⟨g8, 1, none⟩ = some u1 ∧ w.cell? ⟨g8, 2, none⟩ = some u2 ∧ w.cell? ⟨g8, 3, none⟩ = some u3 ∧ Kept [] w0 w
theorem RdE.kept {w0 w w' : World} {g7 g8 : Nat} {v0 v1 v2 v3 u0 u1 u2 u3 : Value} (h : RdE w0 g7 g8 v0 v1 v2 v3 u0 u1 u2 u3 w) (k : Kept [] w w') : RdE w0 g7 g8 v0 v1 v2 v3 u0 u1 u2 u3 w' := by
  obtain ⟨t0, t1, t2, t3, s0, s1, s2, s3, hk⟩ := h
  exact ⟨k.cell t0 (by simp), k.cell t1 (by simp), k.cell t2 (by simp), k.cell t3 (by simp), k.cell s0 (by simp), k.cell s1 (by simp), k.cell s2 (by simp), k.cell s3 (by simp), hk.trans0 k⟩
theorem RdE.set {w0 w w' : World} {g g7 g8 : Nat} {v0 v1 v2 v3 u0 u1 u2 u3 : Value} (h : RdE w0 g7 g8 v0 v1 v2 v3 u0 u1 u2 u3 w) (k : Kept [g] w w') (hg : w0.heap.size ≤ g) (l7 : g7 < w0.heap.size) (l8 : g8 < w0.heap.size) : RdE w0 g7 g8 v0 v1 v2 v3 u0 u1 u2 u3 w' := by
  obtain ⟨t0, t1, t2, t3, s0, s1, s2, s3, hk⟩ := h
  have n7 : g7 ∉ [g] := by simp; omega
  have n8 : g8 ∉ [g] := by simp; omega
  exact ⟨k.cell t0 n7, k.cell t1 n7, k.cell t2 n7, k.cell t3 n7, k.cell s0 n8, k.cell s1 n8, k.cell s2 n8, k.cell s3 n8, hk.trans k (fun x hx hlt => by simp at hx; omega)⟩

/-- How many operations are left. -/
def cntF (l : Array Bool) : Nat := (l.toList.filter (fun b => !b)).length
/-- A region whose states are told by one predicate, up to a last state. -/
theorem wpAnyH_run {P : Program} {md : Region.Mode} {ops : Array Oper} {Q : Exit → Act → World → Prop} {S : World → Prop} (I : Array Bool → Act → World → Prop) (Lf : Array Bool) (kf : Nat) (hk : cntF Lf = kf)
    (hfin : ∀ a w, I Lf a w → wpAnyH P md ops Q S kf Lf a w)
    (hstep : ∀ fuel listed a w, I listed a w → listed ≠ Lf → cntF listed = fuel + 1 → (∀ listed' a' w', I listed' a' w' → cntF listed' = fuel → wpAnyH P md ops Q S fuel listed' a' w') → wpAnyH P md ops Q S (fuel + 1) listed a w)
    (hpos : ∀ listed a w, I listed a w → listed ≠ Lf → 0 < cntF listed) : ∀ fuel listed a w, I listed a w → cntF listed = fuel → wpAnyH P md ops Q S fuel listed a w := by
  intro fuel
  induction fuel with
  | zero =>
    intro listed a w h hc
    by_cases e : listed = Lf
    · subst e
      have : kf = 0 := by omega
      subst this
      exact hfin a w h
    · have := hpos listed a w h e
      omega
  | succ fuel ih =>
    intro listed a w h hc
    by_cases e : listed = Lf
    · subst e
      have : kf = fuel + 1 := by omega
      subst this
      exact hfin a w h
    · exact hstep fuel listed a w h e hc ih

/-- The same, the act at its beginning handed on by name. -/
theorem run_from {P : Program} {md : Region.Mode} {ops : Array Oper} {Q : Exit → Act → World → Prop} {S : World → Prop} {fuel : Nat} {listed : Array Bool} {a0 : Act} {w : World} (Lf : Array Bool) (kf : Nat) (hk : cntF Lf = kf) (I : Act → Array Bool → Act → World → Prop)
    (hfin : ∀ a w, I a0 Lf a w → wpAnyH P md ops Q S kf Lf a w)
    (hstep : ∀ fuel listed a w, I a0 listed a w → listed ≠ Lf → cntF listed = fuel + 1 → (∀ listed' a' w', I a0 listed' a' w' → cntF listed' = fuel → wpAnyH P md ops Q S fuel listed' a' w') → wpAnyH P md ops Q S (fuel + 1) listed a w)
    (hpos : ∀ listed a w, I a0 listed a w → listed ≠ Lf → 0 < cntF listed) (h : I a0 listed a0 w) (hc : cntF listed = fuel) : wpAnyH P md ops Q S fuel listed a0 w :=
  wpAnyH_run (I a0) Lf kf hk hfin hstep hpos fuel listed a0 w h hc

abbrev Bg3 := Option Addr × Nat × Int
/-- Bigs, told by numbers, whose limbs lie in w. -/
def AllS (w : World) (l : List Bg3) : Prop := ∀ t, t ∈ l → Sl w t.1 (mag t.2.2).length t.2.1 (mag t.2.2)
/-- What a region has made since w0: boxes as they were made, and bigs that lie in none of them. -/
def MkZ (Z : Array Value) (w0 : World) (T : TypeId) (Pl : Bg3 → Prop) (gs : List Nat) (l : List Bg3) (w : World) : Prop :=
  Kept [] w0 w ∧ (∀ g, g ∈ gs → w0.heap.size ≤ g ∧ w.heap[g]? = some (.cells Z T (0, 0))) ∧ AllS w l ∧ (∀ g, g ∈ gs → ∀ t, t ∈ l → 0 < (mag t.2.2).length → ∀ x, t.1 = some x → x.block ≠ g) ∧ ∀ t, t ∈ l → Pl t
variable {Z : Array Value} {w0 w w' : World} {T : TypeId} {Pl : Bg3 → Prop} {gs : List Nat} {l : List Bg3}
theorem MkZ.kept (h : MkZ Z w0 T Pl gs l w) (k : Kept [] w w') : MkZ Z w0 T Pl gs l w' := by
  obtain ⟨hk, hg, hl, ho, hp⟩ := h
  exact ⟨hk.trans0 k, fun g hm => ⟨(hg g hm).1, kept_heap k (hg g hm).2⟩, fun t ht => (hl t ht).kept0 k, ho, hp⟩
theorem MkZ.alloc (h : MkZ Z w0 T Pl gs l w) : MkZ Z w0 T Pl (w.heap.size :: gs) l (w.alloc (.cells Z T)) := by
  have hl0 := h.2.2.1
  obtain ⟨hk, hg, hl, ho, hp⟩ := h.kept ((Kept.refl [] w).alloc (.cells Z T))
  refine ⟨hk, fun g hm => ?_, hl, fun g hm t ht hn x hx => ?_, hp⟩
  · rcases List.mem_cons.1 hm with rfl | hm
    · exact ⟨h.1.size, heap_alloc_new w _⟩
    · exact hg g hm
  · have h9 := (hl0 t ht).lt hn x hx
    rcases List.mem_cons.1 hm with rfl | hm
    · omega
    · exact ho g hm t ht hn x hx
theorem MkZ.call (h : MkZ Z w0 T Pl gs l w) (k : Kept [] w w') {b : Option Addr} {c : Nat} {z : Int} (s : Sl w' b (mag z).length c (mag z)) (hf : 0 < (mag z).length → ∀ x, b = some x → x.block < w0.heap.size ∨ w.heap.size ≤ x.block) (hp : Pl (b, c, z)) :
    MkZ Z w0 T Pl gs ((b, c, z) :: l) w' := by
  have hg0 := h.2.1
  obtain ⟨hk, hg, hl, ho, hpl⟩ := h.kept k
  refine ⟨hk, hg, fun t ht => ?_, fun g hm t ht hn x hx => ?_, fun t ht => ?_⟩
  · rcases List.mem_cons.1 ht with rfl | ht
    · exact s
    · exact hl t ht
  · rcases List.mem_cons.1 ht with rfl | ht
    · have h1 := hg0 g hm
      have h2 := (Array.getElem?_eq_some_iff.1 h1.2).1
      rcases hf hn x hx with h3 | h3 <;> omega
    · exact ho g hm t ht hn x hx
  · rcases List.mem_cons.1 ht with rfl | ht
    · exact hp
    · exact hpl t ht

/-- The state of a region with two rows, two calls, two boxes: which of them have been done, and what they have left. -/
def StR (w0 : World) (Z : Array Value) (T : TypeId) (Pl : Bg3 → Prop) (e1 e2 e3 e4 : BE) (y1 y2 : Int) (r1 r2 c1 c2 a1 a2 : Bool) (s1 s2 v1 v2 p1 p2 : Value) (gs : List Nat) (l : List Bg3) (w : World) : Prop :=
  MkZ Z w0 T Pl gs l w ∧ (r1 = true → ∃ g, s1 = .slice (some ⟨g, 0, none⟩) 2 2 ∧ RowB w g [e1, e3]) ∧ (r2 = true → ∃ g, s2 = .slice (some ⟨g, 0, none⟩) 2 2 ∧ RowB w g [e2, e4]) ∧
    (c1 = true → ∃ b c, v1 = .agg #[.bool (isNeg y1), .slice b (mag y1).length c] ∧ (b, c, y1) ∈ l) ∧ (c2 = true → ∃ b c, v2 = .agg #[.bool (isNeg y2), .slice b (mag y2).length c] ∧ (b, c, y2) ∈ l) ∧
    (a1 = true → ∃ g, p1 = .pointer (some ⟨g, 0, none⟩) ∧ g ∈ gs) ∧ (a2 = true → ∃ g, p2 = .pointer (some ⟨g, 0, none⟩) ∧ g ∈ gs) ∧ (a1 = true → a2 = true → p1 ≠ p2)
variable {e1 e2 e3 e4 : BE} {y1 y2 : Int} {r1 r2 c1 c2 a1 a2 : Bool} {s1 s2 v1 v2 p1 p2 : Value}
theorem rowB_mk {w : World} {e1 e3 : BE} {T : TypeId} : RowB (w.alloc (.cells #[.bool e1.neg, .slice e1.ptr e1.len e1.cap, .bool e3.neg, .slice e3.ptr e3.len e3.cap] T)) w.heap.size [e1, e3] := by
  have h := heap_alloc_new w (.cells #[.bool e1.neg, .slice e1.ptr e1.len e1.cap, .bool e3.neg, .slice e3.ptr e3.len e3.cap] T)
  intro j hj
  match j, hj with
  | 0, _ => exact ⟨cell_of_row _ _ 0 _ _ _ h, cell_of_row _ _ 1 _ _ _ h⟩
  | 1, _ => exact ⟨cell_of_row _ _ 2 _ _ _ h, cell_of_row _ _ 3 _ _ _ h⟩
theorem StR.start (hk : Kept [] w0 w) : StR w0 Z T Pl e1 e2 e3 e4 y1 y2 false false false false false false s1 s2 v1 v2 p1 p2 [] [] w :=
  ⟨⟨hk, (by simp), (fun t ht => by cases ht), (by simp), (by simp)⟩, nofun, nofun, nofun, nofun, nofun, nofun, nofun⟩
theorem StR.kept (h : StR w0 Z T Pl e1 e2 e3 e4 y1 y2 r1 r2 c1 c2 a1 a2 s1 s2 v1 v2 p1 p2 gs l w) (k : Kept [] w w') : StR w0 Z T Pl e1 e2 e3 e4 y1 y2 r1 r2 c1 c2 a1 a2 s1 s2 v1 v2 p1 p2 gs l w' := by
  obtain ⟨hm, h1, h2, h3⟩ := h
  exact ⟨hm.kept k, fun e => by obtain ⟨g, q1, q2⟩ := h1 e; exact ⟨g, q1, q2.kept k (by simp)⟩, fun e => by obtain ⟨g, q1, q2⟩ := h2 e; exact ⟨g, q1, q2.kept k (by simp)⟩, h3⟩
theorem StR.row1 (h : StR w0 Z T Pl e1 e2 e3 e4 y1 y2 r1 r2 c1 c2 a1 a2 s1 s2 v1 v2 p1 p2 gs l w) (T' : TypeId) : StR w0 Z T Pl e1 e2 e3 e4 y1 y2 true r2 c1 c2 a1 a2 (.slice (some ⟨w.heap.size, 0, none⟩) 2 2) s2 v1 v2 p1 p2 gs l (w.alloc (.cells #[.bool e1.neg, .slice e1.ptr e1.len e1.cap, .bool e3.neg, .slice e3.ptr e3.len e3.cap] T')) := by
  obtain ⟨hm, h1, h2⟩ := h.kept ((Kept.refl [] w).alloc (.cells #[.bool e1.neg, .slice e1.ptr e1.len e1.cap, .bool e3.neg, .slice e3.ptr e3.len e3.cap] T'))
  exact ⟨hm, fun _ => ⟨_, rfl, rowB_mk⟩, h2⟩
theorem StR.row2 (h : StR w0 Z T Pl e1 e2 e3 e4 y1 y2 r1 r2 c1 c2 a1 a2 s1 s2 v1 v2 p1 p2 gs l w) (T' : TypeId) : StR w0 Z T Pl e1 e2 e3 e4 y1 y2 r1 true c1 c2 a1 a2 s1 (.slice (some ⟨w.heap.size, 0, none⟩) 2 2) v1 v2 p1 p2 gs l (w.alloc (.cells #[.bool e2.neg, .slice e2.ptr e2.len e2.cap, .bool e4.neg, .slice e4.ptr e4.len e4.cap] T')) := by
  obtain ⟨hm, h1, h2, h3⟩ := h.kept ((Kept.refl [] w).alloc (.cells #[.bool e2.neg, .slice e2.ptr e2.len e2.cap, .bool e4.neg, .slice e4.ptr e4.len e4.cap] T'))
  exact ⟨hm, h1, fun _ => ⟨_, rfl, rowB_mk⟩, h3⟩
theorem StR.call1 (h : StR w0 Z T Pl e1 e2 e3 e4 y1 y2 r1 r2 c1 c2 a1 a2 s1 s2 v1 v2 p1 p2 gs l w) (k : Kept [] w w') {b : Option Addr} {c : Nat} (s : Sl w' b (mag y1).length c (mag y1)) (hf : 0 < (mag y1).length → ∀ x, b = some x → x.block < w0.heap.size ∨ w.heap.size ≤ x.block) (hp : Pl (b, c, y1)) :
    StR w0 Z T Pl e1 e2 e3 e4 y1 y2 r1 r2 true c2 a1 a2 s1 s2 (.agg #[.bool (isNeg y1), .slice b (mag y1).length c]) v2 p1 p2 gs ((b, c, y1) :: l) w' := by
  have hm := h.1.call k s hf hp
  obtain ⟨_, h1, h2, h3, h4, h5⟩ := h.kept k
  exact ⟨hm, h1, h2, fun _ => ⟨b, c, rfl, List.mem_cons_self⟩, fun e => by obtain ⟨b', c', q1, q2⟩ := h4 e; exact ⟨b', c', q1, List.mem_cons_of_mem _ q2⟩, h5⟩
theorem StR.call2 (h : StR w0 Z T Pl e1 e2 e3 e4 y1 y2 r1 r2 c1 c2 a1 a2 s1 s2 v1 v2 p1 p2 gs l w) (k : Kept [] w w') {b : Option Addr} {c : Nat} (s : Sl w' b (mag y2).length c (mag y2)) (hf : 0 < (mag y2).length → ∀ x, b = some x → x.block < w0.heap.size ∨ w.heap.size ≤ x.block) (hp : Pl (b, c, y2)) :
    StR w0 Z T Pl e1 e2 e3 e4 y1 y2 r1 r2 c1 true a1 a2 s1 s2 v1 (.agg #[.bool (isNeg y2), .slice b (mag y2).length c]) p1 p2 gs ((b, c, y2) :: l) w' := by
  have hm := h.1.call k s hf hp
  obtain ⟨_, h1, h2, h3, h4, h5⟩ := h.kept k
  exact ⟨hm, h1, h2, fun e => by obtain ⟨b', c', q1, q2⟩ := h3 e; exact ⟨b', c', q1, List.mem_cons_of_mem _ q2⟩, fun _ => ⟨b, c, rfl, List.mem_cons_self⟩, h5⟩
theorem StR.box1 (h : StR w0 Z T Pl e1 e2 e3 e4 y1 y2 r1 r2 c1 c2 a1 a2 s1 s2 v1 v2 p1 p2 gs l w) : StR w0 Z T Pl e1 e2 e3 e4 y1 y2 r1 r2 c1 c2 true a2 s1 s2 v1 v2 (.pointer (some ⟨w.heap.size, 0, none⟩)) p2 (w.heap.size :: gs) l (w.alloc (.cells Z T)) := by
  have hm := h.1.alloc
  have hg := h.1.2.1
  obtain ⟨_, h1, h2, h3, h4, h5, h6, _⟩ := h.kept ((Kept.refl [] w).alloc (.cells Z T))
  refine ⟨hm, h1, h2, h3, h4, fun _ => ⟨_, rfl, List.mem_cons_self⟩, fun e => by obtain ⟨g, q1, q2⟩ := h6 e; exact ⟨g, q1, List.mem_cons_of_mem _ q2⟩, fun _ e => ?_⟩
  obtain ⟨g, q1, q2⟩ := h6 e
  have h9 := (Array.getElem?_eq_some_iff.1 (hg g q2).2).1
  rw [q1]
  intro h8
  simp only [Value.pointer.injEq, Option.some.injEq, Addr.mk.injEq, and_true] at h8
  omega
theorem StR.box2 (h : StR w0 Z T Pl e1 e2 e3 e4 y1 y2 r1 r2 c1 c2 a1 a2 s1 s2 v1 v2 p1 p2 gs l w) : StR w0 Z T Pl e1 e2 e3 e4 y1 y2 r1 r2 c1 c2 a1 true s1 s2 v1 v2 p1 (.pointer (some ⟨w.heap.size, 0, none⟩)) (w.heap.size :: gs) l (w.alloc (.cells Z T)) := by
  have hm := h.1.alloc
  have hg := h.1.2.1
  obtain ⟨_, h1, h2, h3, h4, h5, h6, _⟩ := h.kept ((Kept.refl [] w).alloc (.cells Z T))
  refine ⟨hm, h1, h2, h3, h4, fun e => by obtain ⟨g, q1, q2⟩ := h5 e; exact ⟨g, q1, List.mem_cons_of_mem _ q2⟩, fun _ => ⟨_, rfl, List.mem_cons_self⟩, fun e _ => ?_⟩
  obtain ⟨g, q1, q2⟩ := h5 e
  have h9 := (Array.getElem?_eq_some_iff.1 (hg g q2).2).1
  rw [q1]
  intro h8
  simp only [Value.pointer.injEq, Option.some.injEq, Addr.mk.injEq, and_true] at h8
  omega

end Go.Proofs.Ytlhiahhpmjiioaa
