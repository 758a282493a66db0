/-
  Contract of ParseShape. Condition: the text is no longer than a million and a half.
-/
import Derived.Test.YtlhiahhpmjiioacGreatDoorPsE
import Derived.Test.YtlhiahhpmjiioacGreatDoorShpB
namespace Go.Proofs.YtlhiahhpmjiioacGreatDoor
open Go.RowKit

/-- What ParseShape answers: its code, and its kind and points. -/
def parC (l : List UInt8) : Int := if 600 < l.length then 2 else match shapeR l with | none => 5 | some x => shapeC x.1 (flatP x.2) x.2.length
def parS (l : List UInt8) : Int × List (Int × Int) := if parC l = 0 then (match shapeR l with | some x => x | none => (0, [])) else (0, [])
theorem par_many {l : List UInt8} (h : 600 < l.length) : parC l = 2 ∧ parS l = (0, []) := by
  have : parC l = 2 := if_pos h
  exact ⟨this, by unfold parS; rw [this]; rfl⟩
theorem par_text {l : List UInt8} (h : ¬ 600 < l.length) (hs : shapeR l = none) : parC l = 5 ∧ parS l = (0, []) := by
  have : parC l = 5 := by unfold parC; rw [if_neg h, hs]
  exact ⟨this, by unfold parS; rw [this]; rfl⟩
theorem par_fault {l : List UInt8} {x : Int × List (Int × Int)} (h : ¬ 600 < l.length) (hs : shapeR l = some x) (hc : shapeC x.1 (flatP x.2) x.2.length ≠ 0) : parC l = shapeC x.1 (flatP x.2) x.2.length ∧ parS l = (0, []) := by
  have : parC l = shapeC x.1 (flatP x.2) x.2.length := by unfold parC; rw [if_neg h, hs]
  exact ⟨this, by unfold parS; rw [this, if_neg hc]⟩
theorem par_ok {l : List UInt8} {x : Int × List (Int × Int)} (h : ¬ 600 < l.length) (hs : shapeR l = some x) (hc : shapeC x.1 (flatP x.2) x.2.length = 0) : parC l = 0 ∧ parS l = x := by
  have : parC l = 0 := by unfold parC; rw [if_neg h, hs]; exact hc
  exact ⟨this, by unfold parS; rw [if_pos this, hs]⟩
/-- A call that answers a code and a shape in memory of its own. -/
def ShpR (w : World) (c : Int) (s : Int × List (Int × Int)) (e : Ending) (w' : World) : Prop :=
  ∃ v, e = .returned (.agg #[.int .i64 c, .int .i64 s.1, v]) ∧ OwP w.heap.size w' v s.2 ∧ s.2.length ≤ 2000000 ∧ Kept [] w w'
theorem parBox {w w1 : World} {T : TypeId} (hk : Kept [] (w.alloc (.cells #[.int .i64 0, .int .i64 0, .slice none 0 0] T)) w1) :
    (w1.cell? ⟨w.heap.size, 0, none⟩ = some (.int .i64 0) ∧ w1.cell? ⟨w.heap.size, 1, none⟩ = some (.int .i64 0) ∧ w1.cell? ⟨w.heap.size, 2, none⟩ = some (.slice none 0 0)) ∧ w1.frozen? ⟨w.heap.size, 0, none⟩ = false ∧ w1.frozen? ⟨w.heap.size, 1, none⟩ = false ∧ w1.frozen? ⟨w.heap.size, 2, none⟩ = false :=
  ⟨⟨(hk.top rfl (by simp) 0 (v := .int .i64 0) rfl).1, (hk.top rfl (by simp) 1 (v := .int .i64 0) rfl).1, (hk.top rfl (by simp) 2 (v := .slice none 0 0) rfl).1⟩, (hk.top rfl (by simp) 0 (v := .int .i64 0) rfl).2.1, (hk.top rfl (by simp) 1 (v := .int .i64 0) rfl).2.1, (hk.top rfl (by simp) 2 (v := .slice none 0 0) rfl).2.1⟩
theorem parCells {w : World} {a : Nat} {x x1 x2 : Value} (u u1 u2 : Value) (h0 : w.cell? ⟨a, 0, none⟩ = some x) (h1 : w.cell? ⟨a, 1, none⟩ = some x1) (h2 : w.cell? ⟨a, 2, none⟩ = some x2) :
    (((w.setCell ⟨a, 0, none⟩ u).setCell ⟨a, 1, none⟩ u1).setCell ⟨a, 2, none⟩ u2).cell? ⟨a, 0, none⟩ = some u ∧ (((w.setCell ⟨a, 0, none⟩ u).setCell ⟨a, 1, none⟩ u1).setCell ⟨a, 2, none⟩ u2).cell? ⟨a, 1, none⟩ = some u1 ∧ (((w.setCell ⟨a, 0, none⟩ u).setCell ⟨a, 1, none⟩ u1).setCell ⟨a, 2, none⟩ u2).cell? ⟨a, 2, none⟩ = some u2 := by
  have e0 := World.cell?_setCell_same w ⟨a, 0, none⟩ u h0
  have e1 : (w.setCell ⟨a, 0, none⟩ u).cell? ⟨a, 1, none⟩ = some x1 := by rw [World.cell?_setCell_other _ _ _ _ (by simp)]; exact h1
  have e2 : ((w.setCell ⟨a, 0, none⟩ u).setCell ⟨a, 1, none⟩ u1).cell? ⟨a, 2, none⟩ = some x2 := by rw [World.cell?_setCell_other _ _ _ _ (by simp), World.cell?_setCell_other _ _ _ _ (by simp)]; exact h2
  refine ⟨?_, ?_, World.cell?_setCell_same _ _ _ e2⟩
  · rw [World.cell?_setCell_other _ _ _ _ (by simp), World.cell?_setCell_other _ _ _ _ (by simp)]; exact e0
  · rw [World.cell?_setCell_other _ _ _ _ (by simp)]; exact World.cell?_setCell_same _ _ _ e1

set_option maxHeartbeats 1000000 in
theorem ParseShape_any (l : List UInt8) (w : World) (hl : l.length ≤ 1500000) :
    Calls Tryz.prog 5 #[.string (strB l)] w (ShpR w (parC l) (parS l)) := by
  obtain ⟨S, hS⟩ : ∃ S, strB l = S := ⟨_, rfl⟩
  have hsz : S.size = l.length := by rw [← hS, strB_size]
  by_cases hb : 600 < l.length
  · obtain ⟨q1, q2⟩ := par_many hb
    have hbb : (600 : Int) < S.size := by omega
    rw [q1, q2, hS]
    clear hS hsz q1 q2
    go_enter Tryz.func5, Tryz.ntmps5
    go_wp2_with fail
    refine bodyPost_ret (v := .agg #[.int .i64 2, .int .i64 0, .slice none 0 0]) (by simp [results, Tryz.results5, go_sem]) rfl ⟨_, rfl, OwP.none0 _ _, by simp, (Kept.refl _ _).alloc _⟩
  · have hbb : ¬ (600 : Int) < S.size := by omega
    have HS := Lib.hid hS
    have HB := Lib.hid hb
    rw [hS]
    clear hsz hS hb
    go_enter Tryz.func5, Tryz.ntmps5
    go_wp2_with fail
    rw [← HS.out]
    refine (readAllS_any l _ hl).mono ?_
    rintro e w1 hd
    rcases hd with ⟨hn, rfl, k1⟩ | ⟨k, ps, v, hs, hk1, hk4, hpl, rfl, hw1, k1⟩
    · obtain ⟨q1, q2⟩ := par_text HB.out hn
      have Q := Lib.hid (And.intro q1 q2)
      clear q1 q2
      have k2 := k1.alloc (.cells #[.int .i64 0, .slice none 0 0] 24)
      obtain ⟨⟨c0, c1, c2⟩, f0, f1, f2⟩ := parBox k2
      have K2 := Lib.hid k2
      clear k1 k2 hn
      go_wp2_with fail
      obtain ⟨s0, s1, s2⟩ := parCells (.int .i64 5) (.int .i64 0) (.slice none 0 0) c0 c1 c2
      refine bodyPost_ret (v := .agg #[.int .i64 5, .int .i64 0, .slice none 0 0]) (by simp [results, Tryz.results5, go_sem, s0, s1, s2]) rfl ?_
      rw [Q.out.1, Q.out.2]
      exact ⟨_, rfl, OwP.none0 _ _, by simp, ((K2.out.peel.setCell _ _ (by simp)).setCell _ _ (by simp)).setCell _ _ (by simp)⟩
    · obtain ⟨a, n, hv⟩ := hw1.sl
      subst hv
      have hws0 : Hid (w.heap.size + 1 ≤ w1.heap.size) := by have := k1.size; show _ ≤ _; simpa using this
      have k2 := k1.alloc (.cells #[.int .i64 k, .slice a ps.length n] 24)
      have W2 := Lib.hid (hw1.alloc (.cells #[.int .i64 k, .slice a ps.length n] 24))
      have hrd := Lib.hid ((hw1.alloc (.cells #[.int .i64 k, .slice a ps.length n] 24)).rd hpl).2
      have K2 := Lib.hid k2
      have HSR := Lib.hid hs
      clear k1 k2 hw1 hs
      go_wp2_with fail
      have d0 := ((Kept.refl [] (w1.alloc (.cells #[.int .i64 k, .slice a ps.length n] 24))).top (g := w1.heap.size) rfl (by simp) 0 (v := .int .i64 k) rfl).1
      have d1 := ((Kept.refl [] (w1.alloc (.cells #[.int .i64 k, .slice a ps.length n] 24))).top (g := w1.heap.size) rfl (by simp) 1 (v := .slice a ps.length n) rfl).1
      refine (ShapeFault_any k a ps.length n (flatP ps) _ hrd.out).mono ?_
      rintro e w2 ⟨rfl, k3⟩
      have d0 := k3.cell d0 (by simp)
      have d1 := k3.cell d1 (by simp)
      have K3 := Lib.hid (K2.out.trans0 k3)
      have W3 := Lib.hid (W2.out.kept0 k3)
      have hwl : w.heap.size + 1 ≤ w1.heap.size := hws0.out
      obtain ⟨⟨c0, c1, c2⟩, f0, f1, f2⟩ := parBox K3.out
      clear k3
      by_cases hz : shapeC k (flatP ps) ps.length = 0
      · have Q := Lib.hid (par_ok (l := l) (x := (k, ps)) HB.out HSR.out hz)
        rw [hz]
        clear hz
        go_wp2_with fail
        obtain ⟨s0, s1, s2⟩ := parCells (.int .i64 0) (.int .i64 k) (.slice a ps.length n) c0 c1 c2
        refine bodyPost_ret (v := .agg #[.int .i64 0, .int .i64 k, .slice a ps.length n]) (by simp [results, Tryz.results5, go_sem, s0, s1, s2]) rfl ?_
        rw [Q.out.1, Q.out.2]
        refine ⟨_, rfl, ?_, hpl, ((K3.out.peel.setCell _ _ (by simp)).setCell _ _ (by simp)).setCell _ _ (by simp)⟩
        refine (W3.out.kept (L := [w.heap.size]) ((((Kept.refl _ _).setCell _ _ (by simp)).setCell _ _ (by simp)).setCell _ _ (by simp)) ?_).mono (by simp)
        intro g hg hm
        have := W3.out.lt hg
        simp at hm this; omega
      · have Q := Lib.hid (par_fault (l := l) (x := (k, ps)) HB.out HSR.out hz)
        obtain ⟨f, hf⟩ : ∃ f, shapeC k (flatP ps) ps.length = f := ⟨_, rfl⟩
        have hne : (f == 0) = false := by rw [beq_eq_false_iff_ne, ← hf]; exact hz
        have HF := Lib.hid hf
        rw [hf]
        clear hf hz
        go_wp2_with fail
        obtain ⟨s0, s1, s2⟩ := parCells (.int .i64 f) (.int .i64 0) (.slice none 0 0) c0 c1 c2
        refine bodyPost_ret (v := .agg #[.int .i64 f, .int .i64 0, .slice none 0 0]) (by simp [results, Tryz.results5, go_sem, s0, s1, s2]) rfl ?_
        rw [Q.out.1, Q.out.2, HF.out]
        exact ⟨_, rfl, OwP.none0 _ _, by simp, ((K3.out.peel.setCell _ _ (by simp)).setCell _ _ (by simp)).setCell _ _ (by simp)⟩

end Go.Proofs.YtlhiahhpmjiioacGreatDoor
