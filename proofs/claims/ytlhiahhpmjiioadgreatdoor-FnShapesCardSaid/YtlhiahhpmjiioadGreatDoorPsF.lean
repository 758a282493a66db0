/-
  Several of my texts joined: the contracts of the functions that they name, each with the conditions that it states.
-/
import Derived.Recover
import Derived.Test.YtlhiahhpmjiioadGreatDoorPsD
import Derived.Test.YtlhiahhpmjiioadGreatDoorShpB
namespace Go.Proofs.YtlhiahhpmjiioadGreatDoor
open Go.RowKit

theorem catchS_bang (a b : Nat) (x : Int) (v : Value) (y : Int) (u : TypeId) (pv : Value) (w : World) (hx : w.cell? ⟨a, 0, none⟩ = some (.int .i64 x)) (hx1 : w.cell? ⟨a, 1, none⟩ = some v) (hy : w.cell? ⟨b, 0, none⟩ = some (.int .i64 y)) (fx : w.frozen? ⟨a, 0, none⟩ = false) (fx1 : w.frozen? ⟨a, 1, none⟩ = false) (fy : w.frozen? ⟨b, 0, none⟩ = false) (hab : b ≠ a) :
    CallsD Tryz.prog 53 #[.pointer (some ⟨a, 0, none⟩), .pointer (some ⟨b, 0, none⟩)] (.panicking ({ v := .iface u pv, recovered := false } :: [])) w fun e u' w' =>
      e = .returned (.tuple #[]) ∧ u' = .panicking ({ v := .iface u pv, recovered := true } :: []) ∧ w' = (((w.alloc (.cells #[.int .i64 0, .slice none 0 0] 26)).setCell ⟨a, 0, none⟩ (.int .i64 0)).setCell ⟨a, 1, none⟩ (.slice none 0 0)).setCell ⟨b, 0, none⟩ (.int .i64 5) := by
  have kk : Kept [] w (w.alloc (.cells #[.int .i64 0, .slice none 0 0] 26)) := (Kept.refl [] w).alloc _
  have la := World.block_lt_of_cell? w ⟨a, 0, none⟩ hx
  have lb := World.block_lt_of_cell? w ⟨b, 0, none⟩ hy
  have hx := kk.cell hx (by simp)
  have hx1 := kk.cell hx1 (by simp)
  have hy := kk.cell hy (by simp)
  have fx := kk.free fx la (by simp)
  have fx1 := kk.free fx1 la (by simp)
  have fy := kk.free fy lb (by simp)
  have n0 := ((Kept.refl [] (w.alloc (.cells #[.int .i64 0, .slice none 0 0] 26))).top (g := w.heap.size) rfl (by simp) 0 (v := .int .i64 0) rfl).1
  have n1 := ((Kept.refl [] (w.alloc (.cells #[.int .i64 0, .slice none 0 0] 26))).top (g := w.heap.size) rfl (by simp) 1 (v := .slice none 0 0) rfl).1
  generalize hW : w.alloc (.cells #[.int .i64 0, .slice none 0 0] 26) = W at *
  have hx2 : (W.setCell ⟨a, 0, none⟩ (.int .i64 0)).cell? ⟨a, 1, none⟩ = some v := by rw [World.cell?_setCell_other _ _ _ _ (by simp)]; exact hx1
  have hy2 : ((W.setCell ⟨a, 0, none⟩ (.int .i64 0)).setCell ⟨a, 1, none⟩ (.slice none 0 0)).cell? ⟨b, 0, none⟩ = some (.int .i64 y) := by rw [World.cell?_setCell_other _ _ _ _ (by simp), World.cell?_setCell_other _ _ _ _ (by simp)]; exact hy
  refine callsD_of_wpS Tryz.func53 rfl fun c₀ cs hu => ?_
  apply wpS_seq
  apply wpS_region
  simp [wpOpsS, go_sem, recoverD, hu, Tryz.ntmps53, Exit.thenS]
  refine wpS_cond (t := true) (by simp [Act.eval, Array.replicate]) ?_
  simp only [if_true]
  apply wpS_seq
  apply wpS_region
  simp [wpOpsS, go_sem, Exit.thenS]
  apply wpS_region
  simp [wpOpsS, go_sem, hW, n0, n1, hx, hx2, hy2, fx, fx1, fy, bodyPostS, results, Tryz.results53]

theorem catchS_none (a b : Nat) (w : World) :
    CallsD Tryz.prog 53 #[.pointer (some ⟨a, 0, none⟩), .pointer (some ⟨b, 0, none⟩)] .returning w fun e u' w' => e = .returned (.tuple #[]) ∧ u' = .returning ∧ w' = w := by
  refine callsD_of_wpS Tryz.func53 rfl fun c₀ cs hu => ?_
  apply wpS_seq
  apply wpS_region
  simp [wpOpsS, go_sem, recoverD, hu, Tryz.ntmps53, Exit.thenS]
  refine wpS_cond (t := false) (by simp [Act.eval, Array.replicate]) ?_
  simp only [Bool.false_eq_true, if_false]
  refine wpS_of_wp (wp_skip ?_)
  cases c₀
  simp_all [bodyPostS, results, Tryz.results53]

/-- What readAll answers. -/
def ReadP (l : List UInt8) (w : World) (e : Ending) (w' : World) : Prop :=
  (shapeR l = none ∧ e = .returned (.tuple #[.agg #[.int .i64 0, .slice none 0 0], .int .i64 5]) ∧ Kept [] w w') ∨
  ∃ k ps v, shapeR l = some (k, ps) ∧ 1 ≤ k ∧ k ≤ 4 ∧ ps.length ≤ 2000000 ∧ e = .returned (.tuple #[.agg #[.int .i64 k, v], .int .i64 0]) ∧ OwP w.heap.size w' v ps ∧ Kept [] w w'

theorem cells3 {w : World} {a b : Nat} {x x1 y : Value} (u u1 v : Value) (hab : b ≠ a) (h0 : w.cell? ⟨a, 0, none⟩ = some x) (h1 : w.cell? ⟨a, 1, none⟩ = some x1) (h2 : w.cell? ⟨b, 0, none⟩ = some y) :
    (((w.setCell ⟨a, 0, none⟩ u).setCell ⟨a, 1, none⟩ u1).setCell ⟨b, 0, none⟩ v).cell? ⟨a, 0, none⟩ = some u ∧ (((w.setCell ⟨a, 0, none⟩ u).setCell ⟨a, 1, none⟩ u1).setCell ⟨b, 0, none⟩ v).cell? ⟨a, 1, none⟩ = some u1 ∧ (((w.setCell ⟨a, 0, none⟩ u).setCell ⟨a, 1, none⟩ u1).setCell ⟨b, 0, none⟩ v).cell? ⟨b, 0, none⟩ = some v := by
  have e0 := World.cell?_setCell_same w ⟨a, 0, none⟩ u h0
  have e1 : (w.setCell ⟨a, 0, none⟩ u).cell? ⟨a, 1, none⟩ = some x1 := by rw [World.cell?_setCell_other _ _ _ _ (by simp)]; exact h1
  have e2 : ((w.setCell ⟨a, 0, none⟩ u).setCell ⟨a, 1, none⟩ u1).cell? ⟨b, 0, none⟩ = some y := by rw [World.cell?_setCell_other _ _ _ _ (by simp), World.cell?_setCell_other _ _ _ _ (by simp)]; exact h2
  refine ⟨?_, ?_, World.cell?_setCell_same _ _ _ e2⟩
  · rw [World.cell?_setCell_other _ _ _ _ (by simp), World.cell?_setCell_other _ _ _ _ (by simp)]; exact e0
  · rw [World.cell?_setCell_other _ _ _ _ (by simp)]; exact World.cell?_setCell_same _ _ _ e1
theorem shapeR_none {l : List UInt8} (h : shapeQ l = none) : shapeR l = none := by rw [shapeR_Q, h]; rfl
theorem shapeR_cons {l : List UInt8} {k : Int} {ps : List (Int × Int)} {b : UInt8} {t : List UInt8} (h : shapeQ l = some (k, ps, b :: t)) : shapeR l = none := by rw [shapeR_Q, h]; rfl
theorem shapeR_some {l : List UInt8} {k : Int} {ps : List (Int × Int)} (h : shapeQ l = some (k, ps, [])) : shapeR l = some (k, ps) := by rw [shapeR_Q, h]; rfl

set_option maxHeartbeats 1000000 in
theorem readAllS_any (l : List UInt8) (w : World) (hl : l.length ≤ 1500000) :
    Calls Tryz.prog 29 #[.string (strB l), .func (.func 30) #[] #[]] w (ReadP l w) := by
  have hmf : ∀ (fn : Fn) (first cap : Array Value) (w : World), (Instr.makeFunc fn first cap).run Tryz.prog w = .ok (.func fn first cap) w := fun _ _ _ _ => rfl
  go_enter_defers Tryz.func29, Tryz.ntmps29
  go_wp2_with fail
  generalize hW : (((w.alloc (.cells #[.int .i64 0, .slice none 0 0] 26)).alloc (.cells #[.int .i64 0] 2)).alloc (.cells #[.string (strB l)] 93)) = W
  have k0 : Kept [] (((w.alloc (.cells #[.int .i64 0, .slice none 0 0] 26)).alloc (.cells #[.int .i64 0] 2)).alloc (.cells #[.string (strB l)] 93)) W := by rw [hW]; exact Kept.refl _ _
  obtain ⟨R, hR⟩ : ∃ R, R = w.heap.size + 1 + 1 := ⟨_, rfl⟩
  have r0 : Rdr W R l := by
    subst hR
    exact ⟨(k0.top (g := w.heap.size + 1 + 1) (by simp) (by simp) 0 (v := .string (strB l)) rfl).1, (k0.top (g := w.heap.size + 1 + 1) (by simp) (by simp) 0 (v := .string (strB l)) rfl).2.1⟩
  obtain ⟨b0, f0, z0⟩ := k0.peel.top (g := w.heap.size + 1) (by simp) (by simp) 0 (v := .int .i64 0) rfl
  obtain ⟨a0, g0, y0⟩ := k0.peel.peel.top (g := w.heap.size) (by simp) (by simp) 0 (v := .int .i64 0) rfl
  obtain ⟨a1, g1, y1⟩ := k0.peel.peel.top (g := w.heap.size) (by simp) (by simp) 1 (v := .slice none 0 0) rfl
  have hWs : Hid (w.heap.size + 3 ≤ W.heap.size) := by have := k0.size; show _ ≤ _; simpa using this
  have K0 := Lib.hid k0.peel.peel.peel
  have hRA : Hid (w.heap.size ≠ R ∧ w.heap.size + 1 ≠ R ∧ w.heap.size ≤ R) := by subst hR; exact ⟨by omega, by omega, by omega⟩
  rw [← hR]
  clear k0 hW hR
  refine (shape_any R l W r0 hl).mono ?_
  rintro e w1 hd
  rcases hd with ⟨hn, ⟨u, x, rfl⟩, k1⟩ | ⟨k, ps, t, v, hs, hk1, hk4, hpl, rfl, hw1, r1, k1⟩
  · have hv := Lib.hid (shapeR_none hn)
    have a01 := k1.cell a0 (by simpa using hRA.out.1)
    have a11 := k1.cell a1 (by simpa using hRA.out.1)
    have b1 := k1.cell b0 (by simpa using hRA.out.2.1)
    have g01 := k1.free g0 y0 (by simpa using hRA.out.1)
    have g11 := k1.free g1 y1 (by simpa using hRA.out.1)
    have f1 := k1.free f0 z0 (by simpa using hRA.out.2.1)
    have K1 := Lib.hid (K0.out.trans k1 (fun x hx hlt => by simp at hx; subst hx; exact absurd hlt (Nat.not_lt.2 hRA.out.2.2)))
    clear hn k1
    go_wp2_with fail
    refine leaves_cons (f := 53) (args := #[.pointer (some ⟨w.heap.size, 0, none⟩), .pointer (some ⟨w.heap.size + 1, 0, none⟩)]) (by simp) (by simp [go_sem]) ?_
    refine (catchS_bang _ _ 0 _ 0 _ _ _ a01 a11 b1 g01 g11 f1 (by omega)).mono ?_
    rintro e u' w2 ⟨rfl, rfl, rfl⟩
    have kk : Kept [] w1 (w1.alloc (.cells #[.int .i64 0, .slice none 0 0] 26)) := (Kept.refl [] w1).alloc _
    obtain ⟨s0, s1, s2⟩ := cells3 (.int .i64 0) (.slice none 0 0) (.int .i64 5) (show w.heap.size + 1 ≠ w.heap.size by omega) (kk.cell a01 (by simp)) (kk.cell a11 (by simp)) (kk.cell b1 (by simp))
    simp [Leaves, settle, results, Tryz.results29, go_sem, s0, s1, s2]
    exact .inl ⟨hv.out, rfl, (((K1.out.alloc _).setCell _ _ (by simp)).setCell _ _ (by simp)).setCell _ _ (by simp)⟩
  · have a01 := k1.cell a0 (by simpa using hRA.out.1)
    have a11 := k1.cell a1 (by simpa using hRA.out.1)
    have b1 := k1.cell b0 (by simpa using hRA.out.2.1)
    have g01 := k1.free g0 y0 (by simpa using hRA.out.1)
    have g11 := k1.free g1 y1 (by simpa using hRA.out.1)
    have f1 := k1.free f0 z0 (by simpa using hRA.out.2.1)
    have K1 := Lib.hid (K0.out.trans k1 (fun x hx hlt => by simp at hx; subst hx; exact absurd hlt (Nat.not_lt.2 hRA.out.2.2)))
    have yy : w.heap.size < w1.heap.size := Nat.lt_of_lt_of_le y0 k1.size
    have zz : w.heap.size + 1 < w1.heap.size := Nat.lt_of_lt_of_le z0 k1.size
    have HWS := hWs.out
    have hrR := r1.cell
    have hne := hRA.out.1
    obtain ⟨a4, n4, hu4⟩ := hw1.sl
    subst hu4
    have W1 := Lib.hid (hw1.mono (show w.heap.size + 3 ≤ W.heap.size from hWs.out))
    clear k1 hw1
    have a02 := World.cell?_setCell_same w1 ⟨w.heap.size, 0, none⟩ (.int .i64 k) a01
    have a12 : (w1.setCell ⟨w.heap.size, 0, none⟩ (.int .i64 k)).cell? ⟨w.heap.size, 1, none⟩ = some (.slice none 0 0) := by rw [World.cell?_setCell_other _ _ _ _ (by simp)]; exact a11
    have a03 : ((w1.setCell ⟨w.heap.size, 0, none⟩ (.int .i64 k)).setCell ⟨w.heap.size, 1, none⟩ (.slice a4 ps.length n4)).cell? ⟨w.heap.size, 0, none⟩ = some (.int .i64 k) := by rw [World.cell?_setCell_other _ _ _ _ (by simp)]; exact a02
    have a13 := World.cell?_setCell_same (w1.setCell ⟨w.heap.size, 0, none⟩ (.int .i64 k)) ⟨w.heap.size, 1, none⟩ (.slice a4 ps.length n4) a12
    have b3 : ((w1.setCell ⟨w.heap.size, 0, none⟩ (.int .i64 k)).setCell ⟨w.heap.size, 1, none⟩ (.slice a4 ps.length n4)).cell? ⟨w.heap.size + 1, 0, none⟩ = some (.int .i64 0) := by rw [World.cell?_setCell_other _ _ _ _ (by simp), World.cell?_setCell_other _ _ _ _ (by simp)]; exact b1
    have he : (strB t).toList = t := ByteArray.toList_eq _
    have kset : Kept [w.heap.size] w1 ((w1.setCell ⟨w.heap.size, 0, none⟩ (.int .i64 k)).setCell ⟨w.heap.size, 1, none⟩ (.slice a4 ps.length n4)) := ((Kept.refl [w.heap.size] w1).setCell _ _ (by simp)).setCell _ _ (by simp)
    have K3 := Lib.hid ((K1.out.setCell ⟨w.heap.size, 0, none⟩ (.int .i64 k) (by simp)).setCell ⟨w.heap.size, 1, none⟩ (.slice a4 ps.length n4) (by simp))
    have W3 := Lib.hid (W1.out.kept kset (W1.out.notR (by omega)))
    have g03 := kset.free (p := ⟨w.heap.size, 0, none⟩)
    clear kset g03
    cases t with
    | nil =>
      have hv := Lib.hid (shapeR_some hs)
      clear hs
      go_wp2_with fail
      refine (must_true _ _ _ (by first | rfl | (rw [he]; rfl))).mono ?_
      rintro e w2 ⟨rfl, rfl⟩
      go_wp2_with fail
      refine leaves_cons (f := 53) (args := #[.pointer (some ⟨w.heap.size, 0, none⟩), .pointer (some ⟨w.heap.size + 1, 0, none⟩)]) (by simp) (by simp [go_sem]) ?_
      refine (catchS_none _ _ _).mono ?_
      rintro e u' w3 ⟨rfl, rfl, rfl⟩
      obtain ⟨s0, s1, s2⟩ := cells3 (.int .i64 k) (.slice a4 ps.length n4) (.int .i64 0) (show w.heap.size + 1 ≠ w.heap.size by omega) a03 a13 b3
      simp [Leaves, settle, results, Tryz.results29, go_sem, s0, s1, s2]
      refine .inr ⟨k, ps, _, hv.out, hk1, hk4, hpl, rfl, ?_, ((K3.out.setCell _ _ (by simp)).setCell _ _ (by simp)).setCell _ _ (by simp)⟩
      refine (W3.out.kept (L := [w.heap.size, w.heap.size + 1]) ((((Kept.refl _ _).setCell _ _ (by simp)).setCell _ _ (by simp)).setCell _ _ (by simp)) ?_).mono (by omega)
      intro g hg hm
      have := W3.out.lt hg
      simp at hm; omega
    | cons b t =>
      have hv := Lib.hid (shapeR_cons hs)
      clear hs
      go_wp2_with fail
      refine (must_false _ _ _ (by first | rfl | (rw [he]; rfl))).mono ?_
      rintro e w2 ⟨⟨u, x, rfl⟩, k2⟩
      have a05 := k2.cell a03 (by simp)
      have a15 := k2.cell a13 (by simp)
      have b5 := k2.cell b3 (by simp)
      have g05 := k2.free (p := ⟨w.heap.size, 0, none⟩) (by simpa using g01) (by simpa using yy) (by simp)
      have g15 := k2.free (p := ⟨w.heap.size, 1, none⟩) (by simpa using g11) (by simpa using yy) (by simp)
      have f5 := k2.free (p := ⟨w.heap.size + 1, 0, none⟩) (by simpa using f1) (by simpa using zz) (by simp)
      have K5 := Lib.hid (K3.out.trans0 k2)
      clear k2
      go_wp2_with fail
      refine leaves_cons (f := 53) (args := #[.pointer (some ⟨w.heap.size, 0, none⟩), .pointer (some ⟨w.heap.size + 1, 0, none⟩)]) (by simp) (by simp [go_sem]) ?_
      refine (catchS_bang _ _ k _ 0 _ _ _ a05 a15 b5 g05 g15 f5 (by omega)).mono ?_
      rintro e u' w3 ⟨rfl, rfl, rfl⟩
      have kk : Kept [] w2 (w2.alloc (.cells #[.int .i64 0, .slice none 0 0] 26)) := (Kept.refl [] w2).alloc _
      obtain ⟨s0, s1, s2⟩ := cells3 (.int .i64 0) (.slice none 0 0) (.int .i64 5) (show w.heap.size + 1 ≠ w.heap.size by omega) (kk.cell a05 (by simp)) (kk.cell a15 (by simp)) (kk.cell b5 (by simp))
      simp [Leaves, settle, results, Tryz.results29, go_sem, s0, s1, s2]
      exact .inl ⟨hv.out, rfl, (((K5.out.alloc _).setCell _ _ (by simp)).setCell _ _ (by simp)).setCell _ _ (by simp)⟩

end Go.Proofs.YtlhiahhpmjiioadGreatDoor

namespace Go.Proofs.YtlhiahhpmjiioadGreatDoor
open Go.RowKit

/-- What ParseShape answers: its code, and its kind and points. -/
def parC (l : List UInt8) : Int := if 600 < l.length then 2 else match shapeR l with | none => 5 | some x => shapeC x.1 (flatP x.2) x.2.length
def parS (l : List UInt8) : Int × List (Int × Int) := if parC l = 0 then (match shapeR l with | some x => x | none => (0, [])) else (0, [])
theorem par_many {l : List UInt8} (h : 600 < l.length) : parC l = 2 ∧ parS l = (0, []) := by
  have : parC l = 2 := if_pos h
  exact ⟨this, by unfold parS; rw [this]; rfl⟩
theorem par_text {l : List UInt8} (h : ¬ 600 < l.length) (hs : shapeR l = none) : parC l = 5 ∧ parS l = (0, []) := by
  have : parC l = 5 := by unfold parC; rw [if_neg h, hs]
  exact ⟨this, by unfold parS; rw [this]; rfl⟩
theorem par_fault {l : List UInt8} {x : Int × List (Int × Int)} (h : ¬ 600 < l.length) (hs : shapeR l = some x) (hc : shapeC x.1 (flatP x.2) x.2.length ≠ 0) : parC l = shapeC x.1 (flatP x.2) x.2.length ∧ parS l = (0, []) := by
  have : parC l = shapeC x.1 (flatP x.2) x.2.length := by unfold parC; rw [if_neg h, hs]
  exact ⟨this, by unfold parS; rw [this, if_neg hc]⟩
theorem par_ok {l : List UInt8} {x : Int × List (Int × Int)} (h : ¬ 600 < l.length) (hs : shapeR l = some x) (hc : shapeC x.1 (flatP x.2) x.2.length = 0) : parC l = 0 ∧ parS l = x := by
  have : parC l = 0 := by unfold parC; rw [if_neg h, hs]; exact hc
  exact ⟨this, by unfold parS; rw [if_pos this, hs]⟩
/-- A call that answers a code and a shape in memory of its own. -/
def ShpR (w : World) (c : Int) (s : Int × List (Int × Int)) (e : Ending) (w' : World) : Prop :=
  ∃ v, e = .returned (.agg #[.int .i64 c, .int .i64 s.1, v]) ∧ OwP w.heap.size w' v s.2 ∧ s.2.length ≤ 2000000 ∧ Kept [] w w'
theorem parBox {w w1 : World} {T : TypeId} (hk : Kept [] (w.alloc (.cells #[.int .i64 0, .int .i64 0, .slice none 0 0] T)) w1) :
    (w1.cell? ⟨w.heap.size, 0, none⟩ = some (.int .i64 0) ∧ w1.cell? ⟨w.heap.size, 1, none⟩ = some (.int .i64 0) ∧ w1.cell? ⟨w.heap.size, 2, none⟩ = some (.slice none 0 0)) ∧ w1.frozen? ⟨w.heap.size, 0, none⟩ = false ∧ w1.frozen? ⟨w.heap.size, 1, none⟩ = false ∧ w1.frozen? ⟨w.heap.size, 2, none⟩ = false :=
  ⟨⟨(hk.top rfl (by simp) 0 (v := .int .i64 0) rfl).1, (hk.top rfl (by simp) 1 (v := .int .i64 0) rfl).1, (hk.top rfl (by simp) 2 (v := .slice none 0 0) rfl).1⟩, (hk.top rfl (by simp) 0 (v := .int .i64 0) rfl).2.1, (hk.top rfl (by simp) 1 (v := .int .i64 0) rfl).2.1, (hk.top rfl (by simp) 2 (v := .slice none 0 0) rfl).2.1⟩
theorem parCells {w : World} {a : Nat} {x x1 x2 : Value} (u u1 u2 : Value) (h0 : w.cell? ⟨a, 0, none⟩ = some x) (h1 : w.cell? ⟨a, 1, none⟩ = some x1) (h2 : w.cell? ⟨a, 2, none⟩ = some x2) :
    (((w.setCell ⟨a, 0, none⟩ u).setCell ⟨a, 1, none⟩ u1).setCell ⟨a, 2, none⟩ u2).cell? ⟨a, 0, none⟩ = some u ∧ (((w.setCell ⟨a, 0, none⟩ u).setCell ⟨a, 1, none⟩ u1).setCell ⟨a, 2, none⟩ u2).cell? ⟨a, 1, none⟩ = some u1 ∧ (((w.setCell ⟨a, 0, none⟩ u).setCell ⟨a, 1, none⟩ u1).setCell ⟨a, 2, none⟩ u2).cell? ⟨a, 2, none⟩ = some u2 := by
  have e0 := World.cell?_setCell_same w ⟨a, 0, none⟩ u h0
  have e1 : (w.setCell ⟨a, 0, none⟩ u).cell? ⟨a, 1, none⟩ = some x1 := by rw [World.cell?_setCell_other _ _ _ _ (by simp)]; exact h1
  have e2 : ((w.setCell ⟨a, 0, none⟩ u).setCell ⟨a, 1, none⟩ u1).cell? ⟨a, 2, none⟩ = some x2 := by rw [World.cell?_setCell_other _ _ _ _ (by simp), World.cell?_setCell_other _ _ _ _ (by simp)]; exact h2
  refine ⟨?_, ?_, World.cell?_setCell_same _ _ _ e2⟩
  · rw [World.cell?_setCell_other _ _ _ _ (by simp), World.cell?_setCell_other _ _ _ _ (by simp)]; exact e0
  · rw [World.cell?_setCell_other _ _ _ _ (by simp)]; exact World.cell?_setCell_same _ _ _ e1

set_option maxHeartbeats 1000000 in
theorem ParseShape_any (l : List UInt8) (w : World) (hl : l.length ≤ 1500000) :
    Calls Tryz.prog 8 #[.string (strB l)] w (ShpR w (parC l) (parS l)) := by
  obtain ⟨S, hS⟩ : ∃ S, strB l = S := ⟨_, rfl⟩
  have hsz : S.size = l.length := by rw [← hS, strB_size]
  by_cases hb : 600 < l.length
  · obtain ⟨q1, q2⟩ := par_many hb
    have hbb : (600 : Int) < S.size := by omega
    rw [q1, q2, hS]
    clear hS hsz q1 q2
    go_enter Tryz.func8, Tryz.ntmps8
    go_wp2_with fail
    refine bodyPost_ret (v := .agg #[.int .i64 2, .int .i64 0, .slice none 0 0]) (by simp [results, Tryz.results8, go_sem]) rfl ⟨_, rfl, OwP.none0 _ _, by simp, (Kept.refl _ _).alloc _⟩
  · have hbb : ¬ (600 : Int) < S.size := by omega
    have HS := Lib.hid hS
    have HB := Lib.hid hb
    rw [hS]
    clear hsz hS hb
    go_enter Tryz.func8, Tryz.ntmps8
    go_wp2_with fail
    rw [← HS.out]
    refine (readAllS_any l _ hl).mono ?_
    rintro e w1 hd
    rcases hd with ⟨hn, rfl, k1⟩ | ⟨k, ps, v, hs, hk1, hk4, hpl, rfl, hw1, k1⟩
    · obtain ⟨q1, q2⟩ := par_text HB.out hn
      have Q := Lib.hid (And.intro q1 q2)
      clear q1 q2
      have k2 := k1.alloc (.cells #[.int .i64 0, .slice none 0 0] 26)
      obtain ⟨⟨c0, c1, c2⟩, f0, f1, f2⟩ := parBox k2
      have K2 := Lib.hid k2
      clear k1 k2 hn
      go_wp2_with fail
      obtain ⟨s0, s1, s2⟩ := parCells (.int .i64 5) (.int .i64 0) (.slice none 0 0) c0 c1 c2
      refine bodyPost_ret (v := .agg #[.int .i64 5, .int .i64 0, .slice none 0 0]) (by simp [results, Tryz.results8, go_sem, s0, s1, s2]) rfl ?_
      rw [Q.out.1, Q.out.2]
      exact ⟨_, rfl, OwP.none0 _ _, by simp, ((K2.out.peel.setCell _ _ (by simp)).setCell _ _ (by simp)).setCell _ _ (by simp)⟩
    · obtain ⟨a, n, hv⟩ := hw1.sl
      subst hv
      have hws0 : Hid (w.heap.size + 1 ≤ w1.heap.size) := by have := k1.size; show _ ≤ _; simpa using this
      have k2 := k1.alloc (.cells #[.int .i64 k, .slice a ps.length n] 26)
      have W2 := Lib.hid (hw1.alloc (.cells #[.int .i64 k, .slice a ps.length n] 26))
      have hrd := Lib.hid ((hw1.alloc (.cells #[.int .i64 k, .slice a ps.length n] 26)).rd hpl).2
      have K2 := Lib.hid k2
      have HSR := Lib.hid hs
      clear k1 k2 hw1 hs
      go_wp2_with fail
      have d0 := ((Kept.refl [] (w1.alloc (.cells #[.int .i64 k, .slice a ps.length n] 26))).top (g := w1.heap.size) rfl (by simp) 0 (v := .int .i64 k) rfl).1
      have d1 := ((Kept.refl [] (w1.alloc (.cells #[.int .i64 k, .slice a ps.length n] 26))).top (g := w1.heap.size) rfl (by simp) 1 (v := .slice a ps.length n) rfl).1
      refine (ShapeFault_any k a ps.length n (flatP ps) _ hrd.out).mono ?_
      rintro e w2 ⟨rfl, k3⟩
      have d0 := k3.cell d0 (by simp)
      have d1 := k3.cell d1 (by simp)
      have K3 := Lib.hid (K2.out.trans0 k3)
      have W3 := Lib.hid (W2.out.kept0 k3)
      have hwl : w.heap.size + 1 ≤ w1.heap.size := hws0.out
      obtain ⟨⟨c0, c1, c2⟩, f0, f1, f2⟩ := parBox K3.out
      clear k3
      by_cases hz : shapeC k (flatP ps) ps.length = 0
      · have Q := Lib.hid (par_ok (l := l) (x := (k, ps)) HB.out HSR.out hz)
        rw [hz]
        clear hz
        go_wp2_with fail
        obtain ⟨s0, s1, s2⟩ := parCells (.int .i64 0) (.int .i64 k) (.slice a ps.length n) c0 c1 c2
        refine bodyPost_ret (v := .agg #[.int .i64 0, .int .i64 k, .slice a ps.length n]) (by simp [results, Tryz.results8, go_sem, s0, s1, s2]) rfl ?_
        rw [Q.out.1, Q.out.2]
        refine ⟨_, rfl, ?_, hpl, ((K3.out.peel.setCell _ _ (by simp)).setCell _ _ (by simp)).setCell _ _ (by simp)⟩
        refine (W3.out.kept (L := [w.heap.size]) ((((Kept.refl _ _).setCell _ _ (by simp)).setCell _ _ (by simp)).setCell _ _ (by simp)) ?_).mono (by simp)
        intro g hg hm
        have := W3.out.lt hg
        simp at hm this; omega
      · have Q := Lib.hid (par_fault (l := l) (x := (k, ps)) HB.out HSR.out hz)
        obtain ⟨f, hf⟩ : ∃ f, shapeC k (flatP ps) ps.length = f := ⟨_, rfl⟩
        have hne : (f == 0) = false := by rw [beq_eq_false_iff_ne, ← hf]; exact hz
        have HF := Lib.hid hf
        rw [hf]
        clear hf hz
        go_wp2_with fail
        obtain ⟨s0, s1, s2⟩ := parCells (.int .i64 f) (.int .i64 0) (.slice none 0 0) c0 c1 c2
        refine bodyPost_ret (v := .agg #[.int .i64 f, .int .i64 0, .slice none 0 0]) (by simp [results, Tryz.results8, go_sem, s0, s1, s2]) rfl ?_
        rw [Q.out.1, Q.out.2, HF.out]
        exact ⟨_, rfl, OwP.none0 _ _, by simp, ((K3.out.peel.setCell _ _ (by simp)).setCell _ _ (by simp)).setCell _ _ (by simp)⟩

end Go.Proofs.YtlhiahhpmjiioadGreatDoor
