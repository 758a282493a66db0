/-
  Contracts of readAll over coord, and of ReadCoord. Condition: the text is no longer than a million and a half.
-/
import Derived.Recover
import Derived.Test.YtbkfjebmpccblagDoorRdB
namespace Go.Proofs.YtbkfjebmpccblagDoor
open Go.RowKit

theorem cells2x {w : World} {a b : Nat} {x y : Value} (u v : Value) (hab : b ≠ a) (h0 : w.cell? ⟨a, 0, none⟩ = some x) (h1 : w.cell? ⟨b, 0, none⟩ = some y) :
    (w.setCell ⟨a, 0, none⟩ u).cell? ⟨a, 0, none⟩ = some u ∧ ((w.setCell ⟨a, 0, none⟩ u).setCell ⟨b, 0, none⟩ v).cell? ⟨a, 0, none⟩ = some u ∧ ((w.setCell ⟨a, 0, none⟩ u).setCell ⟨b, 0, none⟩ v).cell? ⟨b, 0, none⟩ = some v := by
  have e0 := World.cell?_setCell_same w ⟨a, 0, none⟩ u h0
  have e1 : (w.setCell ⟨a, 0, none⟩ u).cell? ⟨b, 0, none⟩ = some y := by rw [World.cell?_setCell_other _ _ _ _ (by simp)]; exact h1
  exact ⟨e0, by rw [World.cell?_setCell_other _ _ _ _ (by simp)]; exact e0, World.cell?_setCell_same _ _ _ e1⟩

theorem catch_bang (a b : Nat) (x y : Int) (u : TypeId) (pv : Value) (w : World) (hx : w.cell? ⟨a, 0, none⟩ = some (.int .i64 x)) (hy : w.cell? ⟨b, 0, none⟩ = some (.int .i64 y)) (fx : w.frozen? ⟨a, 0, none⟩ = false) (fy : w.frozen? ⟨b, 0, none⟩ = false) (hab : b ≠ a) :
    CallsD Tryd.prog 32 #[.pointer (some ⟨a, 0, none⟩), .pointer (some ⟨b, 0, none⟩)] (.panicking ({ v := .iface u pv, recovered := false } :: [])) w fun e u' w' =>
      e = .returned (.tuple #[]) ∧ u' = .panicking ({ v := .iface u pv, recovered := true } :: []) ∧ w' = (w.setCell ⟨a, 0, none⟩ (.int .i64 0)).setCell ⟨b, 0, none⟩ (.int .i64 5) := by
  have hy2 : (w.setCell ⟨a, 0, none⟩ (.int .i64 0)).cell? ⟨b, 0, none⟩ = some (.int .i64 y) := by rw [World.cell?_setCell_other _ _ _ _ (by simp)]; exact hy
  refine callsD_of_wpS Tryd.func32 rfl fun c₀ cs hu => ?_
  apply wpS_seq
  apply wpS_region
  simp [wpOpsS, go_sem, recoverD, hu, Tryd.ntmps32, Exit.thenS]
  refine wpS_cond (t := true) (by simp [Act.eval, Array.replicate]) ?_
  simp only [if_true]
  apply wpS_seq
  apply wpS_region
  simp [wpOpsS, go_sem, Exit.thenS]
  apply wpS_region
  simp [wpOpsS, go_sem, hx, hy2, fx, fy, bodyPostS, results, Tryd.results32]

theorem catch_none (a b : Nat) (w : World) :
    CallsD Tryd.prog 32 #[.pointer (some ⟨a, 0, none⟩), .pointer (some ⟨b, 0, none⟩)] .returning w fun e u' w' => e = .returned (.tuple #[]) ∧ u' = .returning ∧ w' = w := by
  refine callsD_of_wpS Tryd.func32 rfl fun c₀ cs hu => ?_
  apply wpS_seq
  apply wpS_region
  simp [wpOpsS, go_sem, recoverD, hu, Tryd.ntmps32, Exit.thenS]
  refine wpS_cond (t := false) (by simp [Act.eval, Array.replicate]) ?_
  simp only [Bool.false_eq_true, if_false]
  refine wpS_of_wp (wp_skip ?_)
  cases c₀
  simp_all [bodyPostS, results, Tryd.results32]

set_option maxHeartbeats 400000 in
theorem readAllC_any (l : List UInt8) (w : World) (hl : l.length ≤ 1500000) :
    Calls Tryd.prog 21 #[.string (strB l), .func (.func 22) #[] #[]] w (Ans w (.tuple #[.int .i64 (rcV l), .int .i64 (rcC l)])) := by
  have hmf : ∀ (fn : Fn) (first cap : Array Value) (w : World), (Instr.makeFunc fn first cap).run Tryd.prog w = .ok (.func fn first cap) w := fun _ _ _ _ => rfl
  go_enter_defers Tryd.func21, Tryd.ntmps21
  go_wp2_with fail
  generalize hW : (((w.alloc (.cells #[.int .i64 0] 2)).alloc (.cells #[.int .i64 0] 2)).alloc (.cells #[.string (strB l)] 65)) = W
  have k0 : Kept [] (((w.alloc (.cells #[.int .i64 0] 2)).alloc (.cells #[.int .i64 0] 2)).alloc (.cells #[.string (strB l)] 65)) W := by rw [hW]; exact Kept.refl _ _
  obtain ⟨R, hR⟩ : ∃ R, R = w.heap.size + 1 + 1 := ⟨_, rfl⟩
  have r0 : Rdr W R l := by
    subst hR
    exact ⟨(k0.top (g := w.heap.size + 1 + 1) (by simp) (by simp) 0 (v := .string (strB l)) rfl).1, (k0.top (g := w.heap.size + 1 + 1) (by simp) (by simp) 0 (v := .string (strB l)) rfl).2.1⟩
  obtain ⟨b0, f0, z0⟩ := k0.peel.top (g := w.heap.size + 1) (by simp) (by simp) 0 (v := .int .i64 0) rfl
  obtain ⟨a0, g0, y0⟩ := k0.peel.peel.top (g := w.heap.size) (by simp) (by simp) 0 (v := .int .i64 0) rfl
  have K0 := Lib.hid k0.peel.peel.peel
  have hRA : Hid (w.heap.size ≠ R ∧ w.heap.size + 1 ≠ R ∧ w.heap.size ≤ R) := by subst hR; exact ⟨by omega, by omega, by omega⟩
  rw [← hR]
  clear k0 hW hR
  refine (coord_any R l W r0 hl).mono ?_
  rintro e w1 hd
  rcases hd with ⟨hn, ⟨u, x, rfl⟩, k1⟩ | ⟨v, r, hs, rfl, r1, k1⟩
  · have hv := rc_no (l := l) (by unfold fullC; rw [hn]; rfl)
    have a1 := k1.cell a0 (by simpa using hRA.out.1)
    have b1 := k1.cell b0 (by simpa using hRA.out.2.1)
    have g1 := k1.free g0 y0 (by simpa using hRA.out.1)
    have f1 := k1.free f0 z0 (by simpa using hRA.out.2.1)
    have K1 := Lib.hid (K0.out.trans k1 (fun x hx hlt => by simp at hx; subst hx; exact absurd hlt (Nat.not_lt.2 hRA.out.2.2)))
    rw [hv.1, hv.2]
    go_wp2_with fail
    refine leaves_cons (f := 32) (args := #[.pointer (some ⟨w.heap.size, 0, none⟩), .pointer (some ⟨w.heap.size + 1, 0, none⟩)]) (by simp) (by simp [go_sem]) ?_
    refine (catch_bang _ _ 0 0 _ _ _ a1 b1 g1 f1 (by omega)).mono ?_
    rintro e u' w2 ⟨rfl, rfl, rfl⟩
    obtain ⟨_, s0, s1⟩ := cells2x (.int .i64 0) (.int .i64 5) (show w.heap.size + 1 ≠ w.heap.size by omega) a1 b1
    simp [Leaves, settle, results, Tryd.results21, go_sem, s0, s1, Ans]
    exact (K1.out.setCell _ _ (by simp)).setCell _ _ (by simp)
  · have a1 := k1.cell a0 (by simpa using hRA.out.1)
    have b1 := k1.cell b0 (by simpa using hRA.out.2.1)
    have g1 := k1.free g0 y0 (by simpa using hRA.out.1)
    have f1 := k1.free f0 z0 (by simpa using hRA.out.2.1)
    have K1 := Lib.hid (K0.out.trans k1 (fun x hx hlt => by simp at hx; subst hx; exact absurd hlt (Nat.not_lt.2 hRA.out.2.2)))
    have y1 : w.heap.size < w1.heap.size := Nat.lt_of_lt_of_le y0 k1.size
    have z1 : w.heap.size + 1 < w1.heap.size := Nat.lt_of_lt_of_le z0 k1.size
    have hrR := r1.cell
    have hne := hRA.out.1
    have a2 := World.cell?_setCell_same w1 ⟨w.heap.size, 0, none⟩ (.int .i64 v) a1
    have b2 : (w1.setCell ⟨w.heap.size, 0, none⟩ (.int .i64 v)).cell? ⟨w.heap.size + 1, 0, none⟩ = some (.int .i64 0) := by rw [World.cell?_setCell_other _ _ _ _ (by simp)]; exact b1
    have he : (strB r).toList = r := ByteArray.toList_eq _
    cases r with
    | nil =>
      have hv := rc_yes (l := l) (v := v) (by unfold fullC; rw [hs]; rfl)
      go_wp2_with fail
      refine (must_true _ _ _ (by first | rfl | (rw [he]; rfl))).mono ?_
      rintro e w2 ⟨rfl, rfl⟩
      go_wp2_with fail
      refine leaves_cons (f := 32) (args := #[.pointer (some ⟨w.heap.size, 0, none⟩), .pointer (some ⟨w.heap.size + 1, 0, none⟩)]) (by simp) (by simp [go_sem]) ?_
      refine (catch_none _ _ _).mono ?_
      rintro e u' w3 ⟨rfl, rfl, rfl⟩
      obtain ⟨_, s0, s1⟩ := cells2x (.int .i64 v) (.int .i64 0) (show w.heap.size + 1 ≠ w.heap.size by omega) a2 b2
      simp [Leaves, settle, results, Tryd.results21, go_sem, s0, s1, Ans, hv.1, hv.2]
      exact ((K1.out.setCell _ _ (by simp)).setCell _ _ (by simp)).setCell _ _ (by simp)
    | cons b r =>
      have hv := rc_no (l := l) (by unfold fullC; rw [hs]; rfl)
      rw [hv.1, hv.2]
      go_wp2_with fail
      refine (must_false _ _ _ (by first | rfl | (rw [he]; rfl))).mono ?_
      rintro e w2 ⟨⟨u, x, rfl⟩, k2⟩
      have a3 := k2.cell a2 (by simp)
      have b3 := k2.cell b2 (by simp)
      have g3 := k2.free (p := ⟨w.heap.size, 0, none⟩) (by simpa using g1) (by simpa using y1) (by simp)
      have f3 := k2.free (p := ⟨w.heap.size + 1, 0, none⟩) (by simpa using f1) (by simpa using z1) (by simp)
      have K3 := Lib.hid ((K1.out.setCell ⟨w.heap.size, 0, none⟩ (.int .i64 v) (by simp)).trans0 k2)
      go_wp2_with fail
      refine leaves_cons (f := 32) (args := #[.pointer (some ⟨w.heap.size, 0, none⟩), .pointer (some ⟨w.heap.size + 1, 0, none⟩)]) (by simp) (by simp [go_sem]) ?_
      refine (catch_bang _ _ v 0 _ _ _ a3 b3 g3 f3 (by omega)).mono ?_
      rintro e u' w3 ⟨rfl, rfl, rfl⟩
      obtain ⟨_, s0, s1⟩ := cells2x (.int .i64 0) (.int .i64 5) (show w.heap.size + 1 ≠ w.heap.size by omega) a3 b3
      simp [Leaves, settle, results, Tryd.results21, go_sem, s0, s1, Ans]
      exact (K3.out.setCell _ _ (by simp)).setCell _ _ (by simp)

theorem intBox {w w1 : World} {T : TypeId} (hk : Kept [] (w.alloc (.cells #[.int .i64 0, .int .i64 0] T)) w1) :
    (w1.cell? ⟨w.heap.size, 0, none⟩ = some (.int .i64 0) ∧ w1.cell? ⟨w.heap.size, 1, none⟩ = some (.int .i64 0)) ∧ w1.frozen? ⟨w.heap.size, 0, none⟩ = false ∧ w1.frozen? ⟨w.heap.size, 1, none⟩ = false :=
  ⟨⟨(hk.top rfl (by simp) 0 (v := .int .i64 0) rfl).1, (hk.top rfl (by simp) 1 (v := .int .i64 0) rfl).1⟩, (hk.top rfl (by simp) 0 (v := .int .i64 0) rfl).2.1, (hk.top rfl (by simp) 1 (v := .int .i64 0) rfl).2.1⟩

set_option maxHeartbeats 400000 in
theorem ReadCoord_any (l : List UInt8) (w : World) (hl : l.length ≤ 1500000) :
    Calls Tryd.prog 8 #[.string (strB l)] w (Ans w (.agg #[.int .i64 (rcC l), .int .i64 (rcV l)])) := by
  obtain ⟨v, hv⟩ : ∃ v, rcV l = v := ⟨_, rfl⟩
  obtain ⟨c, hc⟩ : ∃ v, rcC l = v := ⟨_, rfl⟩
  rw [hv, hc]
  have HV := Lib.hid hv
  have HC := Lib.hid hc
  clear hv hc
  go_enter Tryd.func8, Tryd.ntmps8
  go_wp2_with fail
  refine (readAllC_any l _ hl).mono ?_
  rintro e w1 ⟨rfl, k1⟩
  rw [HV.out, HC.out]
  obtain ⟨⟨c0, c1⟩, f0, f1⟩ := intBox k1
  have K1 := Lib.hid k1
  clear k1
  go_wp2_with fail
  obtain ⟨_, s0, s1⟩ := cells2 (.int .i64 c) (.int .i64 v) c0 c1
  refine bodyPost_ret (v := .agg #[.int .i64 c, .int .i64 v]) (by simp [results, Tryd.results8, go_sem, s0, s1]) rfl ⟨rfl, ?_⟩
  exact (K1.out.peel.setCell _ _ (by simp)).setCell _ _ (by simp)

end Go.Proofs.YtbkfjebmpccblagDoor
