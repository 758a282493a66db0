/-
  Contract of the model's ParseShape. Condition: the text is no longer than a million and a half.
-/
import Derived.Test.YtlhiahhpmjiioacGreatDoorPmE
namespace Go.Proofs.YtlhiahhpmjiioacGreatDoor
open Go.RowKit

set_option maxHeartbeats 1000000 in
theorem sParseShape_any (l : List UInt8) (w : World) (hl : l.length ≤ 1500000) :
    Calls Tryz.prog 4 #[.string (strB l)] w (ShpR w (parC l) (parS l)) := by
  obtain ⟨S, hS⟩ : ∃ S, strB l = S := ⟨_, rfl⟩
  have hsz : S.size = l.length := by rw [← hS, strB_size]
  by_cases hb : 600 < l.length
  · obtain ⟨q1, q2⟩ := par_many hb
    have hbb : (600 : Int) < S.size := by omega
    rw [q1, q2, hS]
    clear hS hsz q1 q2
    go_enter Tryz.func4, Tryz.ntmps4
    go_wp2_with fail
    refine bodyPost_ret (v := .agg #[.int .i64 2, .int .i64 0, .slice none 0 0]) (by simp [results, Tryz.results4, go_sem]) rfl ⟨_, rfl, OwP.none0 _ _, by simp, (Kept.refl _ _).alloc _⟩
  · have hbb : ¬ (600 : Int) < S.size := by omega
    have HS := Lib.hid hS
    have HB := Lib.hid hb
    rw [hS]
    clear hsz hS hb
    go_enter Tryz.func4, Tryz.ntmps4
    go_wp2_with fail
    rw [← HS.out]
    refine (l8Parse_any l _ hl).mono ?_
    rintro e w1 hd
    rcases hd with ⟨hn, ⟨k0, rfl⟩, k1⟩ | ⟨k, ps, v, hs, hpl, rfl, hw1, k1⟩
    · obtain ⟨q1, q2⟩ := par_text HB.out (by rw [shapeR_eq]; exact hn)
      have Q := Lib.hid (And.intro q1 q2)
      clear q1 q2
      have k2 := k1.alloc (.cells #[.int .i64 k0, .slice none 0 0] 24)
      obtain ⟨⟨c0, c1, c2⟩, f0, f1, f2⟩ := parBox k2
      have K2 := Lib.hid k2
      clear k1 k2 hn
      go_wp2_with fail
      obtain ⟨s0, s1, s2⟩ := parCells (.int .i64 5) (.int .i64 0) (.slice none 0 0) c0 c1 c2
      refine bodyPost_ret (v := .agg #[.int .i64 5, .int .i64 0, .slice none 0 0]) (by simp [results, Tryz.results4, go_sem, s0, s1, s2]) rfl ?_
      rw [Q.out.1, Q.out.2]
      exact ⟨_, rfl, OwP.none0 _ _, by simp, ((K2.out.peel.setCell _ _ (by simp)).setCell _ _ (by simp)).setCell _ _ (by simp)⟩
    · obtain ⟨a, n, hv⟩ := hw1.sl
      subst hv
      have hws0 : Hid (w.heap.size + 1 ≤ w1.heap.size) := by have := k1.size; show _ ≤ _; simpa using this
      have k2 := k1.alloc (.cells #[.int .i64 k, .slice a ps.length n] 24)
      have W2 := Lib.hid (hw1.alloc (.cells #[.int .i64 k, .slice a ps.length n] 24))
      have hrd := Lib.hid ((hw1.alloc (.cells #[.int .i64 k, .slice a ps.length n] 24)).rd hpl).2
      have K2 := Lib.hid k2
      have HSR := Lib.hid ((shapeR_eq l).trans hs)
      clear k1 k2 hw1 hs
      have d0 := ((Kept.refl [] (w1.alloc (.cells #[.int .i64 k, .slice a ps.length n] 24))).top (g := w1.heap.size) rfl (by simp) 0 (v := .int .i64 k) rfl).1
      have d1 := ((Kept.refl [] (w1.alloc (.cells #[.int .i64 k, .slice a ps.length n] 24))).top (g := w1.heap.size) rfl (by simp) 1 (v := .slice a ps.length n) rfl).1
      go_wp2_with fail
      refine (sShapeFault_any k a ps.length n (flatP ps) _ hrd.out).mono ?_
      rintro e w2 ⟨rfl, k3⟩
      have d0 := k3.cell d0 (by simp)
      have d1 := k3.cell d1 (by simp)
      have K3 := Lib.hid (K2.out.trans0 k3)
      have W3 := Lib.hid (W2.out.kept0 k3)
      have hwl : w.heap.size + 1 ≤ w1.heap.size := hws0.out
      obtain ⟨⟨c0, c1, c2⟩, f0, f1, f2⟩ := parBox K3.out
      clear k3
      by_cases hz : shapeC k (flatP ps) ps.length = 0
      · have Q := Lib.hid (par_ok (l := l) (x := (k, ps)) HB.out HSR.out hz)
        rw [hz]
        clear hz
        go_wp2_with fail
        obtain ⟨s0, s1, s2⟩ := parCells (.int .i64 0) (.int .i64 k) (.slice a ps.length n) c0 c1 c2
        refine bodyPost_ret (v := .agg #[.int .i64 0, .int .i64 k, .slice a ps.length n]) (by simp [results, Tryz.results4, go_sem, s0, s1, s2]) rfl ?_
        rw [Q.out.1, Q.out.2]
        refine ⟨_, rfl, ?_, hpl, ((K3.out.peel.setCell _ _ (by simp)).setCell _ _ (by simp)).setCell _ _ (by simp)⟩
        refine (W3.out.kept (L := [w.heap.size]) ((((Kept.refl _ _).setCell _ _ (by simp)).setCell _ _ (by simp)).setCell _ _ (by simp)) ?_).mono (by simp)
        intro g hg hm
        have := W3.out.lt hg
        simp at hm this; omega
      · have Q := Lib.hid (par_fault (l := l) (x := (k, ps)) HB.out HSR.out hz)
        obtain ⟨f, hf⟩ : ∃ f, shapeC k (flatP ps) ps.length = f := ⟨_, rfl⟩
        have hne : (f == 0) = false := by rw [beq_eq_false_iff_ne, ← hf]; exact hz
        have HF := Lib.hid hf
        rw [hf]
        clear hf hz
        go_wp2_with fail
        obtain ⟨s0, s1, s2⟩ := parCells (.int .i64 f) (.int .i64 0) (.slice none 0 0) c0 c1 c2
        refine bodyPost_ret (v := .agg #[.int .i64 f, .int .i64 0, .slice none 0 0]) (by simp [results, Tryz.results4, go_sem, s0, s1, s2]) rfl ?_
        rw [Q.out.1, Q.out.2, HF.out]
        exact ⟨_, rfl, OwP.none0 _ _, by simp, ((K3.out.peel.setCell _ _ (by simp)).setCell _ _ (by simp)).setCell _ _ (by simp)⟩

end Go.Proofs.YtlhiahhpmjiioacGreatDoor
