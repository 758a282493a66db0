/-
  The walk of the law on ParseShape. No condition.
-/
import Derived.Test.YtlhiahhpmjiioacGreatDoorPmF
import Derived.Test.YtlhiahhpmjiioacGreatDoorPmG
namespace Go.Proofs.YtlhiahhpmjiioacGreatDoor
open Go.RowKit

/-- A result's three cells in a box. -/
def BoxR (w : World) (g : Nat) (u k : Int) (v : Value) : Prop := w.cell? ⟨g, 0, none⟩ = some (.int .i64 u) ∧ w.cell? ⟨g, 1, none⟩ = some (.int .i64 k) ∧ w.cell? ⟨g, 2, none⟩ = some v
theorem BoxR.kept {L : List Nat} {w w' : World} {g : Nat} {u k : Int} {v : Value} (h : BoxR w g u k v) (kk : Kept L w w') (hL : g ∉ L) : BoxR w' g u k v := ⟨kk.cell h.1 hL, kk.cell h.2.1 hL, kk.cell h.2.2 hL⟩
theorem BoxR.new {w : World} {u k : Int} {v : Value} {T : TypeId} : BoxR (w.alloc (.cells #[.int .i64 u, .int .i64 k, v] T)) w.heap.size u k v :=
  ⟨((Kept.refl [] _).top (g := w.heap.size) rfl (by simp) 0 (v := .int .i64 u) rfl).1, ((Kept.refl [] _).top (g := w.heap.size) rfl (by simp) 1 (v := .int .i64 k) rfl).1, ((Kept.refl [] _).top (g := w.heap.size) rfl (by simp) 2 (v := v) rfl).1⟩

set_option maxHeartbeats 4000000 in
set_option maxRecDepth 20000 in
theorem FnExactParseShape_walk (s : ByteArray) (w : World) (_hs : s.size ≤ maxLen) :
    Calls Tryz.prog 3 #[.string s] w (Ans w (.bool true)) := by
  by_cases hbig : 1048576 < s.size
  · have hb : (1048576 : Int) < s.size := by omega
    go_enter Tryz.func3, Tryz.ntmps3
    go_wp2_with fail
    go_ret
    exact ⟨rfl, Kept.refl _ _⟩
  have hb : ¬ (1048576 : Int) < s.size := by omega
  obtain ⟨l, hl⟩ : ∃ l, s = strB l := ⟨s.data.toList, rfl⟩
  have hll : l.length ≤ 1500000 := by have := strB_size l; rw [← hl] at this; omega
  have HL := Lib.hid hl
  clear hl hbig _hs
  obtain ⟨u, hu⟩ : ∃ u, parC l = u := ⟨_, rfl⟩
  obtain ⟨S, hS⟩ : ∃ u, parS l = u := ⟨_, rfl⟩
  have HU := Lib.hid hu
  have HSS := Lib.hid hS
  clear hu hS
  obtain ⟨k, ps⟩ := S
  go_enter Tryz.func3, Tryz.ntmps3
  go_wp2_with fail
  rw [HL.out]
  refine (sParseShape_any l _ hll).mono ?_
  rw [HU.out, HSS.out]
  rintro e w1 ⟨v1, rfl, o1, hpl, k1⟩
  have hpl : ps.length ≤ 2000000 := hpl
  obtain ⟨a1, c1, hv1⟩ := o1.sl
  subst hv1
  obtain ⟨_, sp1, bl1⟩ := o1.slp hpl
  obtain ⟨n, hn⟩ : ∃ n, ps.length = n := ⟨_, rfl⟩
  obtain ⟨xs, hxs⟩ : ∃ xs, flatP ps = xs := ⟨_, rfl⟩
  rw [hn] at hpl sp1 bl1 ⊢
  rw [hxs] at sp1
  have HN := Lib.hid hn
  have HXS := Lib.hid hxs
  obtain ⟨q, hq⟩ : ∃ q : Int, 1 + ((n * 2 : Nat) : Int) = q := ⟨_, rfl⟩
  have hq0 : ¬ q < 0 := by omega
  have hq1 : (0 : Int) ≤ q := by omega
  have HQ := Lib.hid hq
  clear hn hxs hq
  have ka1 : Kept [] w1 (w1.alloc (.cells #[.int .i64 u, .int .i64 k, .slice a1 n c1] 26)) := (Kept.refl [] w1).alloc _
  have B1 := Lib.hid (BoxR.new (w := w1) (u := u) (k := k) (v := .slice a1 n c1) (T := 26))
  have L1 : Hid (∀ g ∈ blkP a1 n, g < w1.heap.size) := by
    intro g hg
    rcases sp1.2.2 with h0 | ⟨g', rfl, hb⟩
    · subst h0; simp [blkP] at hg
    · unfold blkP at hg; split at hg
      · cases hg
      · simp at hg; subst hg; exact hb.lt
  have S1 := Lib.hid (sp1.kept ka1 (by simp))
  have K1 := Lib.hid (k1.trans0 ka1)
  obtain ⟨W1, hW1⟩ : ∃ W1, W1 = w1.alloc (.cells #[.int .i64 u, .int .i64 k, .slice a1 n c1] 26) := ⟨_, rfl⟩
  have hz1 : w1.heap.size < W1.heap.size := by rw [hW1]; simp
  have K1s : Hid (w.heap.size ≤ W1.heap.size) := by have := k1.size; show _ ≤ _; omega
  clear ka1 k1 o1 sp1
  go_wp2_with fail
  rw [← hW1] at B1 S1 K1 ⊢
  clear hW1
  refine (ParseShape_any l _ hll).mono ?_
  rw [HU.out, HSS.out]
  rintro e w2 ⟨v2, rfl, o2, _, k2⟩
  obtain ⟨a2, c2, hv2⟩ := o2.sl
  subst hv2
  obtain ⟨_, sp2, bl2⟩ := o2.slp (by rw [HN.out]; exact hpl)
  rw [HN.out] at sp2 bl2 ⊢
  rw [HXS.out] at sp2
  have L2 : Hid (∀ g ∈ blkP a2 n, W1.heap.size ≤ g ∧ g < w2.heap.size) := by
    intro g hg
    refine ⟨bl2 g hg, ?_⟩
    rcases sp2.2.2 with h0 | ⟨g', rfl, hb⟩
    · subst h0; simp [blkP] at hg
    · unfold blkP at hg; split at hg
      · cases hg
      · simp at hg; subst hg; exact hb.lt
  have ka2 : Kept [] w2 (w2.alloc (.cells #[.int .i64 u, .int .i64 k, .slice a2 n c2] 26)) := (Kept.refl [] w2).alloc _
  have B2 := Lib.hid (BoxR.new (w := w2) (u := u) (k := k) (v := .slice a2 n c2) (T := 26))
  have S2 := Lib.hid (sp2.kept ka2 (by simp))
  have B1' := Lib.hid (B1.out.kept (k2.trans0 ka2) (by simp))
  have S1' := Lib.hid (S1.out.kept (k2.trans0 ka2) (by simp))
  have K2 := Lib.hid (K1.out.trans0 (k2.trans0 ka2))
  obtain ⟨W2, hW2⟩ : ∃ W2, W2 = w2.alloc (.cells #[.int .i64 u, .int .i64 k, .slice a2 n c2] 26) := ⟨_, rfl⟩
  have hz2 : w2.heap.size < W2.heap.size := by rw [hW2]; simp
  obtain ⟨x10, x11, x12⟩ := B1'.out
  obtain ⟨x20, x21, x22⟩ := B2.out
  have hz12 := k2.size
  clear ka2 k2 o2 sp2 B1 S1 K1
  go_wp2_with fail
  rw [← hW2] at B2 B1' S1' S2 K2 ⊢
  clear hW2
  refine (eqShapeResult_yes _ _ _ _ _ _ _ _ _ S2.out.rd S1'.out.rd).mono ?_
  rintro e w3 ⟨rfl, k3⟩
  have B13 := Lib.hid (B1'.out.kept k3 (by simp))
  have B23 := Lib.hid (B2.out.kept k3 (by simp))
  have S13 := Lib.hid (S1'.out.kept k3 (by simp))
  have S23 := Lib.hid (S2.out.kept k3 (by simp))
  have K3 := Lib.hid (K2.out.trans0 k3)
  obtain ⟨x10, x11, x12⟩ := B13.out
  obtain ⟨x20, x21, x22⟩ := B23.out
  clear k3 B1' B2 S1' S2 K2
  go_wp2_with fail
  refine (markShapeResult_any _ _ _ _ _ _ 1 _ S23.out (by omega)).mono ?_
  rw [HQ.out]
  rintro e w4 ⟨rfl, S24, k4⟩
  have hb1n : Hid (w1.heap.size ∉ blkP a2 n) := fun hm => by have := L2.out _ hm; omega
  have hb2n : Hid (w2.heap.size ∉ blkP a2 n) := fun hm => by have := L2.out _ hm; omega
  have B14 := Lib.hid (B13.out.kept k4 hb1n.out)
  have B24 := Lib.hid (B23.out.kept k4 hb2n.out)
  have S14 := Lib.hid (S13.out.kept k4 (fun g hg hm => by have h1 := L1.out g hg; have h2 := L2.out g hm; omega))
  have S24 := Lib.hid S24
  have K4 : Hid (Kept [] w w4) := K3.out.trans k4 (fun x hx hlt => by have h1 := L2.out x hx; have h2 := K1s.out; omega)
  obtain ⟨x10, x11, x12⟩ := B14.out
  obtain ⟨x20, x21, x22⟩ := B24.out
  clear k4 B13 B23 S13 S23 K3
  go_wp2_with fail
  refine (heldShapeResult_any _ _ _ _ _ 1 _ S24.out (by omega)).mono ?_
  rw [HQ.out]
  rintro e w5 ⟨rfl, k5⟩
  have B15 := Lib.hid (B14.out.kept k5 (by simp))
  have B25 := Lib.hid (B24.out.kept k5 (by simp))
  have S15 := Lib.hid (S14.out.kept k5 (by simp))
  have S25 := Lib.hid (S24.out.kept k5 (by simp))
  have K5 := Lib.hid (K4.out.trans0 k5)
  clear k5 B14 B24 S14 S24 K4
  go_wp2_with fail
  refine (ParseShape_any l _ hll).mono ?_
  rw [HU.out, HSS.out]
  rintro e w6 ⟨v6, rfl, o6, _, k6⟩
  obtain ⟨a6, c6, hv6⟩ := o6.sl
  subst hv6
  obtain ⟨_, sp6, _⟩ := o6.slp (by rw [HN.out]; exact hpl)
  rw [HN.out] at sp6 ⊢
  rw [HXS.out] at sp6
  have ka6 : Kept [] w6 (w6.alloc (.cells #[.int .i64 u, .int .i64 k, .slice a6 n c6] 26)) := (Kept.refl [] w6).alloc _
  have B6 := Lib.hid (BoxR.new (w := w6) (u := u) (k := k) (v := .slice a6 n c6) (T := 26))
  have S6 := Lib.hid (sp6.kept ka6 (by simp))
  have B16 := Lib.hid (B15.out.kept (k6.trans0 ka6) (by simp))
  have B26 := Lib.hid (B25.out.kept (k6.trans0 ka6) (by simp))
  have S16 := Lib.hid (S15.out.kept (k6.trans0 ka6) (by simp))
  have S26 := Lib.hid (S25.out.kept (k6.trans0 ka6) (by simp))
  have K6 := Lib.hid (K5.out.trans0 (k6.trans0 ka6))
  obtain ⟨W6, hW6⟩ : ∃ W6, W6 = w6.alloc (.cells #[.int .i64 u, .int .i64 k, .slice a6 n c6] 26) := ⟨_, rfl⟩
  obtain ⟨x10, x11, x12⟩ := B16.out
  obtain ⟨x60, x61, x62⟩ := B6.out
  clear ka6 k6 o6 sp6 B15 B25 S15 S25 K5
  go_wp2_with fail
  rw [← hW6] at B6 B16 B26 S16 S26 S6 K6 ⊢
  clear hW6
  refine (eqShapeResult_yes _ _ _ _ _ _ _ _ _ S6.out.rd S16.out.rd).mono ?_
  rintro e w7 ⟨rfl, k7⟩
  have B27 := Lib.hid (B26.out.kept k7 (by simp))
  have S27 := Lib.hid (S26.out.kept k7 (by simp))
  have K7 := Lib.hid (K6.out.trans0 k7)
  obtain ⟨x20, x21, x22⟩ := B27.out
  clear k7 B6 B16 B26 S6 S16 S26 K6
  go_wp2_with fail
  refine (heldShapeResult_any _ _ _ _ _ 1 _ S27.out (by omega)).mono ?_
  rw [HQ.out]
  rintro e w8 ⟨rfl, k8⟩
  have K8 := Lib.hid (K7.out.trans0 k8)
  clear k8 K7 B27 S27
  go_wp2_with fail
  go_ret
  exact ⟨rfl, K8.out⟩

end Go.Proofs.YtlhiahhpmjiioacGreatDoor
