/-
  The walk of the law on WordsOf. No condition.
-/
import Derived.Test.YtbkfjebmpccblaaWdB
import Derived.Test.YtbkfjebmpccblaaWdH
namespace Go.Proofs.Ytbkfjebmpccblaa
open Go.RowKit

/-- A result's two cells in a box. -/
def BoxW (w : World) (g : Nat) (u : Int) (v : Value) : Prop := w.cell? ⟨g, 0, none⟩ = some (.int .i64 u) ∧ w.cell? ⟨g, 1, none⟩ = some v
theorem BoxW.kept {L : List Nat} {w w' : World} {g : Nat} {u : Int} {v : Value} (h : BoxW w g u v) (kk : Kept L w w') (hL : g ∉ L) : BoxW w' g u v := ⟨kk.cell h.1 hL, kk.cell h.2 hL⟩
theorem BoxW.new {w : World} {u : Int} {v : Value} {T : TypeId} : BoxW (w.alloc (.cells #[.int .i64 u, v] T)) w.heap.size u v :=
  ⟨((Kept.refl [] _).top (g := w.heap.size) rfl (by simp) 0 (v := .int .i64 u) rfl).1, ((Kept.refl [] _).top (g := w.heap.size) rfl (by simp) 1 (v := v) rfl).1⟩

set_option maxHeartbeats 4000000 in
set_option maxRecDepth 20000 in
theorem FnExactWordsOf_walk (s : ByteArray) (w : World) (_hs : s.size ≤ maxLen) :
    Calls Try.prog 3 #[.string s] w (Ans w (.bool true)) := by
  by_cases hbig : 1048576 < s.size
  · have hb : (1048576 : Int) < s.size := by omega
    go_enter Try.func3, Try.ntmps3
    go_wp2_with fail
    go_ret
    exact ⟨rfl, Kept.refl _ _⟩
  have hb : ¬ (1048576 : Int) < s.size := by omega
  obtain ⟨l, hl⟩ : ∃ l, s = strB l := ⟨s.data.toList, rfl⟩
  have hll : l.length ≤ 1500000 := by have := strB_size l; rw [← hl] at this; omega
  have HL := Lib.hid hl
  clear hl hbig _hs
  obtain ⟨u, hu⟩ : ∃ u, wordsC l = u := ⟨_, rfl⟩
  obtain ⟨xs, hS⟩ : ∃ u, wordsS l = u := ⟨_, rfl⟩
  have HU := Lib.hid hu
  have HSS := Lib.hid hS
  clear hu hS
  have hwl := wordsS_len l
  rw [HSS.out] at hwl
  go_enter Try.func3, Try.ntmps3
  go_wp2_with fail
  rw [HL.out]
  refine (sWordsOf_any l _ hll).mono ?_
  rintro e w1 ⟨v1, rfl, o1, k1⟩
  rw [HU.out]
  rw [HSS.out] at o1
  obtain ⟨a1, c1, rfl, sp1, bl1⟩ := o1.sl
  obtain ⟨n, hn⟩ : ∃ n, xs.length = n := ⟨_, rfl⟩
  rw [hn] at hwl sp1 bl1 ⊢
  have HN := Lib.hid hn
  obtain ⟨q, hq⟩ : ∃ q : Int, ((1 + n : Nat) : Int) = q := ⟨_, rfl⟩
  have hq0 : ¬ q < 0 := by omega
  have hq1 : (0 : Int) ≤ q := by omega
  have HQ := Lib.hid hq
  clear hn hq
  have ka1 : Kept [] w1 (w1.alloc (.cells #[.int .i64 u, .slice a1 n c1] 24)) := (Kept.refl [] w1).alloc _
  have B1 := Lib.hid (BoxW.new (w := w1) (u := u) (v := .slice a1 n c1) (T := 24))
  have L1 : Hid (∀ g ∈ blkS a1 n, g < w1.heap.size) := sp1.lt
  have S1 := Lib.hid (sp1.kept ka1 (by simp))
  have K1 := Lib.hid (k1.trans0 ka1)
  obtain ⟨W1, hW1⟩ : ∃ W1, W1 = w1.alloc (.cells #[.int .i64 u, .slice a1 n c1] 24) := ⟨_, rfl⟩
  have hz1 : w1.heap.size < W1.heap.size := by rw [hW1]; simp
  have K1s : Hid (w.heap.size ≤ W1.heap.size) := by have := k1.size; show _ ≤ _; omega
  clear ka1 k1 o1 sp1
  go_wp2_with fail
  rw [← hW1] at B1 S1 K1 ⊢
  clear hW1
  refine (WordsOf_any l _ hll).mono ?_
  rintro e w2 ⟨v2, rfl, o2, k2⟩
  rw [HU.out]
  rw [HSS.out] at o2
  obtain ⟨a2, c2, rfl, sp2, bl2⟩ := o2.sl
  rw [HN.out] at sp2 bl2 ⊢
  have L2 : Hid (∀ g ∈ blkS a2 n, W1.heap.size ≤ g ∧ g < w2.heap.size) := fun g hg => ⟨bl2 g hg, sp2.lt g hg⟩
  have ka2 : Kept [] w2 (w2.alloc (.cells #[.int .i64 u, .slice a2 n c2] 24)) := (Kept.refl [] w2).alloc _
  have B2 := Lib.hid (BoxW.new (w := w2) (u := u) (v := .slice a2 n c2) (T := 24))
  have S2 := Lib.hid (sp2.kept ka2 (by simp))
  have B1' := Lib.hid (B1.out.kept (k2.trans0 ka2) (by simp))
  have S1' := Lib.hid (S1.out.kept (k2.trans0 ka2) (by simp))
  have K2 := Lib.hid (K1.out.trans0 (k2.trans0 ka2))
  obtain ⟨W2, hW2⟩ : ∃ W2, W2 = w2.alloc (.cells #[.int .i64 u, .slice a2 n c2] 24) := ⟨_, rfl⟩
  have hz2 : w2.heap.size < W2.heap.size := by rw [hW2]; simp
  obtain ⟨x10, x11⟩ := B1'.out
  obtain ⟨x20, x21⟩ := B2.out
  have hz12 := k2.size
  clear ka2 k2 o2 sp2 B1 S1 K1
  go_wp2_with fail
  rw [← hW2] at B2 B1' S1' S2 K2 ⊢
  clear hW2
  refine (eqTextsResult_yes _ _ _ n _ _ xs _ S2.out S1'.out (by omega)).mono ?_
  rintro e w3 ⟨rfl, k3⟩
  have B13 := Lib.hid (B1'.out.kept k3 (by simp))
  have B23 := Lib.hid (B2.out.kept k3 (by simp))
  have S13 := Lib.hid (S1'.out.kept k3 (by simp))
  have S23 := Lib.hid (S2.out.kept k3 (by simp))
  have K3 := Lib.hid (K2.out.trans0 k3)
  obtain ⟨x10, x11⟩ := B13.out
  obtain ⟨x20, x21⟩ := B23.out
  clear k3 B1' B2 S1' S2 K2
  go_wp2_with fail
  refine (markTextsResult_any _ _ n _ 1 xs _ S23.out (by omega)).mono ?_
  rw [HQ.out]
  rintro e w4 ⟨rfl, S24, k4⟩
  have hb1n : Hid (w1.heap.size ∉ blkS a2 n) := fun hm => by have := L2.out _ hm; omega
  have hb2n : Hid (w2.heap.size ∉ blkS a2 n) := fun hm => by have := L2.out _ hm; omega
  have B14 := Lib.hid (B13.out.kept k4 hb1n.out)
  have B24 := Lib.hid (B23.out.kept k4 hb2n.out)
  have S14 := Lib.hid (S13.out.kept k4 (fun g hg hm => by have h1 := L1.out g hg; have h2 := L2.out g hm; omega))
  have S24 := Lib.hid S24
  have K4 : Hid (Kept [] w w4) := K3.out.trans k4 (fun x hx hlt => by have h1 := L2.out x hx; have h2 := K1s.out; omega)
  obtain ⟨x10, x11⟩ := B14.out
  obtain ⟨x20, x21⟩ := B24.out
  clear k4 B13 B23 S13 S23 K3
  go_wp2_with fail
  refine (heldTextsResult_any _ _ n _ 1 _ S24.out (by omega)).mono ?_
  rw [HQ.out]
  rintro e w5 ⟨rfl, k5⟩
  have B15 := Lib.hid (B14.out.kept k5 (by simp))
  have B25 := Lib.hid (B24.out.kept k5 (by simp))
  have S15 := Lib.hid (S14.out.kept k5 (by simp))
  have S25 := Lib.hid (S24.out.kept k5 (by simp))
  have K5 := Lib.hid (K4.out.trans0 k5)
  clear k5 B14 B24 S14 S24 K4
  go_wp2_with fail
  refine (WordsOf_any l _ hll).mono ?_
  rintro e w6 ⟨v6, rfl, o6, k6⟩
  rw [HU.out]
  rw [HSS.out] at o6
  obtain ⟨a6, c6, rfl, sp6, _⟩ := o6.sl
  rw [HN.out] at sp6 ⊢
  have ka6 : Kept [] w6 (w6.alloc (.cells #[.int .i64 u, .slice a6 n c6] 24)) := (Kept.refl [] w6).alloc _
  have B6 := Lib.hid (BoxW.new (w := w6) (u := u) (v := .slice a6 n c6) (T := 24))
  have S6 := Lib.hid (sp6.kept ka6 (by simp))
  have B16 := Lib.hid (B15.out.kept (k6.trans0 ka6) (by simp))
  have B26 := Lib.hid (B25.out.kept (k6.trans0 ka6) (by simp))
  have S16 := Lib.hid (S15.out.kept (k6.trans0 ka6) (by simp))
  have S26 := Lib.hid (S25.out.kept (k6.trans0 ka6) (by simp))
  have K6 := Lib.hid (K5.out.trans0 (k6.trans0 ka6))
  obtain ⟨W6, hW6⟩ : ∃ W6, W6 = w6.alloc (.cells #[.int .i64 u, .slice a6 n c6] 24) := ⟨_, rfl⟩
  obtain ⟨x10, x11⟩ := B16.out
  obtain ⟨x60, x61⟩ := B6.out
  clear ka6 k6 o6 sp6 B15 B25 S15 S25 K5
  go_wp2_with fail
  rw [← hW6] at B6 B16 B26 S16 S26 S6 K6 ⊢
  clear hW6
  refine (eqTextsResult_yes _ _ _ n _ _ xs _ S6.out S16.out (by omega)).mono ?_
  rintro e w7 ⟨rfl, k7⟩
  have B27 := Lib.hid (B26.out.kept k7 (by simp))
  have S27 := Lib.hid (S26.out.kept k7 (by simp))
  have K7 := Lib.hid (K6.out.trans0 k7)
  obtain ⟨x20, x21⟩ := B27.out
  clear k7 B6 B16 B26 S6 S16 S26 K6
  go_wp2_with fail
  refine (heldTextsResult_any _ _ n _ 1 _ S27.out (by omega)).mono ?_
  rw [HQ.out]
  rintro e w8 ⟨rfl, k8⟩
  have K8 := Lib.hid (K7.out.trans0 k8)
  clear k8 K7 B27 S27
  go_wp2_with fail
  go_ret
  exact ⟨rfl, K8.out⟩

end Go.Proofs.Ytbkfjebmpccblaa
