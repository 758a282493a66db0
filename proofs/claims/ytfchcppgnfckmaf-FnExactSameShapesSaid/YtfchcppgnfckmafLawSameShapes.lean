/-
  The walk of the law on SameShapes. No condition but that the arguments read as a kind and a list of points.
-/
import Derived.Deep.RegionHeld3
import Derived.Deep.DrawnRows
import Derived.Deep.DeepCutAuto
import Derived.Test.YtfchcppgnfckmafShpC
import Derived.Test.YtfchcppgnfckmafShpL
namespace Go.Proofs.Ytfchcppgnfckmaf
open Go.RowKit

theorem two_args {w w1 : World} {k l : Int} {a b : Option Addr} {n c m d : Nat} {S T : TypeId} (hk : Kept [] ((w.alloc (.cells #[.int .i64 k, .slice a n c] S)).alloc (.cells #[.int .i64 l, .slice b m d] T)) w1) :
    (w1.cell? ⟨w.heap.size, 0, none⟩ = some (.int .i64 k) ∧ w1.cell? ⟨w.heap.size, 1, none⟩ = some (.slice a n c)) ∧ w1.cell? ⟨w.heap.size + 1, 0, none⟩ = some (.int .i64 l) ∧ w1.cell? ⟨w.heap.size + 1, 1, none⟩ = some (.slice b m d) :=
  ⟨⟨(hk.peel.top rfl (by simp) 0 (v := .int .i64 k) rfl).1, (hk.peel.top rfl (by simp) 1 (v := .slice a n c) rfl).1⟩, (hk.top (g := w.heap.size + 1) (by simp) (by simp) 0 (v := .int .i64 l) rfl).1, (hk.top (g := w.heap.size + 1) (by simp) (by simp) 1 (v := .slice b m d) rfl).1⟩

set_option maxHeartbeats 2000000 in
theorem FnExactSameShapes_walk (k : Int) (a : Option Addr) (n c : Nat) (xs : List Int) (l : Int) (b : Option Addr) (m d : Nat) (ys : List Int) (w : World)
    (_hk : (Lit.int .i64 k).wf = true) (hmaxA : n ≤ 9223372036854775807) (hA : n ≤ 1048576 → Rd w a (n * 2) xs)
    (_hl : (Lit.int .i64 l).wf = true) (hmaxB : m ≤ 9223372036854775807) (hB : m ≤ 1048576 → Rd w b (m * 2) ys) :
    Calls Try.prog 3 #[.agg #[.int .i64 k, .slice a n c], .agg #[.int .i64 l, .slice b m d]] w (Ans w (.bool true)) := by
  by_cases hbigA : 1048576 < n
  · clear hA hB
    have hb' : (1048576 : Int) < n := by omega
    go_enter Try.func3, Try.ntmps3
    go_wp2_with fail
    refine (szShape_no _ _ _ _ _ _ hb' (by omega) hmaxA).mono ?_
    rintro e w1 ⟨rfl, h1⟩
    go_wp2_with fail
    go_ret
    exact ⟨rfl, h1.peel.peel⟩
  have hnA : (n : Int) ≤ 1048576 := by omega
  have hdA : decide (1048576 - (n : Int) < 0) = false := decide_eq_false (by omega)
  have h0A : (0 : Int) ≤ 1048576 - n := by omega
  by_cases hbigB : (1048576 : Int) - n < m
  · clear hA hB
    go_enter Try.func3, Try.ntmps3
    go_wp2_with fail
    refine (szShape_yes _ _ _ _ _ _ hnA (by omega)).mono ?_
    rintro e w1 ⟨rfl, h1⟩
    obtain ⟨⟨c0, c1⟩, c2, c3⟩ := two_args h1
    have H1 := Lib.hid h1
    clear h1
    go_wp2_with fail
    refine (szShape_no _ _ _ _ _ _ hbigB h0A hmaxB).mono ?_
    rintro e w2 ⟨rfl, h2⟩
    go_wp2_with fail
    go_ret
    exact ⟨rfl, (H1.out.trans0 h2).peel.peel⟩
  have hnB : (m : Int) ≤ 1048576 - n := by omega
  have hdB : decide (1048576 - (n : Int) - m < 0) = false := decide_eq_false (by omega)
  have h0B : (0 : Int) ≤ 1048576 - n - m := by omega
  have HA := Lib.hid (hA (by omega))
  have HB := Lib.hid (hB (by omega))
  have hn2 : n ≤ 2000000 := by omega
  have hm2 : m ≤ 2000000 := by omega
  clear hA hB hbigA hbigB hmaxA hmaxB
  go_enter Try.func3, Try.ntmps3
  go_wp2_with fail
  refine (szShape_yes _ _ _ _ _ _ hnA (by omega)).mono ?_
  rintro e w1 ⟨rfl, h1⟩
  obtain ⟨⟨c0, c1⟩, c2, c3⟩ := two_args h1
  have H1 := Lib.hid h1
  clear h1
  go_wp2_with fail
  refine (szShape_yes _ _ _ _ _ _ hnB (by omega)).mono ?_
  rintro e w2 ⟨rfl, h2⟩
  have H2 := Lib.hid (H1.out.trans0 h2)
  clear h2 H1 c0 c1 c2 c3
  obtain ⟨⟨c0, c1⟩, c2, c3⟩ := two_args H2.out
  go_wp2_with fail
  go_region_held3 (fun w' => w'.cell? ⟨w.heap.size, 0, none⟩ = some (.int .i64 k) ∧ w'.cell? ⟨w.heap.size, 1, none⟩ = some (.slice a n c) ∧ w'.cell? ⟨w.heap.size + 1, 0, none⟩ = some (.int .i64 l) ∧ w'.cell? ⟨w.heap.size + 1, 1, none⟩ = some (.slice b m d) ∧ Hid (Kept [] w2 w'))
    ((go_split_ands; (try refine ⟨?_, ?_, ?_, ?_, ?_⟩) <;> with_reducible first | exact Lib.hid ((Kept.refl _ _).drew) | exact drew_pt (by assumption) | exact Kept.allocH (by assumption) | exact alloc_cell (by assumption) | exact Lib.hid (Kept.trans0 (Hid.out (by assumption)) (by assumption)) | exact Kept.cell (by assumption) (by assumption) (by simp)))
    (first
      | (go_at_call_of 6 (Value.agg #[Value.int IntKind.i64 k, Value.slice a n c]); go_split_ands; refine (toShape_any _ _ _ _ _ _ (HA.out.kept0 (H2.out.peel.peel.trans0 (Kept.refl [] w2).drew)) hn2).mono ?_; rintro e v3 ⟨g3, rfl, qe3, hb3, hk3⟩)
      | (go_at_call_of 6 (Value.agg #[Value.int IntKind.i64 l, Value.slice b m d]); go_split_ands; refine (toShape_any _ _ _ _ _ _ (HB.out.kept0 ((H2.out.peel.peel.trans0 (Kept.refl [] w2).drew).trans0 hk3)) hm2).mono ?_; rintro e v4 ⟨g4, rfl, qe4, hb4, hk4⟩)
      | (go_at_call 5; go_split_ands; refine (sSameShapes_any _ _ _ _ _ _ _ _ _ _ _ (rd_newP (hk4.blk hb3 (by simp)) HA.out.1 (by omega)) (rd_newP hb4 HB.out.1 (by omega))).mono ?_; rintro e w5 ⟨rfl, hk5⟩))
  have H5 := Lib.hid ((((H2.out.trans0 (Kept.refl [] w2).drew).trans0 hk3).trans0 hk4).trans0 hk5)
  clear hk3 hk4 hk5 hb3 hb4 c0 c1 c2 c3 H2
  obtain ⟨v, hv⟩ : ∃ v, sameShp k xs n l ys m = v := ⟨_, rfl⟩
  rw [hv]
  have HV := Lib.hid hv
  clear hv
  obtain ⟨⟨c0, c1⟩, c2, c3⟩ := two_args H5.out
  go_wp2_with fail
  refine (toShape_any _ _ _ _ _ _ (HA.out.kept0 H5.out.peel.peel) hn2).mono ?_
  rintro e w6 ⟨g6, rfl, qe6, hb6, hk6⟩
  have H6 := Lib.hid (H5.out.trans0 hk6)
  have B6 := Lib.hid hb6
  clear hk6 hb6 c0 c1 c2 c3 H5
  obtain ⟨⟨c0, c1⟩, c2, c3⟩ := two_args H6.out
  have z6 := H6.out.size
  simp only [World.size_alloc] at z6
  have z60 : w.heap.size < w6.heap.size := by omega
  have z61 : w.heap.size + 1 < w6.heap.size := by omega
  go_wp2_with fail
  generalize hW : (w6.alloc (.cells #[.int .i64 k, .slice (some ⟨g6, 0, none⟩) n n] 29)) = W7
  have k7 : Kept [] (w6.alloc (.cells #[.int .i64 k, .slice (some ⟨g6, 0, none⟩) n n] 29)) W7 := by rw [hW]; exact Kept.refl _ _
  have H7 := Lib.hid (H6.out.trans0 k7.peel)
  have B7 := Lib.hid (k7.peel.blk B6.out (by simp))
  have K7 := Lib.hid k7
  clear hW k7 c0 c1 c2 c3
  obtain ⟨⟨c0, c1⟩, c2, c3⟩ := two_args H7.out
  obtain ⟨x0, x1⟩ := boxS K7.out
  refine (toShape_any _ _ _ _ _ _ (HB.out.kept0 H7.out.peel.peel) hm2).mono ?_
  rintro e w8 ⟨g8, rfl, qe8, hb8, hk8⟩
  have H8 := Lib.hid (H7.out.trans0 hk8)
  have B8 := Lib.hid (hk8.blk B7.out (by simp))
  have C8 := Lib.hid hb8
  have K8 := Lib.hid (K7.out.trans0 hk8)
  clear hk8 hb8 c0 c1 c2 c3 x0 x1 H7 B7 K7 B6 H6
  obtain ⟨x0, x1⟩ := boxS K8.out
  have z8 := K8.out.size
  simp only [World.size_alloc] at z8
  have z68 : w6.heap.size < w8.heap.size := by omega
  go_wp2_with fail
  generalize hW : (w8.alloc (.cells #[.int .i64 l, .slice (some ⟨g8, 0, none⟩) m m] 29)) = W9
  have k9 : Kept [] (w8.alloc (.cells #[.int .i64 l, .slice (some ⟨g8, 0, none⟩) m m] 29)) W9 := by rw [hW]; exact Kept.refl _ _
  have H9 := Lib.hid (H8.out.trans0 k9.peel)
  have B9 := Lib.hid (k9.peel.blk B8.out (by simp))
  have C9 := Lib.hid (k9.peel.blk C8.out (by simp))
  have K9 := Lib.hid (K8.out.trans0 k9.peel)
  have L9 := Lib.hid k9
  clear hW k9 x0 x1 H8 B8 C8 K8
  refine (SameShapes_any _ _ _ _ _ _ _ _ _ _ _ (rd_newP B9.out HA.out.1 (by omega)) (rd_newP C9.out HB.out.1 (by omega))).mono ?_
  rintro e wA ⟨rfl, hkA⟩
  have HA9 := Lib.hid (H9.out.trans0 hkA)
  have BA := Lib.hid (hkA.blk B9.out (by simp))
  have CA := Lib.hid (hkA.blk C9.out (by simp))
  have KA := Lib.hid (K9.out.trans0 hkA)
  have LA := Lib.hid (L9.out.trans0 hkA)
  clear hkA H9 B9 C9 K9 L9
  rw [HV.out]
  obtain ⟨⟨c0, c1⟩, c2, c3⟩ := two_args HA9.out
  obtain ⟨x0, x1⟩ := boxS KA.out
  obtain ⟨y0, y1⟩ := boxS LA.out
  go_wp2_with fail
  go_region_held3 (fun w' => w'.cell? ⟨w6.heap.size, 0, none⟩ = some (.int .i64 k) ∧ w'.cell? ⟨w6.heap.size, 1, none⟩ = some (.slice (some ⟨g6, 0, none⟩) n n) ∧ w'.cell? ⟨w.heap.size, 0, none⟩ = some (.int .i64 k) ∧ w'.cell? ⟨w.heap.size, 1, none⟩ = some (.slice a n c) ∧ Hid (Kept [] wA w'))
    ((go_split_ands; (try refine ⟨?_, ?_, ?_, ?_, ?_⟩) <;> with_reducible first | exact Lib.hid ((Kept.refl _ _).drew) | exact drew_pt (by assumption) | exact Kept.allocH (by assumption) | exact alloc_cell (by assumption) | exact Lib.hid (Kept.trans0 (Hid.out (by assumption)) (by assumption)) | exact Kept.cell (by assumption) (by assumption) (by simp)))
    (first
      | (go_at_call 6; go_split_ands; refine (toShape_any _ _ _ _ _ _ (HA.out.kept0 (HA9.out.peel.peel.trans0 (Kept.refl [] wA).drew)) hn2).mono ?_; rintro e v7 ⟨ge0, rfl, qe0, hb, hk1⟩)
      | (go_at_call 8; go_split_ands; refine (eqShape_yes _ _ _ _ _ _ _ _ (rd_newP (hk1.blk ((Kept.refl [] wA).drew.blk BA.out (by simp)) (by simp)) HA.out.1 (by omega)) (rd_newP hb HA.out.1 (by omega))).mono ?_; rintro e wB ⟨rfl, hk2⟩))
  have HB9 := Lib.hid (((HA9.out.trans0 (Kept.refl [] wA).drew).trans0 hk1).trans0 hk2)
  have CB := Lib.hid (hk2.blk (hk1.blk ((Kept.refl [] wA).drew.blk CA.out (by simp)) (by simp)) (by simp))
  have LB := Lib.hid (((LA.out.trans0 (Kept.refl [] wA).drew).trans0 hk1).trans0 hk2)
  clear hk1 hk2 hb HA9 BA CA KA LA c0 c1 c2 c3 x0 x1 y0 y1
  obtain ⟨⟨c0, c1⟩, c2, c3⟩ := two_args HB9.out
  obtain ⟨y0, y1⟩ := boxS LB.out
  go_wp2_with fail
  go_region_held3 (fun w' => w'.cell? ⟨w8.heap.size, 0, none⟩ = some (.int .i64 l) ∧ w'.cell? ⟨w8.heap.size, 1, none⟩ = some (.slice (some ⟨g8, 0, none⟩) m m) ∧ w'.cell? ⟨w.heap.size + 1, 0, none⟩ = some (.int .i64 l) ∧ w'.cell? ⟨w.heap.size + 1, 1, none⟩ = some (.slice b m d) ∧ Hid (Kept [] wB w'))
    ((go_split_ands; (try refine ⟨?_, ?_, ?_, ?_, ?_⟩) <;> with_reducible first | exact Lib.hid ((Kept.refl _ _).drew) | exact drew_pt (by assumption) | exact Kept.allocH (by assumption) | exact alloc_cell (by assumption) | exact Lib.hid (Kept.trans0 (Hid.out (by assumption)) (by assumption)) | exact Kept.cell (by assumption) (by assumption) (by simp)))
    (first
      | (go_at_call 6; go_split_ands; refine (toShape_any _ _ _ _ _ _ (HB.out.kept0 (HB9.out.peel.peel.trans0 (Kept.refl [] wB).drew)) hm2).mono ?_; rintro e v7 ⟨ge0, rfl, qe0, hb, hk1⟩)
      | (go_at_call 8; go_split_ands; refine (eqShape_yes _ _ _ _ _ _ _ _ (rd_newP (hk1.blk ((Kept.refl [] wB).drew.blk CB.out (by simp)) (by simp)) HB.out.1 (by omega)) (rd_newP hb HB.out.1 (by omega))).mono ?_; rintro e wC ⟨rfl, hk2⟩))
  have HC := Lib.hid (((HB9.out.trans0 (Kept.refl [] wB).drew).trans0 hk1).trans0 hk2)
  clear hk1 hk2 hb
  go_wp2_with fail
  go_ret
  exact ⟨rfl, HC.out.peel.peel⟩

end Go.Proofs.Ytfchcppgnfckmaf
