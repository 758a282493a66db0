/-
  The walk of the law on SameStores. No condition but that the arguments read as named shapes.
-/
import Derived.Deep.RegionHeld3
import Derived.Deep.DrawnRows
import Derived.Deep.DeepCutAuto
import Derived.Test.YtklecaojkngjmafStoS
import Derived.Test.YtklecaojkngjmafStoE
namespace Go.Proofs.Ytklecaojkngjmaf
open Go.RowKit

theorem box1 {w w1 : World} {a : Option Addr} {n c : Nat} {S : TypeId} (hk : Kept [] (w.alloc (.cells #[.slice a n c] S)) w1) : w1.cell? ⟨w.heap.size, 0, none⟩ = some (.slice a n c) := (hk.top rfl (by simp) 0 (v := .slice a n c) rfl).1
theorem two_stos {w w1 : World} {a b : Option Addr} {n c m d : Nat} {S T : TypeId} (hk : Kept [] ((w.alloc (.cells #[.slice a n c] S)).alloc (.cells #[.slice b m d] T)) w1) :
    w1.cell? ⟨w.heap.size, 0, none⟩ = some (.slice a n c) ∧ w1.cell? ⟨w.heap.size + 1, 0, none⟩ = some (.slice b m d) :=
  ⟨(hk.peel.top rfl (by simp) 0 (v := .slice a n c) rfl).1, (hk.top (g := w.heap.size + 1) (by simp) (by simp) 0 (v := .slice b m d) rfl).1⟩

set_option maxHeartbeats 2000000 in
theorem FnExactSameStores_walk (a : Option Addr) (n c : Nat) (L : List Sh) (b : Option Addr) (m d : Nat) (M : List Sh) (w : World) (hA : ArgSt w a n L) (hB : ArgSt w b m M) :
    Calls Try.prog 3 #[.agg #[.slice a n c], .agg #[.slice b m d]] w (Ans w (.bool true)) := by
  have kb := ((Kept.refl [] w).alloc (.cells #[.slice a n c] 24)).alloc (.cells #[.slice b m d] 24)
  have GA := Lib.hid (hA.kept0 kb)
  have GB := Lib.hid (hB.kept0 kb)
  clear kb
  obtain ⟨P, hP⟩ : ∃ P, n + szAt L n = P := ⟨_, rfl⟩
  obtain ⟨Q, hQ⟩ : ∃ Q, m + szAt M m = Q := ⟨_, rfl⟩
  have HPQ := Lib.hid (And.intro hP hQ)
  by_cases hbigA : P ≤ 1048576
  · have hvA := Lib.hid (leftS_yes (left := 1048576) (x := P) (by omega))
    have e0 : ¬ (1048576 : Int) - (P : Int) < 0 := by omega
    have e1 : (0 : Int) ≤ 1048576 - (P : Int) := by omega
    have E1 := Lib.hid (And.intro e1 (show (1048576 : Int) - (P : Int) ≤ 1048576 by omega))
    by_cases hbigB : (Q : Int) ≤ 1048576 - (P : Int)
    · have HA := Lib.hid (hA.rd (by omega))
      have HB := Lib.hid (hB.rd (by omega))
      have hn2 := Lib.hid (show n + szAt L n ≤ 2000000 by omega)
      have hm2 := Lib.hid (show m + szAt M m ≤ 2000000 by omega)
      have hvB := Lib.hid (leftS_yes hbigB)
      have e2 : ¬ (1048576 : Int) - (P : Int) - (Q : Int) < 0 := by omega
      clear hA hB hbigA hbigB hP hQ
      go_enter Try.func3, Try.ntmps3
      go_wp2_with fail
      refine (szStore_any _ _ _ _ _ _ GA.out (by decide) (by decide)).mono ?_
      rintro e w1 ⟨rfl, h1⟩
      rw [HPQ.out.1, hvA.out]
      have H1 := Lib.hid h1
      have GB1 := Lib.hid (GB.out.kept0 h1)
      obtain ⟨c0, c1⟩ := two_stos h1
      clear h1
      go_wp2_with fail
      refine (szStore_any _ _ _ _ _ _ GB1.out E1.out.1 E1.out.2).mono ?_
      rintro e w2 ⟨rfl, h2⟩
      rw [HPQ.out.2, hvB.out]
      have H2 := Lib.hid (H1.out.trans0 h2)
      clear h2 H1 c0 c1
      obtain ⟨c0, c1⟩ := two_stos H2.out
      go_wp2_with fail
      go_region_held3 (fun w' => w'.cell? ⟨w.heap.size, 0, none⟩ = some (.slice a n c) ∧ w'.cell? ⟨w.heap.size + 1, 0, none⟩ = some (.slice b m d) ∧ Hid (Kept [] w2 w'))
        ((go_split_ands; (try refine ⟨?_, ?_, ?_⟩) <;> with_reducible first | exact Lib.hid ((Kept.refl _ _).drew) | exact drew_pt (by assumption) | exact Kept.allocH (by assumption) | exact alloc_cell (by assumption) | exact Lib.hid (Kept.trans0 (Hid.out (by assumption)) (by assumption)) | exact Kept.cell (by assumption) (by assumption) (by simp)))
        (first
          | (go_at_call_of 6 (Value.agg #[Value.slice a n c]); go_split_ands; refine (toStore_any _ _ _ _ _ (HA.out.kept0 (H2.out.peel.peel.trans0 (Kept.refl [] w2).drew)) hn2.out).mono ?_; rintro e v3 ⟨g3, gs3, rfl, hb3, qe3, hk3⟩)
          | (go_at_call_of 6 (Value.agg #[Value.slice b m d]); go_split_ands; refine (toStore_any _ _ _ _ _ (HB.out.kept0 ((H2.out.peel.peel.trans0 (Kept.refl [] w2).drew).trans0 hk3)) hm2.out).mono ?_; rintro e v4 ⟨g4, gs4, rfl, hb4, qe4, hk4⟩)
          | (go_at_call 5; go_split_ands; refine (sSameStores_any _ _ _ _ _ _ _ _ _ (hb3.kept0 hk4).rd hb4.rd).mono ?_; rintro e w5 ⟨rfl, hk5⟩))
      have H5 := Lib.hid ((((H2.out.trans0 (Kept.refl [] w2).drew).trans0 hk3).trans0 hk4).trans0 hk5)
      clear hk3 hk4 hk5 hb3 hb4 c0 c1 H2
      obtain ⟨v, hv⟩ : ∃ v, sameSto L M = v := ⟨_, rfl⟩
      rw [hv]
      have HV := Lib.hid hv
      clear hv
      obtain ⟨c0, c1⟩ := two_stos H5.out
      go_wp2_with fail
      refine (toStore_any _ _ _ _ _ (HA.out.kept0 H5.out.peel.peel) hn2.out).mono ?_
      rintro e w6 ⟨g6, gs6, rfl, hb6, qe6, hk6⟩
      have H6 := Lib.hid (H5.out.trans0 hk6)
      have B6 := Lib.hid hb6
      clear hk6 hb6 c0 c1 H5
      obtain ⟨c0, c1⟩ := two_stos H6.out
      have z6 := H6.out.size
      simp only [World.size_alloc] at z6
      have z60 : w.heap.size < w6.heap.size := by omega
      have z61 : w.heap.size + 1 < w6.heap.size := by omega
      go_wp2_with fail
      generalize hW : (w6.alloc (.cells #[.slice (some ⟨g6, 0, none⟩) n n] 29)) = W7
      have k7 : Kept [] (w6.alloc (.cells #[.slice (some ⟨g6, 0, none⟩) n n] 29)) W7 := by rw [hW]; exact Kept.refl _ _
      have H7 := Lib.hid (H6.out.trans0 k7.peel)
      have B7 := Lib.hid (B6.out.kept0 k7.peel)
      have K7 := Lib.hid k7
      clear hW k7 c0 c1
      obtain ⟨c0, c1⟩ := two_stos H7.out
      have x0 := box1 K7.out
      refine (toStore_any _ _ _ _ _ (HB.out.kept0 H7.out.peel.peel) hm2.out).mono ?_
      rintro e w8 ⟨g8, gs8, rfl, hb8, qe8, hk8⟩
      have H8 := Lib.hid (H7.out.trans0 hk8)
      have B8 := Lib.hid (B7.out.kept0 hk8)
      have C8 := Lib.hid hb8
      have K8 := Lib.hid (K7.out.trans0 hk8)
      clear hk8 hb8 c0 c1 x0 H7 B7 K7 B6 H6
      have x0 := box1 K8.out
      have z8 := K8.out.size
      simp only [World.size_alloc] at z8
      have z68 : w6.heap.size < w8.heap.size := by omega
      go_wp2_with fail
      generalize hW : (w8.alloc (.cells #[.slice (some ⟨g8, 0, none⟩) m m] 29)) = W9
      have k9 : Kept [] (w8.alloc (.cells #[.slice (some ⟨g8, 0, none⟩) m m] 29)) W9 := by rw [hW]; exact Kept.refl _ _
      have H9 := Lib.hid (H8.out.trans0 k9.peel)
      have B9 := Lib.hid (B8.out.kept0 k9.peel)
      have C9 := Lib.hid (C8.out.kept0 k9.peel)
      have K9 := Lib.hid (K8.out.trans0 k9.peel)
      have L9 := Lib.hid k9
      clear hW k9 x0 H8 B8 C8 K8
      refine (SameStores_any _ _ _ _ _ _ _ _ _ B9.out.rd C9.out.rd).mono ?_
      rintro e wA ⟨rfl, hkA⟩
      have HA9 := Lib.hid (H9.out.trans0 hkA)
      have BA := Lib.hid (B9.out.kept0 hkA)
      have CA := Lib.hid (C9.out.kept0 hkA)
      have KA := Lib.hid (K9.out.trans0 hkA)
      have LA := Lib.hid (L9.out.trans0 hkA)
      clear hkA H9 B9 C9 K9 L9
      rw [HV.out]
      obtain ⟨c0, c1⟩ := two_stos HA9.out
      have x0 := box1 KA.out
      have y0 := box1 LA.out
      go_wp2_with fail
      go_region_held3 (fun w' => w'.cell? ⟨w6.heap.size, 0, none⟩ = some (.slice (some ⟨g6, 0, none⟩) n n) ∧ w'.cell? ⟨w.heap.size, 0, none⟩ = some (.slice a n c) ∧ Hid (Kept [] wA w'))
        ((go_split_ands; (try refine ⟨?_, ?_, ?_⟩) <;> with_reducible first | exact Lib.hid ((Kept.refl _ _).drew) | exact drew_pt (by assumption) | exact Kept.allocH (by assumption) | exact alloc_cell (by assumption) | exact Lib.hid (Kept.trans0 (Hid.out (by assumption)) (by assumption)) | exact Kept.cell (by assumption) (by assumption) (by simp)))
        (first
          | (go_at_call 6; go_split_ands; refine (toStore_any _ _ _ _ _ (HA.out.kept0 (HA9.out.peel.peel.trans0 (Kept.refl [] wA).drew)) hn2.out).mono ?_; rintro e v7 ⟨ge0, gse, rfl, hb, qe0, hk1⟩)
          | (go_at_call 8; go_split_ands; refine (eqStore_yes _ _ _ _ _ _ _ (BA.out.kept0 ((Kept.refl [] wA).drew.trans0 hk1)).rd hb.rd).mono ?_; rintro e wB ⟨rfl, hk2⟩))
      have HB9 := Lib.hid (((HA9.out.trans0 (Kept.refl [] wA).drew).trans0 hk1).trans0 hk2)
      have CB := Lib.hid (CA.out.kept0 (((Kept.refl [] wA).drew.trans0 hk1).trans0 hk2))
      have LB := Lib.hid (((LA.out.trans0 (Kept.refl [] wA).drew).trans0 hk1).trans0 hk2)
      clear hk1 hk2 hb HA9 BA CA KA LA c0 c1 x0 y0
      obtain ⟨c0, c1⟩ := two_stos HB9.out
      have y0 := box1 LB.out
      go_wp2_with fail
      go_region_held3 (fun w' => w'.cell? ⟨w8.heap.size, 0, none⟩ = some (.slice (some ⟨g8, 0, none⟩) m m) ∧ w'.cell? ⟨w.heap.size + 1, 0, none⟩ = some (.slice b m d) ∧ Hid (Kept [] wB w'))
        ((go_split_ands; (try refine ⟨?_, ?_, ?_⟩) <;> with_reducible first | exact Lib.hid ((Kept.refl _ _).drew) | exact drew_pt (by assumption) | exact Kept.allocH (by assumption) | exact alloc_cell (by assumption) | exact Lib.hid (Kept.trans0 (Hid.out (by assumption)) (by assumption)) | exact Kept.cell (by assumption) (by assumption) (by simp)))
        (first
          | (go_at_call 6; go_split_ands; refine (toStore_any _ _ _ _ _ (HB.out.kept0 (HB9.out.peel.peel.trans0 (Kept.refl [] wB).drew)) hm2.out).mono ?_; rintro e v7 ⟨ge0, gse, rfl, hb, qe0, hk1⟩)
          | (go_at_call 8; go_split_ands; refine (eqStore_yes _ _ _ _ _ _ _ (CB.out.kept0 ((Kept.refl [] wB).drew.trans0 hk1)).rd hb.rd).mono ?_; rintro e wC ⟨rfl, hk2⟩))
      have HC := Lib.hid (((HB9.out.trans0 (Kept.refl [] wB).drew).trans0 hk1).trans0 hk2)
      clear hk1 hk2 hb
      go_wp2_with fail
      go_ret
      exact ⟨rfl, HC.out.peel.peel⟩
    · have hvB := Lib.hid (leftS_no hbigB)
      clear hA hB hbigA hbigB hP hQ
      go_enter Try.func3, Try.ntmps3
      go_wp2_with fail
      refine (szStore_any _ _ _ _ _ _ GA.out (by decide) (by decide)).mono ?_
      rintro e w1 ⟨rfl, h1⟩
      rw [HPQ.out.1, hvA.out]
      have H1 := Lib.hid h1
      have GB1 := Lib.hid (GB.out.kept0 h1)
      obtain ⟨c0, c1⟩ := two_stos h1
      clear h1
      go_wp2_with fail
      refine (szStore_any _ _ _ _ _ _ GB1.out E1.out.1 E1.out.2).mono ?_
      rintro e w2 ⟨rfl, h2⟩
      rw [HPQ.out.2, hvB.out]
      have H2 := Lib.hid (H1.out.trans0 h2)
      clear h2
      go_wp2_with fail
      go_ret
      exact ⟨rfl, H2.out.peel.peel⟩
  · have hvA := Lib.hid (leftS_no (left := 1048576) (x := P) (by omega))
    clear hA hB hbigA hP hQ
    go_enter Try.func3, Try.ntmps3
    go_wp2_with fail
    refine (szStore_any _ _ _ _ _ _ GA.out (by decide) (by decide)).mono ?_
    rintro e w1 ⟨rfl, h1⟩
    rw [HPQ.out.1, hvA.out]
    go_wp2_with fail
    go_ret
    exact ⟨rfl, h1.peel.peel⟩

end Go.Proofs.Ytklecaojkngjmaf
