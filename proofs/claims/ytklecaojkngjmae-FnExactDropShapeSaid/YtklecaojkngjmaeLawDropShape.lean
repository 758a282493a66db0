/-
  The walk of the law on DropShape. No condition but that the argument reads as named shapes.
-/
import Derived.Deep.RegionHeld3
import Derived.Deep.DrawnRows
import Derived.Deep.DeepCutAuto
import Derived.Test.YtklecaojkngjmaeStoW
import Derived.Test.YtklecaojkngjmaeStoX
namespace Go.Proofs.Ytklecaojkngjmae
open Go.RowKit

theorem dropS_ok (L : List Sh) (x : List UInt8) : (dropS L x).length + szAt (dropS L x) (dropS L x).length ≤ 2000000 := by
  unfold dropS
  by_cases hz : getC L x = 0
  · rw [if_pos hz]
    have hz0 : storeC L = 0 := by
      by_cases h0 : storeC L = 0
      · exact h0
      · rw [(getC_fault h0).1] at hz; exact absurd hz h0
    obtain ⟨o1, o2, _⟩ := storeC_ok hz0
    have h1 := drop_len L x
    have h2 := szAt_max (dropL L x) 20 (dropL L x).length (fun i hi => by
      obtain ⟨j, hj, e⟩ := mem_getD.1 (drop_mem.1 (mem_getD.2 ⟨i, hi, rfl⟩)).1
      have h4 := namedC_ok (o2 j hj)
      rw [← e]
      have h5 := (shapeC_n h4.2).2
      have h6 := (isNm_len h4.1).2
      omega)
    omega
  · rw [if_neg hz]; decide
theorem stoRes_form {w w' : World} {v : Int} {M : List Sh} {m : Nat} {e : Ending} (h : StoRes w v M e w') (hm : M.length = m) : ∃ a c, e = .returned (.agg #[.int .i64 v, .slice a m c]) ∧ StV w.heap.size w' (.slice a m c) m M ∧ Kept [] w w' := by
  subst hm
  obtain ⟨u, rfl, hs, hk⟩ := h
  obtain ⟨a, c, rfl⟩ := hs.form
  exact ⟨a, c, rfl, hs, hk⟩

/-- A box with a store's result. -/
def BoxD (w : World) (g : Nat) (u : Int) (v : Value) : Prop := w.cell? ⟨g, 0, none⟩ = some (.int .i64 u) ∧ w.cell? ⟨g, 1, none⟩ = some v
theorem BoxD.new {w : World} {u : Int} {v : Value} {T : TypeId} : BoxD (w.alloc (.cells #[.int .i64 u, v] T)) w.heap.size u v :=
  ⟨((Kept.refl [] _).top rfl (by simp) 0 (v := .int .i64 u) rfl).1, ((Kept.refl [] _).top rfl (by simp) 1 (v := v) rfl).1⟩
theorem BoxD.kept {L : List Nat} {w w' : World} {g : Nat} {u : Int} {v : Value} (h : BoxD w g u v) (kk : Kept L w w') (hg : g ∉ L) : BoxD w' g u v := ⟨kk.cell h.1 hg, kk.cell h.2 hg⟩

theorem box1a {w w1 : World} {a : Option Addr} {n c : Nat} {S : TypeId} (hk : Kept [] (w.alloc (.cells #[.slice a n c] S)) w1) : w1.cell? ⟨w.heap.size, 0, none⟩ = some (.slice a n c) := (hk.top rfl (by simp) 0 (v := .slice a n c) rfl).1
theorem stb_lt {w : World} {g : Nat} {gs cs : Nat → Nat} {n : Nat} {L : List Sh} (h : StB w g gs cs n L) : ∀ x ∈ blksS g gs n, x < w.heap.size := by
  intro x hx
  rcases List.mem_cons.1 hx with rfl | hx
  · exact h.2.2.1.lt
  · obtain ⟨i, hi, rfl⟩ := List.mem_map.1 hx
    exact (h.2.2.2 i (List.mem_range.1 hi)).1.lt

set_option maxHeartbeats 1000000 in
theorem FnExactDropShape_walk (a : Option Addr) (n c : Nat) (L : List Sh) (s : ByteArray) (w : World) (h : ArgSt w a n L) (_hx : s.size ≤ maxLen) :
    Calls Try.prog 3 #[.agg #[.slice a n c], .string s] w (Ans w (.bool true)) := by
  obtain ⟨x, rfl⟩ : ∃ x, strB x = s := ⟨s.data.toList, strB_of s⟩
  have HA := Lib.hid (h.kept0 ((Kept.refl [] w).alloc (.cells #[.slice a n c] 24)))
  by_cases hlong : 1048576 < (strB x).size
  · go_enter Try.func3, Try.ntmps3
    go_wp2_with fail
    go_ret
    exact ⟨rfl, (Kept.refl _ _).alloc _⟩
  have hx : x.length ≤ 1048576 := by rw [strB_size] at hlong; omega
  have hx2 : ¬ (1048576 : Int) < (strB x).size := by omega
  by_cases hbig : n + szAt L n ≤ 1048576
  · have HR := Lib.hid (h.rd hbig)
    have HN := Lib.hid (show n + szAt L n ≤ 2000000 by omega)
    have HX := Lib.hid hx
    have hv := Lib.hid (leftS_yes (left := 1048576) (x := n + szAt L n) (by omega))
    obtain ⟨M, hM⟩ : ∃ M : Int, 1048576 - ((n + szAt L n : Nat) : Int) = M := ⟨_, rfl⟩
    rw [hM] at hv
    have hM0 : ¬ M < 0 := by omega
    have hg0 := dropS_ok L x
    obtain ⟨R, hR0⟩ : ∃ R, dropS L x = R := ⟨_, rfl⟩
    obtain ⟨gc, hgc⟩ : ∃ gc, getC L x = gc := ⟨_, rfl⟩
    rw [hR0] at hg0
    have HQ := Lib.hid (And.intro hR0 hgc)
    obtain ⟨m, hm⟩ : ∃ m, R.length = m := ⟨_, rfl⟩
    rw [hm] at hg0
    have HG := Lib.hid hg0
    have HMM := Lib.hid hm
    clear hR0 hgc hm hg0
    clear h hbig hM hx hlong
    go_enter Try.func3, Try.ntmps3
    go_wp2_with fail
    refine (szStore_any _ _ _ _ _ _ HA.out (by decide) (by decide)).mono ?_
    rintro e w0 ⟨rfl, h0'⟩
    rw [hv.out]
    have HK0 := Lib.hid h0'
    have b0 := (h0'.top rfl (by simp) 0 (v := .slice a n c) rfl).1
    clear h0'
    go_wp2_with fail
    refine (toStore_any _ _ _ _ _ (HR.out.kept0 HK0.out.peel) HN.out).mono ?_
    rintro e w1 ⟨g1, gs1, rfl, hb1, ha1, hk1⟩
    have HS1 := Lib.hid hb1
    have HK1 := Lib.hid (HK0.out.trans0 hk1)
    clear hb1 ha1 hk1
    go_wp2_with fail
    refine (sDropShape_any _ _ _ _ _ _ HS1.out.rd).mono ?_
    rw [HQ.out.1, HQ.out.2]
    intro e w2 hh
    obtain ⟨a1, c1, rfl, sp1, k1⟩ := stoRes_form hh HMM.out
    clear hh
    have ka1 : Kept [] w2 (w2.alloc (.cells #[.int .i64 gc, .slice a1 m c1] 30)) := (Kept.refl [] w2).alloc _
    have B1 := Lib.hid (BoxD.new (w := w2) (u := gc) (v := .slice a1 m c1) (T := 30))
    have S1 := Lib.hid (sp1.w.kept0 ka1)
    have HK2 := Lib.hid (HK1.out.trans0 (k1.trans0 ka1))
    obtain ⟨W2, hW2⟩ : ∃ W2, W2 = w2.alloc (.cells #[.int .i64 gc, .slice a1 m c1] 30) := ⟨_, rfl⟩
    have hz2 : w2.heap.size < W2.heap.size := by rw [hW2]; simp
    have Z12 := Lib.hid k1.size
    have hzw2 : w.heap.size < w2.heap.size := by have := (HK1.out.trans0 k1).size; simp only [World.size_alloc] at this; omega
    have y0 := box1a (HK1.out.trans0 k1)
    clear ka1 k1 sp1 HK1 HS1
    go_wp2_with fail
    rw [← hW2] at B1 S1 HK2 ⊢
    clear hW2 y0
    refine (toStore_any _ _ _ _ _ (HR.out.kept0 HK2.out.peel) HN.out).mono ?_
    rintro e w3 ⟨g3, gs3, rfl, hb3, ha3, k3⟩
    have ka3 : Kept [] w3 (w3.alloc (.cells #[.slice (some ⟨g3, 0, none⟩) n n] 28)) := (Kept.refl [] w3).alloc _
    have X0 := Lib.hid (box1a (Kept.refl [] (w3.alloc (.cells #[.slice (some ⟨g3, 0, none⟩) n n] 28))))
    have L3 := Lib.hid (And.intro ha3 (stb_lt hb3))
    have HS3 := Lib.hid (hb3.kept0 ka3)
    have B13 := Lib.hid (B1.out.kept (k3.trans0 ka3) (by simp))
    have S13 := Lib.hid (S1.out.kept0 (k3.trans0 ka3))
    have HK3 := Lib.hid (HK2.out.trans0 (k3.trans0 ka3))
    have y0 := box1a (HK2.out.trans0 k3)
    have Z23 := Lib.hid (k3.size)
    obtain ⟨W3, hW3⟩ : ∃ W3, W3 = w3.alloc (.cells #[.slice (some ⟨g3, 0, none⟩) n n] 28) := ⟨_, rfl⟩
    have Z33 : Hid (w3.heap.size < W3.heap.size) := by show _ < _; rw [hW3]; simp
    have hzw3 : w.heap.size < w3.heap.size := World.block_lt_of_cell? w3 _ y0
    have HZ2 := Lib.hid (And.intro hz2 HK2.out.size)
    clear ka3 k3 hb3 ha3 B1 S1 HK2 hzw2 hz2
    go_wp2_with fail
    rw [← hW3] at X0 HS3 B13 S13 HK3 ⊢
    clear hW3 y0
    refine (DropShape_any _ _ _ _ _ _ HS3.out.rd HX.out).mono ?_
    rw [HQ.out.1, HQ.out.2]
    intro e w4 hh
    obtain ⟨a2, c2, rfl, sp2, k4⟩ := stoRes_form hh HMM.out
    clear hh
    have ka4 : Kept [] w4 (w4.alloc (.cells #[.int .i64 gc, .slice a2 m c2] 30)) := (Kept.refl [] w4).alloc _
    have B2 := Lib.hid (BoxD.new (w := w4) (u := gc) (v := .slice a2 m c2) (T := 30))
    have S2 := Lib.hid (sp2.w.kept0 ka4)
    have B14 := Lib.hid (B13.out.kept (k4.trans0 ka4) (by simp))
    have S14 := Lib.hid (S13.out.kept0 (k4.trans0 ka4))
    have X04 := Lib.hid ((k4.trans0 ka4).cell X0.out (by simp))
    have HS4 := Lib.hid (HS3.out.kept0 (k4.trans0 ka4))
    have HK4 := Lib.hid (HK3.out.trans0 (k4.trans0 ka4))
    have y0 := box1a (HK3.out.trans0 k4)
    have y1 := k4.cell X0.out (by simp)
    obtain ⟨y2, y3⟩ := B13.out.kept k4 (by simp)
    have Z34 := Lib.hid (k4.size)
    have hzw4 : w.heap.size < w4.heap.size := World.block_lt_of_cell? w4 _ y0
    have hzw5 : w3.heap.size < w4.heap.size := World.block_lt_of_cell? w4 _ y1
    have hzw6 : w2.heap.size < w4.heap.size := World.block_lt_of_cell? w4 _ y2
    obtain ⟨y5, y6⟩ := B2.out
    obtain ⟨W4, hW4⟩ : ∃ W4, W4 = w4.alloc (.cells #[.int .i64 gc, .slice a2 m c2] 30) := ⟨_, rfl⟩
    clear ka4 k4 sp2 B13 S13 X0 HS3 HK3
    go_wp2_with fail
    rw [← hW4] at B2 S2 B14 S14 X04 HS4 HK4 ⊢
    clear hW4 y0 y1 y2 y3 y5 y6
    refine (eqStoreResult_yes _ _ _ _ _ _ _ _ S2.out.rd S14.out.rd).mono ?_
    rintro e w5 ⟨rfl, k5⟩
    have B15 := Lib.hid (B14.out.kept k5 (by simp))
    have B25 := Lib.hid (B2.out.kept k5 (by simp))
    have S15 := Lib.hid (S14.out.kept0 k5)
    have S25 := Lib.hid (S2.out.kept0 k5)
    have HS5 := Lib.hid (HS4.out.kept0 k5)
    have HK5 := Lib.hid (HK4.out.trans0 k5)
    have y0 := box1a HK5.out
    have y1 := k5.cell X04.out (by simp)
    have X05 := Lib.hid y1
    clear k5 B14 B2 S14 S2 HS4 HK4 X04
    go_wp2_with fail
    go_region_held3 (fun w' => w'.cell? ⟨w3.heap.size, 0, none⟩ = some (.slice (some ⟨g3, 0, none⟩) n n) ∧ w'.cell? ⟨w.heap.size, 0, none⟩ = some (.slice a n c) ∧ Hid (Kept [] w5 w'))
      ((go_split_ands; (try refine ⟨?_, ?_, ?_⟩) <;> with_reducible first | exact Lib.hid ((Kept.refl _ _).drew) | exact drew_pt (by assumption) | exact Kept.allocH (by assumption) | exact alloc_cell (by assumption) | exact Lib.hid (Kept.trans0 (Hid.out (by assumption)) (by assumption)) | exact Kept.cell (by assumption) (by assumption) (by simp)))
      (first
        | (go_at_call 6; go_split_ands; refine (toStore_any _ _ _ _ _ (HR.out.kept0 (HK5.out.peel.trans0 (Kept.refl [] _).drew)) HN.out).mono ?_; rintro e v7 ⟨ge0, gse, rfl, hb, qe0, hk1⟩)
        | (go_at_call 9; go_split_ands; refine (eqStore_yes _ _ _ _ _ _ _ (HS5.out.kept0 ((Kept.refl [] w5).drew.trans0 hk1)).rd hb.rd).mono ?_; rintro e w6 ⟨rfl, hk2⟩))
    have k6 : Kept [] w5 w6 := ((Kept.refl [] w5).drew.trans0 hk1).trans0 hk2
    have B16 := Lib.hid (B15.out.kept k6 (by simp))
    have B26 := Lib.hid (B25.out.kept k6 (by simp))
    have S16 := Lib.hid (S15.out.kept0 k6)
    have S26 := Lib.hid (S25.out.kept0 k6)
    have HS6 := Lib.hid (HS5.out.kept0 k6)
    have X06 := Lib.hid (k6.cell X05.out (by simp))
    have HK6 := Lib.hid (HK5.out.trans0 k6)
    have y1 := X06.out
    clear k6 hk1 hk2 hb B15 B25 S15 S25 HS5 HK5 X05 y0 qe0
    go_wp2_with fail
    refine (markStore_any _ _ _ _ _ _ _ _ HS6.out (by decide) HN.out).mono ?_
    obtain ⟨K, hKv⟩ : ∃ K : Int, kAt L 1 n = K := ⟨_, rfl⟩
    have hK1 : (1 : Int) ≤ K := by rw [← hKv]; exact (kAt_le L 1 n).1
    have hK0 : ¬ K < 0 := by omega
    rw [hKv]
    rintro e w7 ⟨rfl, _, k7⟩
    have R1 : ∀ x ∈ blksS g3 gs3 n, W2.heap.size ≤ x := L3.out.1.blks
    have R2 : ∀ x ∈ blksS g3 gs3 n, x < w3.heap.size := L3.out.2
    have q1 := HZ2.out
    have q2 := Z33.out
    have q3 := Z34.out
    have q0 := Z12.out
    have B17 := Lib.hid (B16.out.kept k7 (fun hm => by have := R1 _ hm; omega))
    have B27 := Lib.hid (B26.out.kept k7 (fun hm => by have := R2 _ hm; omega))
    have S17 := Lib.hid (S16.out.kept k7 (fun g hm => by have := R1 _ hm; omega))
    have S27 := Lib.hid (S26.out.kept k7 (fun g hm => by have := R2 _ hm; omega))
    have HK7 := Lib.hid (HK6.out.trans k7 (fun x hx hlt => by have := R1 _ hx; omega))
    clear k7 B16 B26 S16 S26 HS6 HK6 X06 y1 R1 R2 q0 q1 q2 q3 hKv hK1
    obtain ⟨y0, y1⟩ := B17.out
    obtain ⟨z0, z1⟩ := B27.out
    go_wp2_with fail
    refine (eqStoreResult_yes _ _ _ _ _ _ _ _ S27.out.rd S17.out.rd).mono ?_
    rintro e w8 ⟨rfl, k8⟩
    have B18 := Lib.hid (B17.out.kept k8 (by simp))
    have B28 := Lib.hid (B27.out.kept k8 (by simp))
    have S18 := Lib.hid (S17.out.kept0 k8)
    have S28 := Lib.hid (S27.out.kept0 k8)
    have HK8 := Lib.hid (HK7.out.trans0 k8)
    clear k8 y0 y1 z0 z1 B17 B27 S17 S27 HK7
    obtain ⟨z0, z1⟩ := B28.out
    obtain ⟨q, hq⟩ : ∃ q : Int, kAt R 1 m = q := ⟨_, rfl⟩
    have hq0 : ¬ q < 0 := by have := (kAt_le R 1 m).1; omega
    have HQ2 := Lib.hid hq
    clear hq
    go_wp2_with fail
    refine (markStoreResult_v gc _ m R 1 _ S28.out (by decide) HG.out).mono ?_
    rintro e w9 ⟨rfl, S29, Ls, hLs, k9⟩
    rw [HQ2.out]
    have q1 := HZ2.out
    have q2 := Z33.out
    have q3 := Z34.out
    have q4 := Z23.out
    have q0 := Z12.out
    have B19 := Lib.hid (B18.out.kept k9 (fun hm => by have := hLs _ hm; omega))
    have B29 := Lib.hid (B28.out.kept k9 (fun hm => by have := hLs _ hm; omega))
    have S19 := Lib.hid (S18.out.kept k9 (fun g hm => by have := hLs _ hm; omega))
    have S29 := Lib.hid S29
    have HK9 := Lib.hid (HK8.out.trans k9 (fun x hx hlt => by have := hLs _ hx; omega))
    clear k9 B18 B28 S18 S28 HK8 hLs q0 q1 q2 q3 q4 z0 z1
    obtain ⟨z0, z1⟩ := B29.out
    go_wp2_with fail
    refine (heldStoreResult_v gc _ m R 1 _ HMM.out S29.out (by decide) HG.out).mono ?_
    rw [HQ2.out]
    rintro e wA ⟨rfl, kA⟩
    have B1A := Lib.hid (B19.out.kept kA (by simp))
    have B2A := Lib.hid (B29.out.kept kA (by simp))
    have S1A := Lib.hid (S19.out.kept0 kA)
    have S2A := Lib.hid (S29.out.kept0 kA)
    have HKA := Lib.hid (HK9.out.trans0 kA)
    clear kA B19 B29 S19 S29 HK9 z0 z1
    have y0 := box1a HKA.out
    go_wp2_with fail
    refine (toStore_any _ _ _ _ _ (HR.out.kept0 HKA.out.peel) HN.out).mono ?_
    rintro e wB ⟨gB, gsB, rfl, hbB, haB, kB⟩
    have HSB := Lib.hid hbB
    have B1B := Lib.hid (B1A.out.kept kB (by simp))
    have B2B := Lib.hid (B2A.out.kept kB (by simp))
    have S1B := Lib.hid (S1A.out.kept0 kB)
    have S2B := Lib.hid (S2A.out.kept0 kB)
    have HKB := Lib.hid (HKA.out.trans0 kB)
    clear kB hbB haB B1A B2A S1A S2A HKA y0
    go_wp2_with fail
    refine (DropShape_any _ _ _ _ _ _ HSB.out.rd HX.out).mono ?_
    rw [HQ.out.1, HQ.out.2]
    intro e wC hh
    obtain ⟨a3, c3, rfl, sp3, kC⟩ := stoRes_form hh HMM.out
    clear hh
    have kaC : Kept [] wC (wC.alloc (.cells #[.int .i64 gc, .slice a3 m c3] 30)) := (Kept.refl [] wC).alloc _
    have B3 := Lib.hid (BoxD.new (w := wC) (u := gc) (v := .slice a3 m c3) (T := 30))
    have S3 := Lib.hid (sp3.w.kept0 kaC)
    have B1C := Lib.hid (B1B.out.kept (kC.trans0 kaC) (by simp))
    have B2C := Lib.hid (B2B.out.kept (kC.trans0 kaC) (by simp))
    have S1C := Lib.hid (S1B.out.kept0 (kC.trans0 kaC))
    have S2C := Lib.hid (S2B.out.kept0 (kC.trans0 kaC))
    have HKC := Lib.hid (HKB.out.trans0 (kC.trans0 kaC))
    obtain ⟨y0, y1⟩ := B1B.out.kept kC (by simp)
    have hzc : w2.heap.size < wC.heap.size := World.block_lt_of_cell? wC _ y0
    obtain ⟨x0, x1⟩ := B3.out
    obtain ⟨WC, hWC⟩ : ∃ WC, WC = wC.alloc (.cells #[.int .i64 gc, .slice a3 m c3] 30) := ⟨_, rfl⟩
    clear kC kaC sp3 B1B B2B S1B S2B HKB
    go_wp2_with fail
    rw [← hWC] at B3 S3 B1C B2C S1C S2C HKC ⊢
    clear hWC x0 x1 y0 y1
    refine (eqStoreResult_yes _ _ _ _ _ _ _ _ S3.out.rd S1C.out.rd).mono ?_
    rintro e wD ⟨rfl, kD⟩
    have B2D := Lib.hid (B2C.out.kept kD (by simp))
    have S2D := Lib.hid (S2C.out.kept0 kD)
    have HKD := Lib.hid (HKC.out.trans0 kD)
    clear kD B3 S3 B1C B2C S1C S2C HKC
    obtain ⟨z0, z1⟩ := B2D.out
    go_wp2_with fail
    refine (heldStoreResult_v gc _ m R 1 _ HMM.out S2D.out (by decide) HG.out).mono ?_
    rw [HQ2.out]
    rintro e wE ⟨rfl, kE⟩
    have HKE := Lib.hid (HKD.out.trans0 kE)
    clear kE
    go_wp2_with fail
    go_ret
    exact ⟨rfl, HKE.out.peel⟩
  · have hv := Lib.hid (leftS_no (left := 1048576) (x := n + szAt L n) (by omega))
    clear h hbig
    go_enter Try.func3, Try.ntmps3
    go_wp2_with fail
    refine (szStore_any _ _ _ _ _ _ HA.out (by decide) (by decide)).mono ?_
    rintro e w1 ⟨rfl, h1⟩
    rw [hv.out]
    go_wp2_with fail
    go_ret
    exact ⟨rfl, h1.peel⟩

end Go.Proofs.Ytklecaojkngjmae
