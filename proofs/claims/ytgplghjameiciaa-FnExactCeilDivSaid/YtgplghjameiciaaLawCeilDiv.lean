/-
  The walk of the law on CeilDiv. No condition but that the arguments' limbs read as lists of numbers.
-/
import Derived.Deep.RegionHeld3
import Derived.Deep.DrawnRows
import Derived.Deep.DeepCutAuto
import Derived.Test.YtgplghjameiciaaJ4
namespace Go.Proofs.Ytgplghjameiciaa
open Go.RowKit
attribute [local go_sem ↓] Go.wp_at_zero Go.wp_at_succ

set_option maxHeartbeats 8000000 in
set_option maxRecDepth 100000 in
theorem FnExactCeilDiv_walk (p : Bool) (a : Option Addr) (n c : Nat) (xs : List Int) (q : Bool) (b : Option Addr) (m d : Nat) (ys : List Int) (w : World) (hA : Rd w a n xs) (hB : Rd w b m ys) :
    Calls Try.prog 13 #[.agg #[.bool p, .slice a n c], .agg #[.bool q, .slice b m d]] w (Ans w (.bool true)) := by
  have hmaxA := hA.2.1
  have HRA := Lib.hid hA
  have HLA := Lib.hid hA.1
  have FRA := Lib.hid hA.lt
  clear hA
  have hmaxB := hB.2.1
  have HRB := Lib.hid hB
  have HLB := Lib.hid hB.1
  have FRB := Lib.hid hB.lt
  clear hB
  by_cases hbig0 : 1048576 < n
  · go_enter Try.func13, Try.ntmps13
    go_wp2_with fail
    have hk0 : Kept [] w ((w.alloc (.cells #[.bool p, .slice a n c] 38)).alloc (.cells #[.bool q, .slice b m d] 38)) := ((Kept.refl [] w).alloc _).alloc _
    refine (szBig_no _ _ _ _ _ _ (by omega) (by omega) hmaxA).mono ?_
    rintro e w1 ⟨rfl, hk⟩
    have HK := Lib.hid (hk0.trans0 hk)
    clear hk hk0
    go_wp2_with fail
    go_ret
    exact ⟨rfl, HK.out⟩
  by_cases hbig1 : 1048576 - n < m
  · go_enter Try.func13, Try.ntmps13
    go_wp2_with fail
    have hk0 : Kept [] w ((w.alloc (.cells #[.bool p, .slice a n c] 38)).alloc (.cells #[.bool q, .slice b m d] 38)) := ((Kept.refl [] w).alloc _).alloc _
    refine (szBig_yes _ _ _ _ _ _ (by omega) (by omega)).mono ?_
    rintro e w1 ⟨rfl, hk⟩
    have t0 := (hk.top (g := w.heap.size + 1) (by simp) (by simp) 0 (v := .bool q) rfl).1
    have t1 := (hk.top (g := w.heap.size + 1) (by simp) (by simp) 1 (v := .slice b m d) rfl).1
    have HK := Lib.hid (hk0.trans0 hk)
    clear hk hk0
    have hng : decide ((1048576 : Int) - (n : Int) < 0) = false := decide_eq_false (by omega)
    have hnp : (0 : Int) ≤ (1048576 : Int) - (n : Int) := by omega
    go_wp2_with fail
    refine (szBig_no _ _ _ _ _ _ (by omega) (by omega) hmaxB).mono ?_
    rintro e w2 ⟨rfl, hk⟩
    have HK2 := Lib.hid (HK.out.trans0 hk)
    clear hk
    go_wp2_with fail
    go_ret
    exact ⟨rfl, HK2.out⟩
  have hsmA : n ≤ 1048576 := by omega
  have hsmB : m ≤ 1048576 := by omega
  have hsm : (m : Int) ≤ 1048576 - (n : Int) := by omega
  have hng : decide ((1048576 : Int) - (n : Int) < 0) = false := decide_eq_false (by omega)
  have hnp : (0 : Int) ≤ (1048576 : Int) - (n : Int) := by omega
  have hng2 : decide ((1048576 : Int) - (n : Int) - (m : Int) < 0) = false := decide_eq_false (by omega)
  have hnp2 : (0 : Int) ≤ (1048576 : Int) - (n : Int) - (m : Int) := by omega
  clear hbig0 hbig1
  have HZ := Lib.hid (show (divB true p xs q ys).limbs.length ≤ 40 from divB_len _ _ _ _ _)
  go_enter Try.func13, Try.ntmps13
  go_wp2_with fail
  generalize hW : ((w.alloc (.cells #[.bool p, .slice a n c] 38)).alloc (.cells #[.bool q, .slice b m d] 38)) = ww0
  have hk : Kept [] w ww0 := by rw [← hW]; exact ((Kept.refl [] w).alloc _).alloc _
  have hkk : Kept [] ((w.alloc (.cells #[.bool p, .slice a n c] 38)).alloc (.cells #[.bool q, .slice b m d] 38)) ww0 := by rw [hW]; exact Kept.refl _ _
  have zzA : w.heap.size + 1 + 1 = ww0.heap.size := by rw [← hW]; simp
  obtain ⟨⟨nA0, nA1⟩, _⟩ := tp2 hkk.peel (g := w.heap.size) (by simp) (by simp)
  obtain ⟨⟨nB0, nB1⟩, _⟩ := tp2 hkk (g := w.heap.size + 1) (by simp) (by simp)
  clear hkk hW
  have z0 := hk.size
  have KT := Lib.hid hk
  clear hk
  replace HRA := Lib.hid (HRA.out.kept0 KT.out)
  replace HRB := Lib.hid (HRB.out.kept0 KT.out)
  refine (szBig_yes _ _ _ _ _ _ (by omega) (by omega)).mono ?_
  rintro e ww1 ⟨rfl, hk⟩
  have z1 := hk.size
  replace nA0 := kc hk nA0
  replace nA1 := kc hk nA1
  replace nB0 := kc hk nB0
  replace nB1 := kc hk nB1
  replace HRA := Lib.hid (HRA.out.kept0 hk)
  replace HRB := Lib.hid (HRB.out.kept0 hk)
  replace KT := Lib.hid (KT.out.trans0 hk)
  clear hk
  have tB0 := nB0.out
  have tB1 := nB1.out
  go_wp2_with fail
  clear tB0 tB1
  refine (szBig_yes _ _ _ _ _ _ hsm (by omega)).mono ?_
  rintro e ww2 ⟨rfl, hk⟩
  have z2 := hk.size
  replace nA0 := kc hk nA0
  replace nA1 := kc hk nA1
  replace nB0 := kc hk nB0
  replace nB1 := kc hk nB1
  replace HRA := Lib.hid (HRA.out.kept0 hk)
  replace HRB := Lib.hid (HRB.out.kept0 hk)
  replace KT := Lib.hid (KT.out.trans0 hk)
  clear hk
  have tA0 := nA0.out
  have tA1 := nA1.out
  have tB0 := nB0.out
  have tB1 := nB1.out
  go_upto_region 8 with fail
  have hUs : w.heap.size + 2 ≤ ww2.heap.size := by omega
  go_cut [6] (fun s wx => Hid (BoxR ww2 (divB true p xs q ys) s wx))
  case first =>
    go_region_held3 (fun w' => w'.cell? ⟨w.heap.size, 0, none⟩ = some (.bool p) ∧ w'.cell? ⟨w.heap.size, 1, none⟩ = some (.slice a n c) ∧ w'.cell? ⟨w.heap.size + 1, 0, none⟩ = some (.bool q) ∧ w'.cell? ⟨w.heap.size + 1, 1, none⟩ = some (.slice b m d) ∧ Hid (Kept [] ww2 w'))
      ((go_split_ands; (try refine ⟨?_, ?_, ?_, ?_, ?_⟩) <;> with_reducible first | assumption | exact Lib.hid ((Kept.refl _ _).drew) | exact Lib.hid (((Kept.refl _ _).alloc _).drew) | exact drew_alloc_cell (by assumption) | exact drew_cell (by assumption) | exact Kept.allocH (by assumption) | exact alloc_cell (by assumption) | exact Kept.set3n (by assumption) (by (try simp only [World.size_alloc, World.size_drew] at *); omega) | exact cell_set3 (by assumption) (by (try simp only [World.size_alloc, World.size_drew] at *); (try dsimp only); omega) | exact Lib.hid (Kept.trans0 (Hid.out (by assumption)) (by assumption)) | exact Kept.cell (by assumption) (by assumption) (by simp)))
      (first
        | (go_at_call_of 37 (Value.agg #[Value.bool p, Value.slice a n c]); go_split_ands; refine (toBig_any _ _ _ _ _ _ (HRA.out.kept0 (Hid.out (by assumption))) (by omega)).mono ?_; rintro e v3 ⟨g0, rfl, q0, hb0, hk1⟩; rw [HLA.out]; have zk1 := hk1.size; (first | (obtain ⟨z0, y0, _⟩ := hk1.undrew.top (g := ww2.heap.size) rfl (by simp) 0 (v := .int .i64 0) rfl; obtain ⟨z1, y1, _⟩ := hk1.undrew.top (g := ww2.heap.size) rfl (by simp) 1 (v := .bool false) rfl; obtain ⟨z2, y2, _⟩ := hk1.undrew.top (g := ww2.heap.size) rfl (by simp) 2 (v := .slice none 0 0) rfl) | skip))
        | (go_at_call_of 37 (Value.agg #[Value.bool q, Value.slice b m d]); go_split_ands; refine (toBig_any _ _ _ _ _ _ (HRB.out.kept0 (Hid.out (by assumption))) (by omega)).mono ?_; rintro e v4 ⟨g1, rfl, q1, hb1, hk2⟩; rw [HLB.out]; have zk2 := hk2.size; have hb0 := hk2.blk (show Blk _ g0 xs by first | exact hb0 | exact hb0.alloc _) (by simp); (first | (obtain ⟨z0, y0, _⟩ := hk2.top (g := v3.heap.size) rfl (by simp) 0 (v := .int .i64 0) rfl; obtain ⟨z1, y1, _⟩ := hk2.top (g := v3.heap.size) rfl (by simp) 1 (v := .bool false) rfl; obtain ⟨z2, y2, _⟩ := hk2.top (g := v3.heap.size) rfl (by simp) 2 (v := .slice none 0 0) rfl) | (replace y0 := hk2.free' z0 y0 (by simp); replace y1 := hk2.free' z1 y1 (by simp); replace y2 := hk2.free' z2 y2 (by simp); replace z0 := hk2.cell z0 (by simp); replace z1 := hk2.cell z1 (by simp); replace z2 := hk2.cell z2 (by simp)) | skip))
        | (go_at_call 52; go_split_ands; refine (sCeilDiv_any _ _ _ _ _ _ _ _ _ _ _ (sl_new (show Blk _ g0 xs by first | exact hb0 | exact hb0.alloc _) HLA.out (by omega)) (sl_new (show Blk _ g1 ys by first | exact hb1 | exact hb1.alloc _) HLB.out (by omega))).mono ?_; rintro e v5 ⟨a9, x9, rfl, hs, hf, hk3⟩; have zk3 := hk3.size; have scA0 : v5.cell? ⟨w.heap.size, 0, none⟩ = some (.bool p) := hk3.cell (by assumption) (by simp); have scA1 : v5.cell? ⟨w.heap.size, 1, none⟩ = some (.slice a n c) := hk3.cell (by assumption) (by simp); have scB0 : v5.cell? ⟨w.heap.size + 1, 0, none⟩ = some (.bool q) := hk3.cell (by assumption) (by simp); have scB1 : v5.cell? ⟨w.heap.size + 1, 1, none⟩ = some (.slice b m d) := hk3.cell (by assumption) (by simp); have sck := Lib.hid (Kept.trans0 (Hid.out (by assumption : Hid (Kept [] ww2 _))) hk3); (first | (obtain ⟨z0, y0, _⟩ := hk3.top (g := v4.heap.size) rfl (by simp) 0 (v := .int .i64 0) rfl; obtain ⟨z1, y1, _⟩ := hk3.top (g := v4.heap.size) rfl (by simp) 1 (v := .bool false) rfl; obtain ⟨z2, y2, _⟩ := hk3.top (g := v4.heap.size) rfl (by simp) 2 (v := .slice none 0 0) rfl) | (replace y0 := hk3.free' z0 y0 (by simp); replace y1 := hk3.free' z1 y1 (by simp); replace y2 := hk3.free' z2 y2 (by simp); replace z0 := hk3.cell z0 (by simp); replace z1 := hk3.cell z1 (by simp); replace z2 := hk3.cell z2 (by simp)) | skip)))
    all_goals
      try simp only [World.size_drew] at zk1
      try simp only [World.size_alloc] at zk1
      try simp only [World.size_alloc] at zk2
      try simp only [World.size_alloc] at zk3
      go_wp2_with fail
      go_meet
      first | (with_reducible refine Lib.hid (boxR_last ?_ hs hf sck); (try simp only [World.size_alloc]); omega) | (with_reducible refine Lib.hid (boxR_set ?_ ?_ hs hf z0 z1 z2 sck); omega; (try simp only [World.size_alloc]); omega)
  case rest =>
  have hc := hcut.out
  clear hcut
  clear tA0 tA1 tB0 tB1
  obtain ⟨g1, a1, x1, rfl, e0, e1, e2, hg1, hgl1, hs, hf, hk⟩ := hc
  obtain ⟨ww6, rfl⟩ : ∃ w' : World, w' = wc := ⟨_, rfl⟩
  obtain ⟨⟨cv, cn, zs⟩, hv⟩ : ∃ r : BV, r = divB true p xs q ys := ⟨_, rfl⟩
  (try rw [← hv] at e0)
  (try rw [← hv] at e1)
  (try rw [← hv] at e2)
  rw [← hv] at hs hf
  (try rw [← hv])
  rw [← hv] at HZ
  have HV := Lib.hid hv
  (try simp only at e0)
  (try simp only at e1)
  (try simp only at e2)
  simp only at hs hf
  (try simp only)
  have S1 := Lib.hid hs
  have f1 := Lib.hid hs.lt
  clear hs hf hv
  have z6 := hk.size
  replace nA0 := kc hk nA0
  replace nA1 := kc hk nA1
  replace nB0 := kc hk nB0
  replace nB1 := kc hk nB1
  replace HRA := Lib.hid (HRA.out.kept0 hk)
  replace HRB := Lib.hid (HRB.out.kept0 hk)
  replace KT := Lib.hid (KT.out.trans0 hk)
  clear hk
  have nW0 := Lib.hid e0
  have nW1 := Lib.hid e1
  have nW2 := Lib.hid e2
  clear e0 e1 e2
  have tA0 := nA0.out
  have tA1 := nA1.out
  go_wp2_with fail
  clear tA0 tA1
  refine (toBig_any _ _ _ _ _ _ HRA.out (by omega)).mono ?_
  rintro e ww7 ⟨gx0, rfl, qx0, hb, hk⟩
  rw [HLA.out]
  have lx0 := hb.lt
  have Sx0 := Lib.hid (sl_new hb HLA.out (by omega))
  clear hb
  have z7 := hk.size
  replace nA0 := kc hk nA0
  replace nA1 := kc hk nA1
  replace nB0 := kc hk nB0
  replace nB1 := kc hk nB1
  replace HRA := Lib.hid (HRA.out.kept0 hk)
  replace HRB := Lib.hid (HRB.out.kept0 hk)
  replace nW0 := kc hk nW0
  replace nW1 := kc hk nW1
  replace nW2 := kc hk nW2
  replace S1 := Lib.hid (S1.out.kept0 hk)
  replace KT := Lib.hid (KT.out.trans0 hk)
  clear hk
  have tB0 := alloc_cell (o := .cells #[.bool p, .slice (some ⟨gx0, 0, none⟩) n n] 40) nB0.out
  have tB1 := alloc_cell (o := .cells #[.bool p, .slice (some ⟨gx0, 0, none⟩) n n] 40) nB1.out
  go_wp2_with fail
  clear tB0 tB1
  generalize hW : (ww7.alloc (.cells #[.bool p, .slice (some ⟨gx0, 0, none⟩) n n] 40)) = ww8
  have hk : Kept [] ww7 ww8 := by rw [← hW]; exact (Kept.refl [] _).alloc _
  have zzX0 : ww7.heap.size + 1 = ww8.heap.size := by rw [← hW]; simp
  have nX00 := Lib.hid (show ww8.cell? ⟨ww7.heap.size, 0, none⟩ = some (.bool p) by rw [← hW, World.cell?_alloc_new]; rfl)
  have nX01 := Lib.hid (show ww8.cell? ⟨ww7.heap.size, 1, none⟩ = some (.slice (some ⟨gx0, 0, none⟩) n n) by rw [← hW, World.cell?_alloc_new]; rfl)
  clear hW
  have z8 := hk.size
  replace nA0 := kc hk nA0
  replace nA1 := kc hk nA1
  replace nB0 := kc hk nB0
  replace nB1 := kc hk nB1
  replace HRA := Lib.hid (HRA.out.kept0 hk)
  replace HRB := Lib.hid (HRB.out.kept0 hk)
  replace nW0 := kc hk nW0
  replace nW1 := kc hk nW1
  replace nW2 := kc hk nW2
  replace S1 := Lib.hid (S1.out.kept0 hk)
  replace Sx0 := Lib.hid (Sx0.out.kept0 hk)
  replace KT := Lib.hid (KT.out.trans0 hk)
  clear hk
  refine (toBig_any _ _ _ _ _ _ HRB.out (by omega)).mono ?_
  rintro e ww9 ⟨gx1, rfl, qx1, hb, hk⟩
  rw [HLB.out]
  have lx1 := hb.lt
  have Sx1 := Lib.hid (sl_new hb HLB.out (by omega))
  clear hb
  have z9 := hk.size
  replace nA0 := kc hk nA0
  replace nA1 := kc hk nA1
  replace nB0 := kc hk nB0
  replace nB1 := kc hk nB1
  replace HRA := Lib.hid (HRA.out.kept0 hk)
  replace HRB := Lib.hid (HRB.out.kept0 hk)
  replace nW0 := kc hk nW0
  replace nW1 := kc hk nW1
  replace nW2 := kc hk nW2
  replace S1 := Lib.hid (S1.out.kept0 hk)
  replace Sx0 := Lib.hid (Sx0.out.kept0 hk)
  replace nX00 := kc hk nX00
  replace nX01 := kc hk nX01
  replace KT := Lib.hid (KT.out.trans0 hk)
  clear hk
  have tX00 := alloc_cell (o := .cells #[.bool q, .slice (some ⟨gx1, 0, none⟩) m m] 40) nX00.out
  have tX01 := alloc_cell (o := .cells #[.bool q, .slice (some ⟨gx1, 0, none⟩) m m] 40) nX01.out
  go_wp2_with fail
  clear tX00 tX01
  generalize hW : (ww9.alloc (.cells #[.bool q, .slice (some ⟨gx1, 0, none⟩) m m] 40)) = ww10
  have hk : Kept [] ww9 ww10 := by rw [← hW]; exact (Kept.refl [] _).alloc _
  have zzX1 : ww9.heap.size + 1 = ww10.heap.size := by rw [← hW]; simp
  have nX10 := Lib.hid (show ww10.cell? ⟨ww9.heap.size, 0, none⟩ = some (.bool q) by rw [← hW, World.cell?_alloc_new]; rfl)
  have nX11 := Lib.hid (show ww10.cell? ⟨ww9.heap.size, 1, none⟩ = some (.slice (some ⟨gx1, 0, none⟩) m m) by rw [← hW, World.cell?_alloc_new]; rfl)
  clear hW
  have z10 := hk.size
  replace nA0 := kc hk nA0
  replace nA1 := kc hk nA1
  replace nB0 := kc hk nB0
  replace nB1 := kc hk nB1
  replace HRA := Lib.hid (HRA.out.kept0 hk)
  replace HRB := Lib.hid (HRB.out.kept0 hk)
  replace nW0 := kc hk nW0
  replace nW1 := kc hk nW1
  replace nW2 := kc hk nW2
  replace S1 := Lib.hid (S1.out.kept0 hk)
  replace Sx0 := Lib.hid (Sx0.out.kept0 hk)
  replace nX00 := kc hk nX00
  replace nX01 := kc hk nX01
  replace Sx1 := Lib.hid (Sx1.out.kept0 hk)
  replace KT := Lib.hid (KT.out.trans0 hk)
  clear hk
  refine (CeilDiv_any _ _ _ _ _ _ _ _ _ _ _ Sx0.out Sx1.out).mono ?_
  rintro e ww11 ⟨a2, x2, rfl, hs, hf, hk⟩
  (try rw [← HV.out] at e0)
  (try rw [← HV.out] at e1)
  (try rw [← HV.out] at e2)
  rw [← HV.out] at hs hf
  (try rw [← HV.out])
  (try simp only at e0)
  (try simp only at e1)
  (try simp only at e2)
  simp only at hs hf
  (try simp only)
  have S2 := Lib.hid hs
  have f2 := Lib.hid hs.lt
  have F2 := Lib.hid hf
  clear hs hf
  have z11 := hk.size
  replace nA0 := kc hk nA0
  replace nA1 := kc hk nA1
  replace nB0 := kc hk nB0
  replace nB1 := kc hk nB1
  replace HRA := Lib.hid (HRA.out.kept0 hk)
  replace HRB := Lib.hid (HRB.out.kept0 hk)
  replace nW0 := kc hk nW0
  replace nW1 := kc hk nW1
  replace nW2 := kc hk nW2
  replace S1 := Lib.hid (S1.out.kept0 hk)
  replace Sx0 := Lib.hid (Sx0.out.kept0 hk)
  replace nX00 := kc hk nX00
  replace nX01 := kc hk nX01
  replace Sx1 := Lib.hid (Sx1.out.kept0 hk)
  replace nX10 := kc hk nX10
  replace nX11 := kc hk nX11
  replace KT := Lib.hid (KT.out.trans0 hk)
  clear hk
  have tW0 := alloc_cell (o := .cells #[.int .i64 cv, .bool cn, .slice a2 zs.length x2] 42) nW0.out
  have tW1 := alloc_cell (o := .cells #[.int .i64 cv, .bool cn, .slice a2 zs.length x2] 42) nW1.out
  have tW2 := alloc_cell (o := .cells #[.int .i64 cv, .bool cn, .slice a2 zs.length x2] 42) nW2.out
  go_wp2_with fail
  clear tW0 tW1 tW2
  generalize hW : (ww11.alloc (.cells #[.int .i64 cv, .bool cn, .slice a2 zs.length x2] 42)) = ww12
  have hk : Kept [] ww11 ww12 := by rw [← hW]; exact (Kept.refl [] _).alloc _
  have zzG : ww11.heap.size + 1 = ww12.heap.size := by rw [← hW]; simp
  have nG0 := Lib.hid (show ww12.cell? ⟨ww11.heap.size, 0, none⟩ = some (.int .i64 cv) by rw [← hW, World.cell?_alloc_new]; rfl)
  have nG1 := Lib.hid (show ww12.cell? ⟨ww11.heap.size, 1, none⟩ = some (.bool cn) by rw [← hW, World.cell?_alloc_new]; rfl)
  have nG2 := Lib.hid (show ww12.cell? ⟨ww11.heap.size, 2, none⟩ = some (.slice a2 zs.length x2) by rw [← hW, World.cell?_alloc_new]; rfl)
  clear hW
  have z12 := hk.size
  replace nA0 := kc hk nA0
  replace nA1 := kc hk nA1
  replace nB0 := kc hk nB0
  replace nB1 := kc hk nB1
  replace HRA := Lib.hid (HRA.out.kept0 hk)
  replace HRB := Lib.hid (HRB.out.kept0 hk)
  replace nW0 := kc hk nW0
  replace nW1 := kc hk nW1
  replace nW2 := kc hk nW2
  replace S1 := Lib.hid (S1.out.kept0 hk)
  replace Sx0 := Lib.hid (Sx0.out.kept0 hk)
  replace nX00 := kc hk nX00
  replace nX01 := kc hk nX01
  replace Sx1 := Lib.hid (Sx1.out.kept0 hk)
  replace nX10 := kc hk nX10
  replace nX11 := kc hk nX11
  replace S2 := Lib.hid (S2.out.kept0 hk)
  replace KT := Lib.hid (KT.out.trans0 hk)
  clear hk
  refine (eqBigResult_yes _ _ _ _ _ _ _ _ _ S2.out.rd S1.out.rd).mono ?_
  rintro e ww13 ⟨rfl, hk⟩
  have z13 := hk.size
  replace nA0 := kc hk nA0
  replace nA1 := kc hk nA1
  replace nB0 := kc hk nB0
  replace nB1 := kc hk nB1
  replace HRA := Lib.hid (HRA.out.kept0 hk)
  replace HRB := Lib.hid (HRB.out.kept0 hk)
  replace nW0 := kc hk nW0
  replace nW1 := kc hk nW1
  replace nW2 := kc hk nW2
  replace S1 := Lib.hid (S1.out.kept0 hk)
  replace Sx0 := Lib.hid (Sx0.out.kept0 hk)
  replace nX00 := kc hk nX00
  replace nX01 := kc hk nX01
  replace Sx1 := Lib.hid (Sx1.out.kept0 hk)
  replace nX10 := kc hk nX10
  replace nX11 := kc hk nX11
  replace S2 := Lib.hid (S2.out.kept0 hk)
  replace nG0 := kc hk nG0
  replace nG1 := kc hk nG1
  replace nG2 := kc hk nG2
  replace KT := Lib.hid (KT.out.trans0 hk)
  clear hk
  have tX00 := nX00.out
  have tX01 := nX01.out
  have tX10 := nX10.out
  have tX11 := nX11.out
  have tA0 := nA0.out
  have tA1 := nA1.out
  have tB0 := nB0.out
  have tB1 := nB1.out
  go_wp2_with fail
  clear tX00 tX01 tX10 tX11 tA0 tA1 tB0 tB1
  have tX00 := nX00.out
  have tX01 := nX01.out
  have tA0 := nA0.out
  have tA1 := nA1.out
  go_region_held3 (fun w' => w'.cell? ⟨ww7.heap.size, 0, none⟩ = some (.bool p) ∧ w'.cell? ⟨ww7.heap.size, 1, none⟩ = some (.slice (some ⟨gx0, 0, none⟩) n n) ∧ w'.cell? ⟨w.heap.size, 0, none⟩ = some (.bool p) ∧ w'.cell? ⟨w.heap.size, 1, none⟩ = some (.slice a n c) ∧ Hid (Kept [] ww13 w'))
    ((go_split_ands; (try refine ⟨?_, ?_, ?_, ?_, ?_⟩) <;> with_reducible first | exact Lib.hid ((Kept.refl _ _).drew) | exact drew_cell (by assumption) | exact Kept.allocH (by assumption) | exact alloc_cell (by assumption) | exact Lib.hid (Kept.trans0 (Hid.out (by assumption)) (by assumption)) | exact Kept.cell (by assumption) (by assumption) (by simp)))
    (first
      | (go_at_call 37; go_split_ands; refine (toBig_any _ _ _ _ _ _ (HRA.out.kept0 (Kept.refl [] _).drew) (by omega)).mono ?_; rintro e v14 ⟨ge0, rfl, qe0, hb, hk1⟩; rw [HLA.out])
      | (go_at_call 40; go_split_ands; refine (eqBig_yes _ _ _ _ _ _ _ _ ((Sx0.out.kept0 (Kept.refl [] _).drew).kept0 hk1).rd (rd_new hb HLA.out (by omega))).mono ?_; rintro e v15 ⟨rfl, hk2⟩))
  clear tX00 tX01 tA0 tA1
  have hk := ((Kept.refl [] ww13).drew.trans0 hk1).trans0 hk2
  clear hk1 hk2 hb
  have z15 := hk.size
  replace nA0 := kc hk nA0
  replace nA1 := kc hk nA1
  replace nB0 := kc hk nB0
  replace nB1 := kc hk nB1
  replace HRA := Lib.hid (HRA.out.kept0 hk)
  replace HRB := Lib.hid (HRB.out.kept0 hk)
  replace nW0 := kc hk nW0
  replace nW1 := kc hk nW1
  replace nW2 := kc hk nW2
  replace S1 := Lib.hid (S1.out.kept0 hk)
  replace Sx0 := Lib.hid (Sx0.out.kept0 hk)
  replace nX00 := kc hk nX00
  replace nX01 := kc hk nX01
  replace Sx1 := Lib.hid (Sx1.out.kept0 hk)
  replace nX10 := kc hk nX10
  replace nX11 := kc hk nX11
  replace S2 := Lib.hid (S2.out.kept0 hk)
  replace nG0 := kc hk nG0
  replace nG1 := kc hk nG1
  replace nG2 := kc hk nG2
  replace KT := Lib.hid (KT.out.trans0 hk)
  clear hk
  have tX10 := nX10.out
  have tX11 := nX11.out
  have tB0 := nB0.out
  have tB1 := nB1.out
  go_wp2_with fail
  clear tX10 tX11 tB0 tB1
  have tX10 := nX10.out
  have tX11 := nX11.out
  have tB0 := nB0.out
  have tB1 := nB1.out
  go_region_held3 (fun w' => w'.cell? ⟨ww9.heap.size, 0, none⟩ = some (.bool q) ∧ w'.cell? ⟨ww9.heap.size, 1, none⟩ = some (.slice (some ⟨gx1, 0, none⟩) m m) ∧ w'.cell? ⟨w.heap.size + 1, 0, none⟩ = some (.bool q) ∧ w'.cell? ⟨w.heap.size + 1, 1, none⟩ = some (.slice b m d) ∧ Hid (Kept [] v15 w'))
    ((go_split_ands; (try refine ⟨?_, ?_, ?_, ?_, ?_⟩) <;> with_reducible first | exact Lib.hid ((Kept.refl _ _).drew) | exact drew_cell (by assumption) | exact Kept.allocH (by assumption) | exact alloc_cell (by assumption) | exact Lib.hid (Kept.trans0 (Hid.out (by assumption)) (by assumption)) | exact Kept.cell (by assumption) (by assumption) (by simp)))
    (first
      | (go_at_call 37; go_split_ands; refine (toBig_any _ _ _ _ _ _ (HRB.out.kept0 (Kept.refl [] _).drew) (by omega)).mono ?_; rintro e v16 ⟨ge1, rfl, qe1, hb, hk1⟩; rw [HLB.out])
      | (go_at_call 40; go_split_ands; refine (eqBig_yes _ _ _ _ _ _ _ _ ((Sx1.out.kept0 (Kept.refl [] _).drew).kept0 hk1).rd (rd_new hb HLB.out (by omega))).mono ?_; rintro e v17 ⟨rfl, hk2⟩))
  clear tX10 tX11 tB0 tB1
  have hk := ((Kept.refl [] v15).drew.trans0 hk1).trans0 hk2
  clear hk1 hk2 hb
  have z17 := hk.size
  replace nA0 := kc hk nA0
  replace nA1 := kc hk nA1
  replace nB0 := kc hk nB0
  replace nB1 := kc hk nB1
  replace HRA := Lib.hid (HRA.out.kept0 hk)
  replace HRB := Lib.hid (HRB.out.kept0 hk)
  replace nW0 := kc hk nW0
  replace nW1 := kc hk nW1
  replace nW2 := kc hk nW2
  replace S1 := Lib.hid (S1.out.kept0 hk)
  replace Sx0 := Lib.hid (Sx0.out.kept0 hk)
  replace nX00 := kc hk nX00
  replace nX01 := kc hk nX01
  replace Sx1 := Lib.hid (Sx1.out.kept0 hk)
  replace nX10 := kc hk nX10
  replace nX11 := kc hk nX11
  replace S2 := Lib.hid (S2.out.kept0 hk)
  replace nG0 := kc hk nG0
  replace nG1 := kc hk nG1
  replace nG2 := kc hk nG2
  replace KT := Lib.hid (KT.out.trans0 hk)
  clear hk
  have tX00 := nX00.out
  have tX01 := nX01.out
  go_wp2_with fail
  clear tX00 tX01
  refine (markBig_any _ _ _ _ _ (1) _ Sx0.out (by omega) (by omega)).mono ?_
  rintro e ww18 ⟨rfl, hs, hk⟩
  clear hs
  have z18 := hk.size
  replace nA0 := Lib.hid (hk.cell (p := ⟨w.heap.size, 0, none⟩) nA0.out (fun hm => by have e := blkOf_one hm; dsimp only at e; omega))
  replace nA1 := Lib.hid (hk.cell (p := ⟨w.heap.size, 1, none⟩) nA1.out (fun hm => by have e := blkOf_one hm; dsimp only at e; omega))
  replace nB0 := Lib.hid (hk.cell (p := ⟨w.heap.size + 1, 0, none⟩) nB0.out (fun hm => by have e := blkOf_one hm; dsimp only at e; omega))
  replace nB1 := Lib.hid (hk.cell (p := ⟨w.heap.size + 1, 1, none⟩) nB1.out (fun hm => by have e := blkOf_one hm; dsimp only at e; omega))
  replace HRA := Lib.hid (HRA.out.kept hk (fun hn y hy hm => by have e := blkOf_one hm; have h9 := FRA.out hn y hy; omega))
  replace HRB := Lib.hid (HRB.out.kept hk (fun hn y hy hm => by have e := blkOf_one hm; have h9 := FRB.out hn y hy; omega))
  replace nW0 := Lib.hid (hk.cell (p := ⟨g1, 0, none⟩) nW0.out (fun hm => by have e := blkOf_one hm; dsimp only at e; omega))
  replace nW1 := Lib.hid (hk.cell (p := ⟨g1, 1, none⟩) nW1.out (fun hm => by have e := blkOf_one hm; dsimp only at e; omega))
  replace nW2 := Lib.hid (hk.cell (p := ⟨g1, 2, none⟩) nW2.out (fun hm => by have e := blkOf_one hm; dsimp only at e; omega))
  replace S1 := Lib.hid (S1.out.kept hk (fun hn y hy hm => by have e := blkOf_one hm; have h9 := f1.out hn y hy; omega))
  replace nX00 := Lib.hid (hk.cell (p := ⟨ww7.heap.size, 0, none⟩) nX00.out (fun hm => by have e := blkOf_one hm; dsimp only at e; omega))
  replace nX01 := Lib.hid (hk.cell (p := ⟨ww7.heap.size, 1, none⟩) nX01.out (fun hm => by have e := blkOf_one hm; dsimp only at e; omega))
  replace Sx1 := Lib.hid (Sx1.out.kept hk (fun hn y hy hm => by cases hy; have e := blkOf_one hm; dsimp only at e; omega))
  replace nX10 := Lib.hid (hk.cell (p := ⟨ww9.heap.size, 0, none⟩) nX10.out (fun hm => by have e := blkOf_one hm; dsimp only at e; omega))
  replace nX11 := Lib.hid (hk.cell (p := ⟨ww9.heap.size, 1, none⟩) nX11.out (fun hm => by have e := blkOf_one hm; dsimp only at e; omega))
  replace S2 := Lib.hid (S2.out.kept hk (fun hn y hy hm => by have e := blkOf_one hm; have h9 := F2.out hn y hy; omega))
  replace nG0 := Lib.hid (hk.cell (p := ⟨ww11.heap.size, 0, none⟩) nG0.out (fun hm => by have e := blkOf_one hm; dsimp only at e; omega))
  replace nG1 := Lib.hid (hk.cell (p := ⟨ww11.heap.size, 1, none⟩) nG1.out (fun hm => by have e := blkOf_one hm; dsimp only at e; omega))
  replace nG2 := Lib.hid (hk.cell (p := ⟨ww11.heap.size, 2, none⟩) nG2.out (fun hm => by have e := blkOf_one hm; dsimp only at e; omega))
  replace KT := Lib.hid (KT.out.trans hk (fun hx0 hx hlt => by have e := blkOf_one hx; omega))
  clear hk
  have tX10 := nX10.out
  have tX11 := nX11.out
  go_wp2_with fail
  clear tX10 tX11
  refine (markBig_any _ _ _ _ _ (1 + (n : Int)) _ Sx1.out (by omega) (by omega)).mono ?_
  rintro e ww19 ⟨rfl, hs, hk⟩
  clear hs
  have z19 := hk.size
  replace nA0 := Lib.hid (hk.cell (p := ⟨w.heap.size, 0, none⟩) nA0.out (fun hm => by have e := blkOf_one hm; dsimp only at e; omega))
  replace nA1 := Lib.hid (hk.cell (p := ⟨w.heap.size, 1, none⟩) nA1.out (fun hm => by have e := blkOf_one hm; dsimp only at e; omega))
  replace nB0 := Lib.hid (hk.cell (p := ⟨w.heap.size + 1, 0, none⟩) nB0.out (fun hm => by have e := blkOf_one hm; dsimp only at e; omega))
  replace nB1 := Lib.hid (hk.cell (p := ⟨w.heap.size + 1, 1, none⟩) nB1.out (fun hm => by have e := blkOf_one hm; dsimp only at e; omega))
  replace HRA := Lib.hid (HRA.out.kept hk (fun hn y hy hm => by have e := blkOf_one hm; have h9 := FRA.out hn y hy; omega))
  replace HRB := Lib.hid (HRB.out.kept hk (fun hn y hy hm => by have e := blkOf_one hm; have h9 := FRB.out hn y hy; omega))
  replace nW0 := Lib.hid (hk.cell (p := ⟨g1, 0, none⟩) nW0.out (fun hm => by have e := blkOf_one hm; dsimp only at e; omega))
  replace nW1 := Lib.hid (hk.cell (p := ⟨g1, 1, none⟩) nW1.out (fun hm => by have e := blkOf_one hm; dsimp only at e; omega))
  replace nW2 := Lib.hid (hk.cell (p := ⟨g1, 2, none⟩) nW2.out (fun hm => by have e := blkOf_one hm; dsimp only at e; omega))
  replace S1 := Lib.hid (S1.out.kept hk (fun hn y hy hm => by have e := blkOf_one hm; have h9 := f1.out hn y hy; omega))
  replace nX00 := Lib.hid (hk.cell (p := ⟨ww7.heap.size, 0, none⟩) nX00.out (fun hm => by have e := blkOf_one hm; dsimp only at e; omega))
  replace nX01 := Lib.hid (hk.cell (p := ⟨ww7.heap.size, 1, none⟩) nX01.out (fun hm => by have e := blkOf_one hm; dsimp only at e; omega))
  replace nX10 := Lib.hid (hk.cell (p := ⟨ww9.heap.size, 0, none⟩) nX10.out (fun hm => by have e := blkOf_one hm; dsimp only at e; omega))
  replace nX11 := Lib.hid (hk.cell (p := ⟨ww9.heap.size, 1, none⟩) nX11.out (fun hm => by have e := blkOf_one hm; dsimp only at e; omega))
  replace S2 := Lib.hid (S2.out.kept hk (fun hn y hy hm => by have e := blkOf_one hm; have h9 := F2.out hn y hy; omega))
  replace nG0 := Lib.hid (hk.cell (p := ⟨ww11.heap.size, 0, none⟩) nG0.out (fun hm => by have e := blkOf_one hm; dsimp only at e; omega))
  replace nG1 := Lib.hid (hk.cell (p := ⟨ww11.heap.size, 1, none⟩) nG1.out (fun hm => by have e := blkOf_one hm; dsimp only at e; omega))
  replace nG2 := Lib.hid (hk.cell (p := ⟨ww11.heap.size, 2, none⟩) nG2.out (fun hm => by have e := blkOf_one hm; dsimp only at e; omega))
  replace KT := Lib.hid (KT.out.trans hk (fun hx0 hx hlt => by have e := blkOf_one hx; omega))
  clear hk
  have hneg : decide (1 + (n : Int) + (m : Int) < 0) = false := decide_eq_false (by omega)
  have hpos : (0 : Int) ≤ 1 + (n : Int) + (m : Int) := by omega
  have tG0 := nG0.out
  have tG1 := nG1.out
  have tG2 := nG2.out
  have tW0 := nW0.out
  have tW1 := nW1.out
  have tW2 := nW2.out
  go_wp2_with fail
  clear tG0 tG1 tG2 tW0 tW1 tW2
  refine (eqBigResult_yes _ _ _ _ _ _ _ _ _ S2.out.rd S1.out.rd).mono ?_
  rintro e ww20 ⟨rfl, hk⟩
  have z20 := hk.size
  replace nA0 := kc hk nA0
  replace nA1 := kc hk nA1
  replace nB0 := kc hk nB0
  replace nB1 := kc hk nB1
  replace HRA := Lib.hid (HRA.out.kept0 hk)
  replace HRB := Lib.hid (HRB.out.kept0 hk)
  replace nW0 := kc hk nW0
  replace nW1 := kc hk nW1
  replace nW2 := kc hk nW2
  replace S1 := Lib.hid (S1.out.kept0 hk)
  replace nX00 := kc hk nX00
  replace nX01 := kc hk nX01
  replace nX10 := kc hk nX10
  replace nX11 := kc hk nX11
  replace S2 := Lib.hid (S2.out.kept0 hk)
  replace nG0 := kc hk nG0
  replace nG1 := kc hk nG1
  replace nG2 := kc hk nG2
  replace KT := Lib.hid (KT.out.trans0 hk)
  clear hk
  have tG0 := nG0.out
  have tG1 := nG1.out
  have tG2 := nG2.out
  go_wp2_with fail
  clear tG0 tG1 tG2
  refine (markBigResult_any _ _ _ _ _ _ 1 _ S2.out (Nat.le_trans HZ.out (by omega)) (by omega)).mono ?_
  rintro e ww21 ⟨rfl, hs, hk⟩
  have SM := Lib.hid hs
  clear hs
  have z21 := hk.size
  replace nA0 := Lib.hid (hk.cell (p := ⟨w.heap.size, 0, none⟩) nA0.out (fun hm => by obtain ⟨hn2, u, hu, e⟩ := blkOf_mem hm; have h9 := F2.out hn2 u hu; have h8 := f2.out hn2 u hu; simp at e; omega))
  replace nA1 := Lib.hid (hk.cell (p := ⟨w.heap.size, 1, none⟩) nA1.out (fun hm => by obtain ⟨hn2, u, hu, e⟩ := blkOf_mem hm; have h9 := F2.out hn2 u hu; have h8 := f2.out hn2 u hu; simp at e; omega))
  replace nB0 := Lib.hid (hk.cell (p := ⟨w.heap.size + 1, 0, none⟩) nB0.out (fun hm => by obtain ⟨hn2, u, hu, e⟩ := blkOf_mem hm; have h9 := F2.out hn2 u hu; have h8 := f2.out hn2 u hu; simp at e; omega))
  replace nB1 := Lib.hid (hk.cell (p := ⟨w.heap.size + 1, 1, none⟩) nB1.out (fun hm => by obtain ⟨hn2, u, hu, e⟩ := blkOf_mem hm; have h9 := F2.out hn2 u hu; have h8 := f2.out hn2 u hu; simp at e; omega))
  replace HRA := Lib.hid (HRA.out.kept hk (fun hn y hy hm => by obtain ⟨hn2, u, hu, e⟩ := blkOf_mem hm; have h9 := F2.out hn2 u hu; have h8 := f2.out hn2 u hu; have := FRA.out hn y hy; omega))
  replace HRB := Lib.hid (HRB.out.kept hk (fun hn y hy hm => by obtain ⟨hn2, u, hu, e⟩ := blkOf_mem hm; have h9 := F2.out hn2 u hu; have h8 := f2.out hn2 u hu; have := FRB.out hn y hy; omega))
  replace nW0 := Lib.hid (hk.cell (p := ⟨g1, 0, none⟩) nW0.out (fun hm => by obtain ⟨hn2, u, hu, e⟩ := blkOf_mem hm; have h9 := F2.out hn2 u hu; have h8 := f2.out hn2 u hu; simp at e; omega))
  replace nW1 := Lib.hid (hk.cell (p := ⟨g1, 1, none⟩) nW1.out (fun hm => by obtain ⟨hn2, u, hu, e⟩ := blkOf_mem hm; have h9 := F2.out hn2 u hu; have h8 := f2.out hn2 u hu; simp at e; omega))
  replace nW2 := Lib.hid (hk.cell (p := ⟨g1, 2, none⟩) nW2.out (fun hm => by obtain ⟨hn2, u, hu, e⟩ := blkOf_mem hm; have h9 := F2.out hn2 u hu; have h8 := f2.out hn2 u hu; simp at e; omega))
  replace S1 := Lib.hid (S1.out.kept hk (fun hn y hy hm => by obtain ⟨hn2, u, hu, e⟩ := blkOf_mem hm; have h9 := F2.out hn2 u hu; have h8 := f2.out hn2 u hu; have := f1.out hn y hy; omega))
  replace nX00 := Lib.hid (hk.cell (p := ⟨ww7.heap.size, 0, none⟩) nX00.out (fun hm => by obtain ⟨hn2, u, hu, e⟩ := blkOf_mem hm; have h9 := F2.out hn2 u hu; have h8 := f2.out hn2 u hu; simp at e; omega))
  replace nX01 := Lib.hid (hk.cell (p := ⟨ww7.heap.size, 1, none⟩) nX01.out (fun hm => by obtain ⟨hn2, u, hu, e⟩ := blkOf_mem hm; have h9 := F2.out hn2 u hu; have h8 := f2.out hn2 u hu; simp at e; omega))
  replace nX10 := Lib.hid (hk.cell (p := ⟨ww9.heap.size, 0, none⟩) nX10.out (fun hm => by obtain ⟨hn2, u, hu, e⟩ := blkOf_mem hm; have h9 := F2.out hn2 u hu; have h8 := f2.out hn2 u hu; simp at e; omega))
  replace nX11 := Lib.hid (hk.cell (p := ⟨ww9.heap.size, 1, none⟩) nX11.out (fun hm => by obtain ⟨hn2, u, hu, e⟩ := blkOf_mem hm; have h9 := F2.out hn2 u hu; have h8 := f2.out hn2 u hu; simp at e; omega))
  replace nG0 := Lib.hid (hk.cell (p := ⟨ww11.heap.size, 0, none⟩) nG0.out (fun hm => by obtain ⟨hn2, u, hu, e⟩ := blkOf_mem hm; have h9 := F2.out hn2 u hu; have h8 := f2.out hn2 u hu; simp at e; omega))
  replace nG1 := Lib.hid (hk.cell (p := ⟨ww11.heap.size, 1, none⟩) nG1.out (fun hm => by obtain ⟨hn2, u, hu, e⟩ := blkOf_mem hm; have h9 := F2.out hn2 u hu; have h8 := f2.out hn2 u hu; simp at e; omega))
  replace nG2 := Lib.hid (hk.cell (p := ⟨ww11.heap.size, 2, none⟩) nG2.out (fun hm => by obtain ⟨hn2, u, hu, e⟩ := blkOf_mem hm; have h9 := F2.out hn2 u hu; have h8 := f2.out hn2 u hu; simp at e; omega))
  replace KT := Lib.hid (KT.out.trans hk (fun hx0 hx hlt => by obtain ⟨hn2, u, hu, e⟩ := blkOf_mem hx; have h9 := F2.out hn2 u hu; omega))
  clear hk
  have hqn : decide (1 + (zs.length : Int) < 0) = false := decide_eq_false (by omega)
  have hq0 : (0 : Int) ≤ 1 + (zs.length : Int) := by omega
  have tG0 := nG0.out
  have tG1 := nG1.out
  have tG2 := nG2.out
  go_wp2_with fail
  clear tG0 tG1 tG2
  refine (heldBigResult_any _ _ _ _ _ 1 _ SM.out.rd (Nat.le_trans HZ.out (by omega)) (by omega)).mono ?_
  rintro e ww22 ⟨rfl, hk⟩
  have z22 := hk.size
  replace nA0 := kc hk nA0
  replace nA1 := kc hk nA1
  replace nB0 := kc hk nB0
  replace nB1 := kc hk nB1
  replace HRA := Lib.hid (HRA.out.kept0 hk)
  replace HRB := Lib.hid (HRB.out.kept0 hk)
  replace nW0 := kc hk nW0
  replace nW1 := kc hk nW1
  replace nW2 := kc hk nW2
  replace S1 := Lib.hid (S1.out.kept0 hk)
  replace nX00 := kc hk nX00
  replace nX01 := kc hk nX01
  replace nX10 := kc hk nX10
  replace nX11 := kc hk nX11
  replace nG0 := kc hk nG0
  replace nG1 := kc hk nG1
  replace nG2 := kc hk nG2
  replace SM := Lib.hid (SM.out.kept0 hk)
  replace KT := Lib.hid (KT.out.trans0 hk)
  clear hk
  have tA0 := nA0.out
  have tA1 := nA1.out
  have tB0 := nB0.out
  have tB1 := nB1.out
  go_upto_region 31 with fail
  have hUs : w.heap.size + 2 ≤ ww22.heap.size := by omega
  go_cut [13] (fun s wx => Hid (BoxR ww22 (divB true p xs q ys) s wx))
  case first =>
    go_region_held3 (fun w' => w'.cell? ⟨w.heap.size, 0, none⟩ = some (.bool p) ∧ w'.cell? ⟨w.heap.size, 1, none⟩ = some (.slice a n c) ∧ w'.cell? ⟨w.heap.size + 1, 0, none⟩ = some (.bool q) ∧ w'.cell? ⟨w.heap.size + 1, 1, none⟩ = some (.slice b m d) ∧ Hid (Kept [] ww22 w'))
      ((go_split_ands; (try refine ⟨?_, ?_, ?_, ?_, ?_⟩) <;> with_reducible first | assumption | exact Lib.hid ((Kept.refl _ _).drew) | exact Lib.hid (((Kept.refl _ _).alloc _).drew) | exact drew_alloc_cell (by assumption) | exact drew_cell (by assumption) | exact Kept.allocH (by assumption) | exact alloc_cell (by assumption) | exact Kept.set3n (by assumption) (by (try simp only [World.size_alloc, World.size_drew] at *); omega) | exact cell_set3 (by assumption) (by (try simp only [World.size_alloc, World.size_drew] at *); (try dsimp only); omega) | exact Lib.hid (Kept.trans0 (Hid.out (by assumption)) (by assumption)) | exact Kept.cell (by assumption) (by assumption) (by simp)))
      (first
        | (go_at_call_of 37 (Value.agg #[Value.bool p, Value.slice a n c]); go_split_ands; refine (toBig_any _ _ _ _ _ _ (HRA.out.kept0 (Hid.out (by assumption))) (by omega)).mono ?_; rintro e v23 ⟨g0, rfl, q0, hb0, hk1⟩; rw [HLA.out]; have zk1 := hk1.size; (first | (obtain ⟨z0, y0, _⟩ := hk1.undrew.top (g := ww22.heap.size) rfl (by simp) 0 (v := .int .i64 0) rfl; obtain ⟨z1, y1, _⟩ := hk1.undrew.top (g := ww22.heap.size) rfl (by simp) 1 (v := .bool false) rfl; obtain ⟨z2, y2, _⟩ := hk1.undrew.top (g := ww22.heap.size) rfl (by simp) 2 (v := .slice none 0 0) rfl) | skip))
        | (go_at_call_of 37 (Value.agg #[Value.bool q, Value.slice b m d]); go_split_ands; refine (toBig_any _ _ _ _ _ _ (HRB.out.kept0 (Hid.out (by assumption))) (by omega)).mono ?_; rintro e v24 ⟨g1, rfl, q1, hb1, hk2⟩; rw [HLB.out]; have zk2 := hk2.size; have hb0 := hk2.blk (show Blk _ g0 xs by first | exact hb0 | exact hb0.alloc _) (by simp); (first | (obtain ⟨z0, y0, _⟩ := hk2.top (g := v23.heap.size) rfl (by simp) 0 (v := .int .i64 0) rfl; obtain ⟨z1, y1, _⟩ := hk2.top (g := v23.heap.size) rfl (by simp) 1 (v := .bool false) rfl; obtain ⟨z2, y2, _⟩ := hk2.top (g := v23.heap.size) rfl (by simp) 2 (v := .slice none 0 0) rfl) | (replace y0 := hk2.free' z0 y0 (by simp); replace y1 := hk2.free' z1 y1 (by simp); replace y2 := hk2.free' z2 y2 (by simp); replace z0 := hk2.cell z0 (by simp); replace z1 := hk2.cell z1 (by simp); replace z2 := hk2.cell z2 (by simp)) | skip))
        | (go_at_call 53; go_split_ands; refine (CeilDiv_any _ _ _ _ _ _ _ _ _ _ _ (sl_new (show Blk _ g0 xs by first | exact hb0 | exact hb0.alloc _) HLA.out (by omega)) (sl_new (show Blk _ g1 ys by first | exact hb1 | exact hb1.alloc _) HLB.out (by omega))).mono ?_; rintro e v25 ⟨a9, x9, rfl, hs, hf, hk3⟩; have zk3 := hk3.size; have scA0 : v25.cell? ⟨w.heap.size, 0, none⟩ = some (.bool p) := hk3.cell (by assumption) (by simp); have scA1 : v25.cell? ⟨w.heap.size, 1, none⟩ = some (.slice a n c) := hk3.cell (by assumption) (by simp); have scB0 : v25.cell? ⟨w.heap.size + 1, 0, none⟩ = some (.bool q) := hk3.cell (by assumption) (by simp); have scB1 : v25.cell? ⟨w.heap.size + 1, 1, none⟩ = some (.slice b m d) := hk3.cell (by assumption) (by simp); have sck := Lib.hid (Kept.trans0 (Hid.out (by assumption : Hid (Kept [] ww22 _))) hk3); (first | (obtain ⟨z0, y0, _⟩ := hk3.top (g := v24.heap.size) rfl (by simp) 0 (v := .int .i64 0) rfl; obtain ⟨z1, y1, _⟩ := hk3.top (g := v24.heap.size) rfl (by simp) 1 (v := .bool false) rfl; obtain ⟨z2, y2, _⟩ := hk3.top (g := v24.heap.size) rfl (by simp) 2 (v := .slice none 0 0) rfl) | (replace y0 := hk3.free' z0 y0 (by simp); replace y1 := hk3.free' z1 y1 (by simp); replace y2 := hk3.free' z2 y2 (by simp); replace z0 := hk3.cell z0 (by simp); replace z1 := hk3.cell z1 (by simp); replace z2 := hk3.cell z2 (by simp)) | skip)))
    all_goals
      try simp only [World.size_drew] at zk1
      try simp only [World.size_alloc] at zk1
      try simp only [World.size_alloc] at zk2
      try simp only [World.size_alloc] at zk3
      go_wp2_with fail
      go_meet
      first | (with_reducible refine Lib.hid (boxR_last ?_ hs hf sck); (try simp only [World.size_alloc]); omega) | (with_reducible refine Lib.hid (boxR_set ?_ ?_ hs hf z0 z1 z2 sck); omega; (try simp only [World.size_alloc]); omega)
  case rest =>
  have hc := hcut.out
  clear hcut
  clear tA0 tA1 tB0 tB1
  obtain ⟨g4, a4, x4, rfl, e0, e1, e2, hg4, hgl4, hs, hf, hk⟩ := hc
  obtain ⟨ww26, rfl⟩ : ∃ w' : World, w' = wc := ⟨_, rfl⟩
  (try rw [← HV.out] at e0)
  (try rw [← HV.out] at e1)
  (try rw [← HV.out] at e2)
  rw [← HV.out] at hs hf
  (try rw [← HV.out])
  (try simp only at e0)
  (try simp only at e1)
  (try simp only at e2)
  simp only at hs hf
  (try simp only)
  have S4 := Lib.hid hs
  have f4 := Lib.hid hs.lt
  have F4 := Lib.hid hf
  clear hs hf
  have z26 := hk.size
  replace nA0 := kc hk nA0
  replace nA1 := kc hk nA1
  replace nB0 := kc hk nB0
  replace nB1 := kc hk nB1
  replace HRA := Lib.hid (HRA.out.kept0 hk)
  replace HRB := Lib.hid (HRB.out.kept0 hk)
  replace nW0 := kc hk nW0
  replace nW1 := kc hk nW1
  replace nW2 := kc hk nW2
  replace S1 := Lib.hid (S1.out.kept0 hk)
  replace nX00 := kc hk nX00
  replace nX01 := kc hk nX01
  replace nX10 := kc hk nX10
  replace nX11 := kc hk nX11
  replace nG0 := kc hk nG0
  replace nG1 := kc hk nG1
  replace nG2 := kc hk nG2
  replace SM := Lib.hid (SM.out.kept0 hk)
  replace KT := Lib.hid (KT.out.trans0 hk)
  clear hk
  have nH0 := Lib.hid e0
  have nH1 := Lib.hid e1
  have nH2 := Lib.hid e2
  clear e0 e1 e2
  have tH0 := nH0.out
  have tH1 := nH1.out
  have tH2 := nH2.out
  have tW0 := nW0.out
  have tW1 := nW1.out
  have tW2 := nW2.out
  go_wp2_with fail
  clear tH0 tH1 tH2 tW0 tW1 tW2
  refine (eqBigResult_yes _ _ _ _ _ _ _ _ _ S4.out.rd S1.out.rd).mono ?_
  rintro e ww27 ⟨rfl, hk⟩
  have z27 := hk.size
  replace nA0 := kc hk nA0
  replace nA1 := kc hk nA1
  replace nB0 := kc hk nB0
  replace nB1 := kc hk nB1
  replace HRA := Lib.hid (HRA.out.kept0 hk)
  replace HRB := Lib.hid (HRB.out.kept0 hk)
  replace nW0 := kc hk nW0
  replace nW1 := kc hk nW1
  replace nW2 := kc hk nW2
  replace S1 := Lib.hid (S1.out.kept0 hk)
  replace nX00 := kc hk nX00
  replace nX01 := kc hk nX01
  replace nX10 := kc hk nX10
  replace nX11 := kc hk nX11
  replace nG0 := kc hk nG0
  replace nG1 := kc hk nG1
  replace nG2 := kc hk nG2
  replace SM := Lib.hid (SM.out.kept0 hk)
  replace nH0 := kc hk nH0
  replace nH1 := kc hk nH1
  replace nH2 := kc hk nH2
  replace S4 := Lib.hid (S4.out.kept0 hk)
  replace KT := Lib.hid (KT.out.trans0 hk)
  clear hk
  have tG0 := nG0.out
  have tG1 := nG1.out
  have tG2 := nG2.out
  go_wp2_with fail
  clear tG0 tG1 tG2
  refine (heldBigResult_any _ _ _ _ _ 1 _ SM.out.rd (Nat.le_trans HZ.out (by omega)) (by omega)).mono ?_
  rintro e ww28 ⟨rfl, hk⟩
  have z28 := hk.size
  replace nA0 := kc hk nA0
  replace nA1 := kc hk nA1
  replace nB0 := kc hk nB0
  replace nB1 := kc hk nB1
  replace HRA := Lib.hid (HRA.out.kept0 hk)
  replace HRB := Lib.hid (HRB.out.kept0 hk)
  replace nW0 := kc hk nW0
  replace nW1 := kc hk nW1
  replace nW2 := kc hk nW2
  replace S1 := Lib.hid (S1.out.kept0 hk)
  replace nX00 := kc hk nX00
  replace nX01 := kc hk nX01
  replace nX10 := kc hk nX10
  replace nX11 := kc hk nX11
  replace nG0 := kc hk nG0
  replace nG1 := kc hk nG1
  replace nG2 := kc hk nG2
  replace SM := Lib.hid (SM.out.kept0 hk)
  replace nH0 := kc hk nH0
  replace nH1 := kc hk nH1
  replace nH2 := kc hk nH2
  replace S4 := Lib.hid (S4.out.kept0 hk)
  replace KT := Lib.hid (KT.out.trans0 hk)
  clear hk
  go_wp2_with fail
  go_ret
  exact ⟨rfl, KT.out⟩

end Go.Proofs.Ytgplghjameiciaa
