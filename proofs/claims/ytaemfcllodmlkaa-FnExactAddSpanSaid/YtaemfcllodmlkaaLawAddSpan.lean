/-
  The walk of the law on AddSpan. No condition but that the arguments' limbs read as lists of numbers.
-/
import Derived.Deep.RegionHeld3
import Derived.Deep.DrawnRows
import Derived.Deep.DeepCutAuto
import Derived.Test.YtaemfcllodmlkaaJ3
import Derived.Test.YtaemfcllodmlkaaSpanH
import Derived.Test.YtaemfcllodmlkaaSpanI
namespace Go.Proofs.Ytaemfcllodmlkaa
open Go.RowKit
attribute [local go_sem ↓] Go.wp_at_zero Go.wp_at_succ

set_option maxHeartbeats 16000000 in
set_option maxRecDepth 100000 in
theorem FnExactAddSpan_walk (p : Bool) (a : Option Addr) (n c : Nat) (xs : List Int) (q : Bool) (b : Option Addr) (m d : Nat) (ys : List Int) (p' : Bool) (a' : Option Addr) (n' c' : Nat) (xs' : List Int) (q' : Bool) (b' : Option Addr) (m' d' : Nat) (ys' : List Int) (w : World) (hA : Rd w a n xs) (hB : Rd w b m ys) (hC : Rd w a' n' xs') (hD : Rd w b' m' ys') :
    Calls Try.prog 4 #[.agg #[.bool p, .slice a n c, .bool q, .slice b m d], .agg #[.bool p', .slice a' n' c', .bool q', .slice b' m' d']] w (Ans w (.bool true)) := by
  have hmaxA := hA.2.1
  have HRA := Lib.hid hA
  have HLA := Lib.hid hA.1
  have FRA := Lib.hid hA.lt
  clear hA
  have hmaxB := hB.2.1
  have HRB := Lib.hid hB
  have HLB := Lib.hid hB.1
  have FRB := Lib.hid hB.lt
  clear hB
  have hmaxC := hC.2.1
  have HRC := Lib.hid hC
  have HLC := Lib.hid hC.1
  have FRC := Lib.hid hC.lt
  clear hC
  have hmaxD := hD.2.1
  have HRD := Lib.hid hD
  have HLD := Lib.hid hD.1
  have FRD := Lib.hid hD.lt
  clear hD
  by_cases eb0 : (1048576 : Int) < (n : Int)
  · skip
    go_enter Try.func4, Try.ntmps4
    go_wp2_with fail
    generalize hW : ((w.alloc (.cells #[.bool p, .slice a n c, .bool q, .slice b m d] 26)).alloc (.cells #[.bool p', .slice a' n' c', .bool q', .slice b' m' d'] 26)) = ww0
    have hkk : Kept [] ((w.alloc (.cells #[.bool p, .slice a n c, .bool q, .slice b m d] 26)).alloc (.cells #[.bool p', .slice a' n' c', .bool q', .slice b' m' d'] 26)) ww0 := by rw [hW]; exact Kept.refl _ _
    have zzA : w.heap.size + 1 + 1 = ww0.heap.size := by rw [← hW]; simp
    obtain ⟨⟨nAX0, nAX1, nAX2, nAX3⟩, _⟩ := tp4 hkk.peel (g := w.heap.size) (by simp) (by simp)
    obtain ⟨⟨nAY0, nAY1, nAY2, nAY3⟩, _⟩ := tp4 hkk (g := w.heap.size + 1) (by simp) (by simp)
    have hk := hkk.peel.peel
    clear hkk hW
    have z0 := hk.size
    have KT := Lib.hid hk
    clear hk
    refine (szSpan_no1 _ _ _ _ _ _ _ _ _ _ eb0 (by omega) hmaxA).mono ?_
    rintro e ww1 ⟨rfl, hk⟩
    have z1 := hk.size
    replace nAX0 := kc hk nAX0
    replace nAX1 := kc hk nAX1
    replace nAX2 := kc hk nAX2
    replace nAX3 := kc hk nAX3
    replace nAY0 := kc hk nAY0
    replace nAY1 := kc hk nAY1
    replace nAY2 := kc hk nAY2
    replace nAY3 := kc hk nAY3
    replace KT := Lib.hid (KT.out.trans0 hk)
    clear hk
    go_wp2_with fail
    go_ret
    exact ⟨rfl, KT.out⟩
  replace eb0 : (n : Int) ≤ (1048576 : Int) := by omega
  by_cases eb1 : (1048576 : Int) - (n : Int) < (m : Int)
  · skip
    go_enter Try.func4, Try.ntmps4
    go_wp2_with fail
    generalize hW : ((w.alloc (.cells #[.bool p, .slice a n c, .bool q, .slice b m d] 26)).alloc (.cells #[.bool p', .slice a' n' c', .bool q', .slice b' m' d'] 26)) = ww0
    have hkk : Kept [] ((w.alloc (.cells #[.bool p, .slice a n c, .bool q, .slice b m d] 26)).alloc (.cells #[.bool p', .slice a' n' c', .bool q', .slice b' m' d'] 26)) ww0 := by rw [hW]; exact Kept.refl _ _
    have zzA : w.heap.size + 1 + 1 = ww0.heap.size := by rw [← hW]; simp
    obtain ⟨⟨nAX0, nAX1, nAX2, nAX3⟩, _⟩ := tp4 hkk.peel (g := w.heap.size) (by simp) (by simp)
    obtain ⟨⟨nAY0, nAY1, nAY2, nAY3⟩, _⟩ := tp4 hkk (g := w.heap.size + 1) (by simp) (by simp)
    have hk := hkk.peel.peel
    clear hkk hW
    have z0 := hk.size
    have KT := Lib.hid hk
    clear hk
    refine (szSpan_no2 _ _ _ _ _ _ _ _ _ _ eb0 eb1 (by omega) hmaxB).mono ?_
    rintro e ww1 ⟨rfl, hk⟩
    have z1 := hk.size
    replace nAX0 := kc hk nAX0
    replace nAX1 := kc hk nAX1
    replace nAX2 := kc hk nAX2
    replace nAX3 := kc hk nAX3
    replace nAY0 := kc hk nAY0
    replace nAY1 := kc hk nAY1
    replace nAY2 := kc hk nAY2
    replace nAY3 := kc hk nAY3
    replace KT := Lib.hid (KT.out.trans0 hk)
    clear hk
    go_wp2_with fail
    go_ret
    exact ⟨rfl, KT.out⟩
  replace eb1 : (m : Int) ≤ (1048576 : Int) - (n : Int) := by omega
  by_cases eb2 : (1048576 : Int) - (n : Int) - (m : Int) < (n' : Int)
  · skip
    have ng2 : decide ((1048576 : Int) - (n : Int) - (m : Int) < 0) = false := decide_eq_false (by omega)
    have np2 : (0 : Int) ≤ (1048576 : Int) - (n : Int) - (m : Int) := by omega
    go_enter Try.func4, Try.ntmps4
    go_wp2_with fail
    generalize hW : ((w.alloc (.cells #[.bool p, .slice a n c, .bool q, .slice b m d] 26)).alloc (.cells #[.bool p', .slice a' n' c', .bool q', .slice b' m' d'] 26)) = ww0
    have hkk : Kept [] ((w.alloc (.cells #[.bool p, .slice a n c, .bool q, .slice b m d] 26)).alloc (.cells #[.bool p', .slice a' n' c', .bool q', .slice b' m' d'] 26)) ww0 := by rw [hW]; exact Kept.refl _ _
    have zzA : w.heap.size + 1 + 1 = ww0.heap.size := by rw [← hW]; simp
    obtain ⟨⟨nAX0, nAX1, nAX2, nAX3⟩, _⟩ := tp4 hkk.peel (g := w.heap.size) (by simp) (by simp)
    obtain ⟨⟨nAY0, nAY1, nAY2, nAY3⟩, _⟩ := tp4 hkk (g := w.heap.size + 1) (by simp) (by simp)
    have hk := hkk.peel.peel
    clear hkk hW
    have z0 := hk.size
    have KT := Lib.hid hk
    clear hk
    refine (szSpan_yes _ _ _ _ _ _ _ _ _ _ eb0 eb1 (by omega)).mono ?_
    rintro e ww1 ⟨rfl, hk⟩
    have z1 := hk.size
    replace nAX0 := kc hk nAX0
    replace nAX1 := kc hk nAX1
    replace nAX2 := kc hk nAX2
    replace nAX3 := kc hk nAX3
    replace nAY0 := kc hk nAY0
    replace nAY1 := kc hk nAY1
    replace nAY2 := kc hk nAY2
    replace nAY3 := kc hk nAY3
    replace KT := Lib.hid (KT.out.trans0 hk)
    clear hk
    have tAY0 := nAY0.out
    have tAY1 := nAY1.out
    have tAY2 := nAY2.out
    have tAY3 := nAY3.out
    go_wp2_with fail
    clear tAY0 tAY1 tAY2 tAY3
    refine (szSpan_no1 _ _ _ _ _ _ _ _ _ _ eb2 (by omega) hmaxC).mono ?_
    rintro e ww2 ⟨rfl, hk⟩
    have z2 := hk.size
    replace nAX0 := kc hk nAX0
    replace nAX1 := kc hk nAX1
    replace nAX2 := kc hk nAX2
    replace nAX3 := kc hk nAX3
    replace nAY0 := kc hk nAY0
    replace nAY1 := kc hk nAY1
    replace nAY2 := kc hk nAY2
    replace nAY3 := kc hk nAY3
    replace KT := Lib.hid (KT.out.trans0 hk)
    clear hk
    go_wp2_with fail
    go_ret
    exact ⟨rfl, KT.out⟩
  replace eb2 : (n' : Int) ≤ (1048576 : Int) - (n : Int) - (m : Int) := by omega
  by_cases eb3 : (1048576 : Int) - (n : Int) - (m : Int) - (n' : Int) < (m' : Int)
  · skip
    have ng2 : decide ((1048576 : Int) - (n : Int) - (m : Int) < 0) = false := decide_eq_false (by omega)
    have np2 : (0 : Int) ≤ (1048576 : Int) - (n : Int) - (m : Int) := by omega
    go_enter Try.func4, Try.ntmps4
    go_wp2_with fail
    generalize hW : ((w.alloc (.cells #[.bool p, .slice a n c, .bool q, .slice b m d] 26)).alloc (.cells #[.bool p', .slice a' n' c', .bool q', .slice b' m' d'] 26)) = ww0
    have hkk : Kept [] ((w.alloc (.cells #[.bool p, .slice a n c, .bool q, .slice b m d] 26)).alloc (.cells #[.bool p', .slice a' n' c', .bool q', .slice b' m' d'] 26)) ww0 := by rw [hW]; exact Kept.refl _ _
    have zzA : w.heap.size + 1 + 1 = ww0.heap.size := by rw [← hW]; simp
    obtain ⟨⟨nAX0, nAX1, nAX2, nAX3⟩, _⟩ := tp4 hkk.peel (g := w.heap.size) (by simp) (by simp)
    obtain ⟨⟨nAY0, nAY1, nAY2, nAY3⟩, _⟩ := tp4 hkk (g := w.heap.size + 1) (by simp) (by simp)
    have hk := hkk.peel.peel
    clear hkk hW
    have z0 := hk.size
    have KT := Lib.hid hk
    clear hk
    refine (szSpan_yes _ _ _ _ _ _ _ _ _ _ eb0 eb1 (by omega)).mono ?_
    rintro e ww1 ⟨rfl, hk⟩
    have z1 := hk.size
    replace nAX0 := kc hk nAX0
    replace nAX1 := kc hk nAX1
    replace nAX2 := kc hk nAX2
    replace nAX3 := kc hk nAX3
    replace nAY0 := kc hk nAY0
    replace nAY1 := kc hk nAY1
    replace nAY2 := kc hk nAY2
    replace nAY3 := kc hk nAY3
    replace KT := Lib.hid (KT.out.trans0 hk)
    clear hk
    have tAY0 := nAY0.out
    have tAY1 := nAY1.out
    have tAY2 := nAY2.out
    have tAY3 := nAY3.out
    go_wp2_with fail
    clear tAY0 tAY1 tAY2 tAY3
    refine (szSpan_no2 _ _ _ _ _ _ _ _ _ _ eb2 eb3 (by omega) hmaxD).mono ?_
    rintro e ww2 ⟨rfl, hk⟩
    have z2 := hk.size
    replace nAX0 := kc hk nAX0
    replace nAX1 := kc hk nAX1
    replace nAX2 := kc hk nAX2
    replace nAX3 := kc hk nAX3
    replace nAY0 := kc hk nAY0
    replace nAY1 := kc hk nAY1
    replace nAY2 := kc hk nAY2
    replace nAY3 := kc hk nAY3
    replace KT := Lib.hid (KT.out.trans0 hk)
    clear hk
    go_wp2_with fail
    go_ret
    exact ⟨rfl, KT.out⟩
  replace eb3 : (m' : Int) ≤ (1048576 : Int) - (n : Int) - (m : Int) - (n' : Int) := by omega
  have ng2 : decide ((1048576 : Int) - (n : Int) - (m : Int) < 0) = false := decide_eq_false (by omega)
  have np2 : (0 : Int) ≤ (1048576 : Int) - (n : Int) - (m : Int) := by omega
  have ng4 : decide ((1048576 : Int) - (n : Int) - (m : Int) - (n' : Int) - (m' : Int) < 0) = false := decide_eq_false (by omega)
  have np4 : (0 : Int) ≤ (1048576 : Int) - (n : Int) - (m : Int) - (n' : Int) - (m' : Int) := by omega
  have hsmA : n ≤ 1048576 := by omega
  have hsmB : m ≤ 1048576 := by omega
  have hsmC : n' ≤ 1048576 := by omega
  have hsmD : m' ≤ 1048576 := by omega
  have HZ := Lib.hid (show Short (addS p xs q ys p' xs' q' ys') from addS_short _ _ _ _ _ _ _ _)
  go_enter Try.func4, Try.ntmps4
  go_wp2_with fail
  generalize hW : ((w.alloc (.cells #[.bool p, .slice a n c, .bool q, .slice b m d] 26)).alloc (.cells #[.bool p', .slice a' n' c', .bool q', .slice b' m' d'] 26)) = ww0
  have hkk : Kept [] ((w.alloc (.cells #[.bool p, .slice a n c, .bool q, .slice b m d] 26)).alloc (.cells #[.bool p', .slice a' n' c', .bool q', .slice b' m' d'] 26)) ww0 := by rw [hW]; exact Kept.refl _ _
  have zzA : w.heap.size + 1 + 1 = ww0.heap.size := by rw [← hW]; simp
  obtain ⟨⟨nAX0, nAX1, nAX2, nAX3⟩, _⟩ := tp4 hkk.peel (g := w.heap.size) (by simp) (by simp)
  obtain ⟨⟨nAY0, nAY1, nAY2, nAY3⟩, _⟩ := tp4 hkk (g := w.heap.size + 1) (by simp) (by simp)
  have hk := hkk.peel.peel
  clear hkk hW
  have z0 := hk.size
  have KT := Lib.hid hk
  clear hk
  replace HRA := Lib.hid (HRA.out.kept0 KT.out)
  replace HRB := Lib.hid (HRB.out.kept0 KT.out)
  replace HRC := Lib.hid (HRC.out.kept0 KT.out)
  replace HRD := Lib.hid (HRD.out.kept0 KT.out)
  refine (szSpan_yes _ _ _ _ _ _ _ _ _ _ eb0 eb1 (by omega)).mono ?_
  rintro e ww1 ⟨rfl, hk⟩
  have z1 := hk.size
  replace nAX0 := kc hk nAX0
  replace nAX1 := kc hk nAX1
  replace nAX2 := kc hk nAX2
  replace nAX3 := kc hk nAX3
  replace nAY0 := kc hk nAY0
  replace nAY1 := kc hk nAY1
  replace nAY2 := kc hk nAY2
  replace nAY3 := kc hk nAY3
  replace HRA := Lib.hid (HRA.out.kept0 hk)
  replace HRB := Lib.hid (HRB.out.kept0 hk)
  replace HRC := Lib.hid (HRC.out.kept0 hk)
  replace HRD := Lib.hid (HRD.out.kept0 hk)
  replace KT := Lib.hid (KT.out.trans0 hk)
  clear hk
  have tAY0 := nAY0.out
  have tAY1 := nAY1.out
  have tAY2 := nAY2.out
  have tAY3 := nAY3.out
  go_wp2_with fail
  clear tAY0 tAY1 tAY2 tAY3
  refine (szSpan_yes _ _ _ _ _ _ _ _ _ _ eb2 eb3 (by omega)).mono ?_
  rintro e ww2 ⟨rfl, hk⟩
  have z2 := hk.size
  replace nAX0 := kc hk nAX0
  replace nAX1 := kc hk nAX1
  replace nAX2 := kc hk nAX2
  replace nAX3 := kc hk nAX3
  replace nAY0 := kc hk nAY0
  replace nAY1 := kc hk nAY1
  replace nAY2 := kc hk nAY2
  replace nAY3 := kc hk nAY3
  replace HRA := Lib.hid (HRA.out.kept0 hk)
  replace HRB := Lib.hid (HRB.out.kept0 hk)
  replace HRC := Lib.hid (HRC.out.kept0 hk)
  replace HRD := Lib.hid (HRD.out.kept0 hk)
  replace KT := Lib.hid (KT.out.trans0 hk)
  clear hk
  have tAX0 := nAX0.out
  have tAX1 := nAX1.out
  have tAX2 := nAX2.out
  have tAX3 := nAX3.out
  have tAY0 := nAY0.out
  have tAY1 := nAY1.out
  have tAY2 := nAY2.out
  have tAY3 := nAY3.out
  go_wp2_with fail
  clear tAX0 tAX1 tAX2 tAX3 tAY0 tAY1 tAY2 tAY3
  have tAX0 := nAX0.out
  have tAX1 := nAX1.out
  have tAX2 := nAX2.out
  have tAX3 := nAX3.out
  have tAY0 := nAY0.out
  have tAY1 := nAY1.out
  have tAY2 := nAY2.out
  have tAY3 := nAY3.out
  go_upto_region 8 with fail
  have hUs : w.heap.size + 2 ≤ ww2.heap.size := by omega
  go_cut [6] (fun s wx => Hid (BoxSm ww2 (addS p xs q ys p' xs' q' ys') s wx))
  case first =>
    go_region_held3 (fun w' => w'.cell? ⟨w.heap.size, 0, none⟩ = some (.bool p) ∧ w'.cell? ⟨w.heap.size, 1, none⟩ = some (.slice a n c) ∧ w'.cell? ⟨w.heap.size, 2, none⟩ = some (.bool q) ∧ w'.cell? ⟨w.heap.size, 3, none⟩ = some (.slice b m d) ∧ w'.cell? ⟨w.heap.size + 1, 0, none⟩ = some (.bool p') ∧ w'.cell? ⟨w.heap.size + 1, 1, none⟩ = some (.slice a' n' c') ∧ w'.cell? ⟨w.heap.size + 1, 2, none⟩ = some (.bool q') ∧ w'.cell? ⟨w.heap.size + 1, 3, none⟩ = some (.slice b' m' d') ∧ Hid (Kept [] ww2 w'))
      ((go_split_ands; (try refine ⟨?_, ?_, ?_, ?_, ?_, ?_, ?_, ?_, ?_⟩) <;> with_reducible first | assumption | exact Kept.set5n (by assumption) (by omega) | exact cell_set5 (by assumption) (by (try dsimp only); omega) | exact drew_alloc_cell (by assumption) | exact drew_cell (by assumption) | exact Kept.allocH (by assumption) | exact alloc_cell (by assumption) | exact Lib.hid (Kept.trans0 (Hid.out (by assumption)) (by assumption)) | exact Kept.cell (by assumption) (by assumption) (by simp) | exact Lib.hid ((Kept.refl _ _).drew) | exact Lib.hid (((Kept.refl _ _).alloc _).drew)))
      (first
        | (go_at_call_of 11 (Value.agg #[Value.bool p, Value.slice a n c, Value.bool q, Value.slice b m d]); go_split_ands; refine (toSpan_any _ _ _ _ _ _ _ _ _ _ _ (HRA.out.kept0 (Hid.out (by assumption))) (HRB.out.kept0 (Hid.out (by assumption))) (by omega) (by omega)).mono ?_; rintro e v3 ⟨gr10a, gr10b, rfl, qr10, or10, hb00, hb01, hk1⟩; rw [HLA.out]; rw [HLB.out]; have zk1 := hk1.size; (try simp only [World.size_drew, World.size_alloc] at zk1); (first | (obtain ⟨z0_, y0_, _⟩ := hk1.undrew.top (g := ww2.heap.size) rfl (by simp) 0 (v := .int .i64 0) rfl; obtain ⟨z1_, y1_, _⟩ := hk1.undrew.top (g := ww2.heap.size) rfl (by simp) 1 (v := .bool false) rfl; obtain ⟨z2_, y2_, _⟩ := hk1.undrew.top (g := ww2.heap.size) rfl (by simp) 2 (v := .slice none 0 0) rfl; obtain ⟨z3_, y3_, _⟩ := hk1.undrew.top (g := ww2.heap.size) rfl (by simp) 3 (v := .bool false) rfl; obtain ⟨z4_, y4_, _⟩ := hk1.undrew.top (g := ww2.heap.size) rfl (by simp) 4 (v := .slice none 0 0) rfl) | skip))
        | (go_at_call_of 11 (Value.agg #[Value.bool p', Value.slice a' n' c', Value.bool q', Value.slice b' m' d']); go_split_ands; refine (toSpan_any _ _ _ _ _ _ _ _ _ _ _ (HRC.out.kept0 (Hid.out (by assumption))) (HRD.out.kept0 (Hid.out (by assumption))) (by omega) (by omega)).mono ?_; rintro e v4 ⟨gr11a, gr11b, rfl, qr11, or11, hb10, hb11, hk2⟩; rw [HLC.out]; rw [HLD.out]; have zk2 := hk2.size; (try simp only [World.size_alloc] at zk2); have hb00 := hk2.blk (show Blk _ gr10a xs by first | exact hb00 | exact hb00.alloc _) (by simp); have hb01 := hk2.blk (show Blk _ gr10b ys by first | exact hb01 | exact hb01.alloc _) (by simp); (first | (obtain ⟨z0_, y0_, _⟩ := hk2.top (g := v3.heap.size) rfl (by simp) 0 (v := .int .i64 0) rfl; obtain ⟨z1_, y1_, _⟩ := hk2.top (g := v3.heap.size) rfl (by simp) 1 (v := .bool false) rfl; obtain ⟨z2_, y2_, _⟩ := hk2.top (g := v3.heap.size) rfl (by simp) 2 (v := .slice none 0 0) rfl; obtain ⟨z3_, y3_, _⟩ := hk2.top (g := v3.heap.size) rfl (by simp) 3 (v := .bool false) rfl; obtain ⟨z4_, y4_, _⟩ := hk2.top (g := v3.heap.size) rfl (by simp) 4 (v := .slice none 0 0) rfl) | (replace y0_ := hk2.free' z0_ y0_ (by simp); replace y1_ := hk2.free' z1_ y1_ (by simp); replace y2_ := hk2.free' z2_ y2_ (by simp); replace y3_ := hk2.free' z3_ y3_ (by simp); replace y4_ := hk2.free' z4_ y4_ (by simp); replace z0_ := hk2.cell z0_ (by simp); replace z1_ := hk2.cell z1_ (by simp); replace z2_ := hk2.cell z2_ (by simp); replace z3_ := hk2.cell z3_ (by simp); replace z4_ := hk2.cell z4_ (by simp)) | skip))
        | (go_at_call 14; go_split_ands; refine (sAddSpan_any _ _ _ _ _ _ _ _ _ _ _ _ _ _ _ _ _ _ _ _ _ (sl_new (show Blk _ gr10a xs by first | exact hb00 | exact hb00.alloc _) HLA.out (by omega)) (sl_new (show Blk _ gr10b ys by first | exact hb01 | exact hb01.alloc _) HLB.out (by omega)) (sl_new (show Blk _ gr11a xs' by first | exact hb10 | exact hb10.alloc _) HLC.out (by omega)) (sl_new (show Blk _ gr11b ys' by first | exact hb11 | exact hb11.alloc _) HLD.out (by omega))).mono ?_; rintro e v5 ⟨a9, c9, b9, d9, rfl, hs, hs', hf, hf', hk3⟩; have zk3 := hk3.size; (try simp only [World.size_alloc] at zk3); have sc0 : v5.cell? ⟨w.heap.size, 0, none⟩ = some (.bool p) := hk3.cell (by assumption) (by simp); have sc1 : v5.cell? ⟨w.heap.size, 1, none⟩ = some (.slice a n c) := hk3.cell (by assumption) (by simp); have sc2 : v5.cell? ⟨w.heap.size, 2, none⟩ = some (.bool q) := hk3.cell (by assumption) (by simp); have sc3 : v5.cell? ⟨w.heap.size, 3, none⟩ = some (.slice b m d) := hk3.cell (by assumption) (by simp); have sc4 : v5.cell? ⟨w.heap.size + 1, 0, none⟩ = some (.bool p') := hk3.cell (by assumption) (by simp); have sc5 : v5.cell? ⟨w.heap.size + 1, 1, none⟩ = some (.slice a' n' c') := hk3.cell (by assumption) (by simp); have sc6 : v5.cell? ⟨w.heap.size + 1, 2, none⟩ = some (.bool q') := hk3.cell (by assumption) (by simp); have sc7 : v5.cell? ⟨w.heap.size + 1, 3, none⟩ = some (.slice b' m' d') := hk3.cell (by assumption) (by simp); have sck := Lib.hid (Kept.trans0 (Hid.out (by assumption : Hid (Kept [] ww2 _))) hk3); (first | (obtain ⟨z0_, y0_, _⟩ := hk3.top (g := v4.heap.size) rfl (by simp) 0 (v := .int .i64 0) rfl; obtain ⟨z1_, y1_, _⟩ := hk3.top (g := v4.heap.size) rfl (by simp) 1 (v := .bool false) rfl; obtain ⟨z2_, y2_, _⟩ := hk3.top (g := v4.heap.size) rfl (by simp) 2 (v := .slice none 0 0) rfl; obtain ⟨z3_, y3_, _⟩ := hk3.top (g := v4.heap.size) rfl (by simp) 3 (v := .bool false) rfl; obtain ⟨z4_, y4_, _⟩ := hk3.top (g := v4.heap.size) rfl (by simp) 4 (v := .slice none 0 0) rfl) | (replace y0_ := hk3.free' z0_ y0_ (by simp); replace y1_ := hk3.free' z1_ y1_ (by simp); replace y2_ := hk3.free' z2_ y2_ (by simp); replace y3_ := hk3.free' z3_ y3_ (by simp); replace y4_ := hk3.free' z4_ y4_ (by simp); replace z0_ := hk3.cell z0_ (by simp); replace z1_ := hk3.cell z1_ (by simp); replace z2_ := hk3.cell z2_ (by simp); replace z3_ := hk3.cell z3_ (by simp); replace z4_ := hk3.cell z4_ (by simp)) | skip)))
    all_goals
      go_wp2_with fail
      go_meet
      first | (with_reducible refine Lib.hid (boxSm_last ?_ hs hs' hf hf' sck); (try simp only [World.size_alloc]); omega) | (with_reducible refine Lib.hid (boxSm_set ?_ ?_ hs hs' hf hf' z0_ z1_ z2_ z3_ z4_ sck); omega; (try simp only [World.size_alloc]); omega)
  case rest =>
  have hc := hcut.out
  clear hcut
  clear tAX0 tAX1 tAX2 tAX3 tAY0 tAY1 tAY2 tAY3
  obtain ⟨g1, a1, c1, b1, d1, rfl, e0, e1, e2, e3, e4, hg1, hgl1, hs, hs', hf, hf', hk⟩ := hc
  obtain ⟨ww6, rfl⟩ : ∃ w' : World, w' = wc := ⟨_, rfl⟩
  obtain ⟨rv, hv⟩ : ∃ r : SV, r = addS p xs q ys p' xs' q' ys' := ⟨_, rfl⟩
  (try rw [← hv] at e0 e1 e2 e3 e4)
  rw [← hv] at hs hs' hf hf'
  (try rw [← hv])
  rw [← hv] at HZ
  have HV := Lib.hid hv
  clear hv
  have S1a := Lib.hid hs
  have S1b := Lib.hid hs'
  have f1a := Lib.hid hs.lt
  have f1b := Lib.hid hs'.lt
  have F1a := Lib.hid hf
  have F1b := Lib.hid hf'
  clear hs hs' hf hf'
  have hz1 := HZ.out.1
  have hz2 := HZ.out.2
  have z6 := hk.size
  replace nAX0 := kc hk nAX0
  replace nAX1 := kc hk nAX1
  replace nAX2 := kc hk nAX2
  replace nAX3 := kc hk nAX3
  replace nAY0 := kc hk nAY0
  replace nAY1 := kc hk nAY1
  replace nAY2 := kc hk nAY2
  replace nAY3 := kc hk nAY3
  replace HRA := Lib.hid (HRA.out.kept0 hk)
  replace HRB := Lib.hid (HRB.out.kept0 hk)
  replace HRC := Lib.hid (HRC.out.kept0 hk)
  replace HRD := Lib.hid (HRD.out.kept0 hk)
  replace KT := Lib.hid (KT.out.trans0 hk)
  clear hk
  have nW0 := Lib.hid e0
  have nW1 := Lib.hid e1
  have nW2 := Lib.hid e2
  have nW3 := Lib.hid e3
  have nW4 := Lib.hid e4
  clear e0 e1 e2 e3 e4
  have tAX0 := nAX0.out
  have tAX1 := nAX1.out
  have tAX2 := nAX2.out
  have tAX3 := nAX3.out
  have tAY0 := nAY0.out
  have tAY1 := nAY1.out
  have tAY2 := nAY2.out
  have tAY3 := nAY3.out
  go_wp2_with fail
  clear tAX0 tAX1 tAX2 tAX3 tAY0 tAY1 tAY2 tAY3
  refine (toSpan_any _ _ _ _ _ _ _ _ _ _ _ HRA.out HRB.out (by omega) (by omega)).mono ?_
  rintro e ww7 ⟨gx0a, gx0b, rfl, qx0, ox0, hb0, hb1, hk⟩
  rw [HLA.out]
  rw [HLB.out]
  have lx0a := hb0.lt
  have Sx0a := Lib.hid (sl_new hb0 HLA.out (by omega))
  have lx0b := hb1.lt
  have Sx0b := Lib.hid (sl_new hb1 HLB.out (by omega))
  clear hb0 hb1
  have z7 := hk.size
  replace nAX0 := kc hk nAX0
  replace nAX1 := kc hk nAX1
  replace nAX2 := kc hk nAX2
  replace nAX3 := kc hk nAX3
  replace nAY0 := kc hk nAY0
  replace nAY1 := kc hk nAY1
  replace nAY2 := kc hk nAY2
  replace nAY3 := kc hk nAY3
  replace HRA := Lib.hid (HRA.out.kept0 hk)
  replace HRB := Lib.hid (HRB.out.kept0 hk)
  replace HRC := Lib.hid (HRC.out.kept0 hk)
  replace HRD := Lib.hid (HRD.out.kept0 hk)
  replace nW0 := kc hk nW0
  replace nW1 := kc hk nW1
  replace nW2 := kc hk nW2
  replace nW3 := kc hk nW3
  replace nW4 := kc hk nW4
  replace S1a := Lib.hid (S1a.out.kept0 hk)
  replace S1b := Lib.hid (S1b.out.kept0 hk)
  replace KT := Lib.hid (KT.out.trans0 hk)
  clear hk
  have tAY0 := alloc_cell (o := .cells #[.bool p, .slice (some ⟨gx0a, 0, none⟩) n n, .bool q, .slice (some ⟨gx0b, 0, none⟩) m m] 31) nAY0.out
  have tAY1 := alloc_cell (o := .cells #[.bool p, .slice (some ⟨gx0a, 0, none⟩) n n, .bool q, .slice (some ⟨gx0b, 0, none⟩) m m] 31) nAY1.out
  have tAY2 := alloc_cell (o := .cells #[.bool p, .slice (some ⟨gx0a, 0, none⟩) n n, .bool q, .slice (some ⟨gx0b, 0, none⟩) m m] 31) nAY2.out
  have tAY3 := alloc_cell (o := .cells #[.bool p, .slice (some ⟨gx0a, 0, none⟩) n n, .bool q, .slice (some ⟨gx0b, 0, none⟩) m m] 31) nAY3.out
  go_wp2_with fail
  clear tAY0 tAY1 tAY2 tAY3
  generalize hW : (ww7.alloc (.cells #[.bool p, .slice (some ⟨gx0a, 0, none⟩) n n, .bool q, .slice (some ⟨gx0b, 0, none⟩) m m] 31)) = ww8
  have hk : Kept [] ww7 ww8 := by rw [← hW]; exact (Kept.refl [] _).alloc _
  have zzX0 : ww7.heap.size + 1 = ww8.heap.size := by rw [← hW]; simp
  have nX00 := Lib.hid (show ww8.cell? ⟨ww7.heap.size, 0, none⟩ = some (.bool p) by rw [← hW, World.cell?_alloc_new]; rfl)
  have nX01 := Lib.hid (show ww8.cell? ⟨ww7.heap.size, 1, none⟩ = some (.slice (some ⟨gx0a, 0, none⟩) n n) by rw [← hW, World.cell?_alloc_new]; rfl)
  have nX02 := Lib.hid (show ww8.cell? ⟨ww7.heap.size, 2, none⟩ = some (.bool q) by rw [← hW, World.cell?_alloc_new]; rfl)
  have nX03 := Lib.hid (show ww8.cell? ⟨ww7.heap.size, 3, none⟩ = some (.slice (some ⟨gx0b, 0, none⟩) m m) by rw [← hW, World.cell?_alloc_new]; rfl)
  clear hW
  have z8 := hk.size
  replace nAX0 := kc hk nAX0
  replace nAX1 := kc hk nAX1
  replace nAX2 := kc hk nAX2
  replace nAX3 := kc hk nAX3
  replace nAY0 := kc hk nAY0
  replace nAY1 := kc hk nAY1
  replace nAY2 := kc hk nAY2
  replace nAY3 := kc hk nAY3
  replace HRA := Lib.hid (HRA.out.kept0 hk)
  replace HRB := Lib.hid (HRB.out.kept0 hk)
  replace HRC := Lib.hid (HRC.out.kept0 hk)
  replace HRD := Lib.hid (HRD.out.kept0 hk)
  replace nW0 := kc hk nW0
  replace nW1 := kc hk nW1
  replace nW2 := kc hk nW2
  replace nW3 := kc hk nW3
  replace nW4 := kc hk nW4
  replace S1a := Lib.hid (S1a.out.kept0 hk)
  replace S1b := Lib.hid (S1b.out.kept0 hk)
  replace Sx0a := Lib.hid (Sx0a.out.kept0 hk)
  replace Sx0b := Lib.hid (Sx0b.out.kept0 hk)
  replace KT := Lib.hid (KT.out.trans0 hk)
  clear hk
  refine (toSpan_any _ _ _ _ _ _ _ _ _ _ _ HRC.out HRD.out (by omega) (by omega)).mono ?_
  rintro e ww9 ⟨gx1a, gx1b, rfl, qx1, ox1, hb0, hb1, hk⟩
  rw [HLC.out]
  rw [HLD.out]
  have lx1a := hb0.lt
  have Sx1a := Lib.hid (sl_new hb0 HLC.out (by omega))
  have lx1b := hb1.lt
  have Sx1b := Lib.hid (sl_new hb1 HLD.out (by omega))
  clear hb0 hb1
  have z9 := hk.size
  replace nAX0 := kc hk nAX0
  replace nAX1 := kc hk nAX1
  replace nAX2 := kc hk nAX2
  replace nAX3 := kc hk nAX3
  replace nAY0 := kc hk nAY0
  replace nAY1 := kc hk nAY1
  replace nAY2 := kc hk nAY2
  replace nAY3 := kc hk nAY3
  replace HRA := Lib.hid (HRA.out.kept0 hk)
  replace HRB := Lib.hid (HRB.out.kept0 hk)
  replace HRC := Lib.hid (HRC.out.kept0 hk)
  replace HRD := Lib.hid (HRD.out.kept0 hk)
  replace nW0 := kc hk nW0
  replace nW1 := kc hk nW1
  replace nW2 := kc hk nW2
  replace nW3 := kc hk nW3
  replace nW4 := kc hk nW4
  replace S1a := Lib.hid (S1a.out.kept0 hk)
  replace S1b := Lib.hid (S1b.out.kept0 hk)
  replace Sx0a := Lib.hid (Sx0a.out.kept0 hk)
  replace Sx0b := Lib.hid (Sx0b.out.kept0 hk)
  replace nX00 := kc hk nX00
  replace nX01 := kc hk nX01
  replace nX02 := kc hk nX02
  replace nX03 := kc hk nX03
  replace KT := Lib.hid (KT.out.trans0 hk)
  clear hk
  have tX00 := alloc_cell (o := .cells #[.bool p', .slice (some ⟨gx1a, 0, none⟩) n' n', .bool q', .slice (some ⟨gx1b, 0, none⟩) m' m'] 31) nX00.out
  have tX01 := alloc_cell (o := .cells #[.bool p', .slice (some ⟨gx1a, 0, none⟩) n' n', .bool q', .slice (some ⟨gx1b, 0, none⟩) m' m'] 31) nX01.out
  have tX02 := alloc_cell (o := .cells #[.bool p', .slice (some ⟨gx1a, 0, none⟩) n' n', .bool q', .slice (some ⟨gx1b, 0, none⟩) m' m'] 31) nX02.out
  have tX03 := alloc_cell (o := .cells #[.bool p', .slice (some ⟨gx1a, 0, none⟩) n' n', .bool q', .slice (some ⟨gx1b, 0, none⟩) m' m'] 31) nX03.out
  go_wp2_with fail
  clear tX00 tX01 tX02 tX03
  generalize hW : (ww9.alloc (.cells #[.bool p', .slice (some ⟨gx1a, 0, none⟩) n' n', .bool q', .slice (some ⟨gx1b, 0, none⟩) m' m'] 31)) = ww10
  have hk : Kept [] ww9 ww10 := by rw [← hW]; exact (Kept.refl [] _).alloc _
  have zzX1 : ww9.heap.size + 1 = ww10.heap.size := by rw [← hW]; simp
  have nX10 := Lib.hid (show ww10.cell? ⟨ww9.heap.size, 0, none⟩ = some (.bool p') by rw [← hW, World.cell?_alloc_new]; rfl)
  have nX11 := Lib.hid (show ww10.cell? ⟨ww9.heap.size, 1, none⟩ = some (.slice (some ⟨gx1a, 0, none⟩) n' n') by rw [← hW, World.cell?_alloc_new]; rfl)
  have nX12 := Lib.hid (show ww10.cell? ⟨ww9.heap.size, 2, none⟩ = some (.bool q') by rw [← hW, World.cell?_alloc_new]; rfl)
  have nX13 := Lib.hid (show ww10.cell? ⟨ww9.heap.size, 3, none⟩ = some (.slice (some ⟨gx1b, 0, none⟩) m' m') by rw [← hW, World.cell?_alloc_new]; rfl)
  clear hW
  have z10 := hk.size
  replace nAX0 := kc hk nAX0
  replace nAX1 := kc hk nAX1
  replace nAX2 := kc hk nAX2
  replace nAX3 := kc hk nAX3
  replace nAY0 := kc hk nAY0
  replace nAY1 := kc hk nAY1
  replace nAY2 := kc hk nAY2
  replace nAY3 := kc hk nAY3
  replace HRA := Lib.hid (HRA.out.kept0 hk)
  replace HRB := Lib.hid (HRB.out.kept0 hk)
  replace HRC := Lib.hid (HRC.out.kept0 hk)
  replace HRD := Lib.hid (HRD.out.kept0 hk)
  replace nW0 := kc hk nW0
  replace nW1 := kc hk nW1
  replace nW2 := kc hk nW2
  replace nW3 := kc hk nW3
  replace nW4 := kc hk nW4
  replace S1a := Lib.hid (S1a.out.kept0 hk)
  replace S1b := Lib.hid (S1b.out.kept0 hk)
  replace Sx0a := Lib.hid (Sx0a.out.kept0 hk)
  replace Sx0b := Lib.hid (Sx0b.out.kept0 hk)
  replace nX00 := kc hk nX00
  replace nX01 := kc hk nX01
  replace nX02 := kc hk nX02
  replace nX03 := kc hk nX03
  replace Sx1a := Lib.hid (Sx1a.out.kept0 hk)
  replace Sx1b := Lib.hid (Sx1b.out.kept0 hk)
  replace KT := Lib.hid (KT.out.trans0 hk)
  clear hk
  refine (AddSpan_any _ _ _ _ _ _ _ _ _ _ _ _ _ _ _ _ _ _ _ _ _ Sx0a.out Sx0b.out Sx1a.out Sx1b.out).mono ?_
  rintro e ww11 ⟨a2, c2, b2, d2, rfl, hs, hs', hf, hf', hne, hk⟩
  (try rw [← HV.out] at e0 e1 e2 e3 e4)
  rw [← HV.out] at hs hs' hf hf' hne
  (try rw [← HV.out])
  have S2a := Lib.hid hs
  have S2b := Lib.hid hs'
  have f2a := Lib.hid hs.lt
  have f2b := Lib.hid hs'.lt
  have F2a := Lib.hid hf
  have F2b := Lib.hid hf'
  have NE2 := Lib.hid hne
  clear hs hs' hf hf' hne
  have z11 := hk.size
  replace nAX0 := kc hk nAX0
  replace nAX1 := kc hk nAX1
  replace nAX2 := kc hk nAX2
  replace nAX3 := kc hk nAX3
  replace nAY0 := kc hk nAY0
  replace nAY1 := kc hk nAY1
  replace nAY2 := kc hk nAY2
  replace nAY3 := kc hk nAY3
  replace HRA := Lib.hid (HRA.out.kept0 hk)
  replace HRB := Lib.hid (HRB.out.kept0 hk)
  replace HRC := Lib.hid (HRC.out.kept0 hk)
  replace HRD := Lib.hid (HRD.out.kept0 hk)
  replace nW0 := kc hk nW0
  replace nW1 := kc hk nW1
  replace nW2 := kc hk nW2
  replace nW3 := kc hk nW3
  replace nW4 := kc hk nW4
  replace S1a := Lib.hid (S1a.out.kept0 hk)
  replace S1b := Lib.hid (S1b.out.kept0 hk)
  replace Sx0a := Lib.hid (Sx0a.out.kept0 hk)
  replace Sx0b := Lib.hid (Sx0b.out.kept0 hk)
  replace nX00 := kc hk nX00
  replace nX01 := kc hk nX01
  replace nX02 := kc hk nX02
  replace nX03 := kc hk nX03
  replace Sx1a := Lib.hid (Sx1a.out.kept0 hk)
  replace Sx1b := Lib.hid (Sx1b.out.kept0 hk)
  replace nX10 := kc hk nX10
  replace nX11 := kc hk nX11
  replace nX12 := kc hk nX12
  replace nX13 := kc hk nX13
  replace KT := Lib.hid (KT.out.trans0 hk)
  clear hk
  have tW0 := alloc_cell (o := .cells #[.int .i64 rv.code, .bool (isNeg rv.lo), .slice a2 (mag rv.lo).length c2, .bool (isNeg rv.hi), .slice b2 (mag rv.hi).length d2] 36) nW0.out
  have tW1 := alloc_cell (o := .cells #[.int .i64 rv.code, .bool (isNeg rv.lo), .slice a2 (mag rv.lo).length c2, .bool (isNeg rv.hi), .slice b2 (mag rv.hi).length d2] 36) nW1.out
  have tW2 := alloc_cell (o := .cells #[.int .i64 rv.code, .bool (isNeg rv.lo), .slice a2 (mag rv.lo).length c2, .bool (isNeg rv.hi), .slice b2 (mag rv.hi).length d2] 36) nW2.out
  have tW3 := alloc_cell (o := .cells #[.int .i64 rv.code, .bool (isNeg rv.lo), .slice a2 (mag rv.lo).length c2, .bool (isNeg rv.hi), .slice b2 (mag rv.hi).length d2] 36) nW3.out
  have tW4 := alloc_cell (o := .cells #[.int .i64 rv.code, .bool (isNeg rv.lo), .slice a2 (mag rv.lo).length c2, .bool (isNeg rv.hi), .slice b2 (mag rv.hi).length d2] 36) nW4.out
  go_wp2_with fail
  clear tW0 tW1 tW2 tW3 tW4
  generalize hW : (ww11.alloc (.cells #[.int .i64 rv.code, .bool (isNeg rv.lo), .slice a2 (mag rv.lo).length c2, .bool (isNeg rv.hi), .slice b2 (mag rv.hi).length d2] 36)) = ww12
  have hk : Kept [] ww11 ww12 := by rw [← hW]; exact (Kept.refl [] _).alloc _
  have zzG : ww11.heap.size + 1 = ww12.heap.size := by rw [← hW]; simp
  have nG0 := Lib.hid (show ww12.cell? ⟨ww11.heap.size, 0, none⟩ = some (.int .i64 rv.code) by rw [← hW, World.cell?_alloc_new]; rfl)
  have nG1 := Lib.hid (show ww12.cell? ⟨ww11.heap.size, 1, none⟩ = some (.bool (isNeg rv.lo)) by rw [← hW, World.cell?_alloc_new]; rfl)
  have nG2 := Lib.hid (show ww12.cell? ⟨ww11.heap.size, 2, none⟩ = some (.slice a2 (mag rv.lo).length c2) by rw [← hW, World.cell?_alloc_new]; rfl)
  have nG3 := Lib.hid (show ww12.cell? ⟨ww11.heap.size, 3, none⟩ = some (.bool (isNeg rv.hi)) by rw [← hW, World.cell?_alloc_new]; rfl)
  have nG4 := Lib.hid (show ww12.cell? ⟨ww11.heap.size, 4, none⟩ = some (.slice b2 (mag rv.hi).length d2) by rw [← hW, World.cell?_alloc_new]; rfl)
  clear hW
  have z12 := hk.size
  replace nAX0 := kc hk nAX0
  replace nAX1 := kc hk nAX1
  replace nAX2 := kc hk nAX2
  replace nAX3 := kc hk nAX3
  replace nAY0 := kc hk nAY0
  replace nAY1 := kc hk nAY1
  replace nAY2 := kc hk nAY2
  replace nAY3 := kc hk nAY3
  replace HRA := Lib.hid (HRA.out.kept0 hk)
  replace HRB := Lib.hid (HRB.out.kept0 hk)
  replace HRC := Lib.hid (HRC.out.kept0 hk)
  replace HRD := Lib.hid (HRD.out.kept0 hk)
  replace nW0 := kc hk nW0
  replace nW1 := kc hk nW1
  replace nW2 := kc hk nW2
  replace nW3 := kc hk nW3
  replace nW4 := kc hk nW4
  replace S1a := Lib.hid (S1a.out.kept0 hk)
  replace S1b := Lib.hid (S1b.out.kept0 hk)
  replace Sx0a := Lib.hid (Sx0a.out.kept0 hk)
  replace Sx0b := Lib.hid (Sx0b.out.kept0 hk)
  replace nX00 := kc hk nX00
  replace nX01 := kc hk nX01
  replace nX02 := kc hk nX02
  replace nX03 := kc hk nX03
  replace Sx1a := Lib.hid (Sx1a.out.kept0 hk)
  replace Sx1b := Lib.hid (Sx1b.out.kept0 hk)
  replace nX10 := kc hk nX10
  replace nX11 := kc hk nX11
  replace nX12 := kc hk nX12
  replace nX13 := kc hk nX13
  replace S2a := Lib.hid (S2a.out.kept0 hk)
  replace S2b := Lib.hid (S2b.out.kept0 hk)
  replace KT := Lib.hid (KT.out.trans0 hk)
  clear hk
  refine (eqSpanResult_yes _ _ _ _ _ _ _ _ _ _ _ _ _ _ _ _ S2a.out.rd S1a.out.rd S2b.out.rd S1b.out.rd).mono ?_
  rintro e ww13 ⟨rfl, hk⟩
  have z13 := hk.size
  replace nAX0 := kc hk nAX0
  replace nAX1 := kc hk nAX1
  replace nAX2 := kc hk nAX2
  replace nAX3 := kc hk nAX3
  replace nAY0 := kc hk nAY0
  replace nAY1 := kc hk nAY1
  replace nAY2 := kc hk nAY2
  replace nAY3 := kc hk nAY3
  replace HRA := Lib.hid (HRA.out.kept0 hk)
  replace HRB := Lib.hid (HRB.out.kept0 hk)
  replace HRC := Lib.hid (HRC.out.kept0 hk)
  replace HRD := Lib.hid (HRD.out.kept0 hk)
  replace nW0 := kc hk nW0
  replace nW1 := kc hk nW1
  replace nW2 := kc hk nW2
  replace nW3 := kc hk nW3
  replace nW4 := kc hk nW4
  replace S1a := Lib.hid (S1a.out.kept0 hk)
  replace S1b := Lib.hid (S1b.out.kept0 hk)
  replace Sx0a := Lib.hid (Sx0a.out.kept0 hk)
  replace Sx0b := Lib.hid (Sx0b.out.kept0 hk)
  replace nX00 := kc hk nX00
  replace nX01 := kc hk nX01
  replace nX02 := kc hk nX02
  replace nX03 := kc hk nX03
  replace Sx1a := Lib.hid (Sx1a.out.kept0 hk)
  replace Sx1b := Lib.hid (Sx1b.out.kept0 hk)
  replace nX10 := kc hk nX10
  replace nX11 := kc hk nX11
  replace nX12 := kc hk nX12
  replace nX13 := kc hk nX13
  replace S2a := Lib.hid (S2a.out.kept0 hk)
  replace S2b := Lib.hid (S2b.out.kept0 hk)
  replace nG0 := kc hk nG0
  replace nG1 := kc hk nG1
  replace nG2 := kc hk nG2
  replace nG3 := kc hk nG3
  replace nG4 := kc hk nG4
  replace KT := Lib.hid (KT.out.trans0 hk)
  clear hk
  have tX00 := nX00.out
  have tX01 := nX01.out
  have tX02 := nX02.out
  have tX03 := nX03.out
  have tX10 := nX10.out
  have tX11 := nX11.out
  have tX12 := nX12.out
  have tX13 := nX13.out
  have tAX0 := nAX0.out
  have tAX1 := nAX1.out
  have tAX2 := nAX2.out
  have tAX3 := nAX3.out
  have tAY0 := nAY0.out
  have tAY1 := nAY1.out
  have tAY2 := nAY2.out
  have tAY3 := nAY3.out
  go_wp2_with fail
  clear tX00 tX01 tX02 tX03 tX10 tX11 tX12 tX13 tAX0 tAX1 tAX2 tAX3 tAY0 tAY1 tAY2 tAY3
  have tX00 := nX00.out
  have tX01 := nX01.out
  have tX02 := nX02.out
  have tX03 := nX03.out
  have tAX0 := nAX0.out
  have tAX1 := nAX1.out
  have tAX2 := nAX2.out
  have tAX3 := nAX3.out
  go_region_held3 (fun w' => w'.cell? ⟨ww7.heap.size, 0, none⟩ = some (.bool p) ∧ w'.cell? ⟨ww7.heap.size, 1, none⟩ = some (.slice (some ⟨gx0a, 0, none⟩) n n) ∧ w'.cell? ⟨ww7.heap.size, 2, none⟩ = some (.bool q) ∧ w'.cell? ⟨ww7.heap.size, 3, none⟩ = some (.slice (some ⟨gx0b, 0, none⟩) m m) ∧ w'.cell? ⟨w.heap.size, 0, none⟩ = some (.bool p) ∧ w'.cell? ⟨w.heap.size, 1, none⟩ = some (.slice a n c) ∧ w'.cell? ⟨w.heap.size, 2, none⟩ = some (.bool q) ∧ w'.cell? ⟨w.heap.size, 3, none⟩ = some (.slice b m d) ∧ Hid (Kept [] ww13 w'))
    ((go_split_ands; (try refine ⟨?_, ?_, ?_, ?_, ?_, ?_, ?_, ?_, ?_⟩) <;> with_reducible first | exact Lib.hid ((Kept.refl _ _).drew) | exact drew_cell (by assumption) | exact Kept.allocH (by assumption) | exact alloc_cell (by assumption) | exact Lib.hid (Kept.trans0 (Hid.out (by assumption)) (by assumption)) | exact Kept.cell (by assumption) (by assumption) (by simp)))
    (first
      | (go_at_call 11; go_split_ands; refine (toSpan_any _ _ _ _ _ _ _ _ _ _ _ (HRA.out.kept0 (Kept.refl [] _).drew) (HRB.out.kept0 (Kept.refl [] _).drew) (by omega) (by omega)).mono ?_; rintro e v14 ⟨ge0a, ge0b, rfl, qe0, oe0, hb0, hb1, hk1⟩; rw [HLA.out]; rw [HLB.out])
      | (go_at_call 13; go_split_ands; refine (eqSpan_yes _ _ _ _ _ _ _ _ _ _ _ _ _ _ _ (((Sx0a.out.kept0 (Kept.refl [] _).drew).kept0 hk1).rd) (rd_new hb0 HLA.out (by omega)) (((Sx0b.out.kept0 (Kept.refl [] _).drew).kept0 hk1).rd) (rd_new hb1 HLB.out (by omega))).mono ?_; rintro e v15 ⟨rfl, hk2⟩))
  clear tX00 tX01 tX02 tX03 tAX0 tAX1 tAX2 tAX3
  have hk := ((Kept.refl [] ww13).drew.trans0 hk1).trans0 hk2
  clear hk1 hk2 hb0 hb1
  have z15 := hk.size
  replace nAX0 := kc hk nAX0
  replace nAX1 := kc hk nAX1
  replace nAX2 := kc hk nAX2
  replace nAX3 := kc hk nAX3
  replace nAY0 := kc hk nAY0
  replace nAY1 := kc hk nAY1
  replace nAY2 := kc hk nAY2
  replace nAY3 := kc hk nAY3
  replace HRA := Lib.hid (HRA.out.kept0 hk)
  replace HRB := Lib.hid (HRB.out.kept0 hk)
  replace HRC := Lib.hid (HRC.out.kept0 hk)
  replace HRD := Lib.hid (HRD.out.kept0 hk)
  replace nW0 := kc hk nW0
  replace nW1 := kc hk nW1
  replace nW2 := kc hk nW2
  replace nW3 := kc hk nW3
  replace nW4 := kc hk nW4
  replace S1a := Lib.hid (S1a.out.kept0 hk)
  replace S1b := Lib.hid (S1b.out.kept0 hk)
  replace Sx0a := Lib.hid (Sx0a.out.kept0 hk)
  replace Sx0b := Lib.hid (Sx0b.out.kept0 hk)
  replace nX00 := kc hk nX00
  replace nX01 := kc hk nX01
  replace nX02 := kc hk nX02
  replace nX03 := kc hk nX03
  replace Sx1a := Lib.hid (Sx1a.out.kept0 hk)
  replace Sx1b := Lib.hid (Sx1b.out.kept0 hk)
  replace nX10 := kc hk nX10
  replace nX11 := kc hk nX11
  replace nX12 := kc hk nX12
  replace nX13 := kc hk nX13
  replace S2a := Lib.hid (S2a.out.kept0 hk)
  replace S2b := Lib.hid (S2b.out.kept0 hk)
  replace nG0 := kc hk nG0
  replace nG1 := kc hk nG1
  replace nG2 := kc hk nG2
  replace nG3 := kc hk nG3
  replace nG4 := kc hk nG4
  replace KT := Lib.hid (KT.out.trans0 hk)
  clear hk
  have tX10 := nX10.out
  have tX11 := nX11.out
  have tX12 := nX12.out
  have tX13 := nX13.out
  have tAY0 := nAY0.out
  have tAY1 := nAY1.out
  have tAY2 := nAY2.out
  have tAY3 := nAY3.out
  go_wp2_with fail
  clear tX10 tX11 tX12 tX13 tAY0 tAY1 tAY2 tAY3
  have tX10 := nX10.out
  have tX11 := nX11.out
  have tX12 := nX12.out
  have tX13 := nX13.out
  have tAY0 := nAY0.out
  have tAY1 := nAY1.out
  have tAY2 := nAY2.out
  have tAY3 := nAY3.out
  go_region_held3 (fun w' => w'.cell? ⟨ww9.heap.size, 0, none⟩ = some (.bool p') ∧ w'.cell? ⟨ww9.heap.size, 1, none⟩ = some (.slice (some ⟨gx1a, 0, none⟩) n' n') ∧ w'.cell? ⟨ww9.heap.size, 2, none⟩ = some (.bool q') ∧ w'.cell? ⟨ww9.heap.size, 3, none⟩ = some (.slice (some ⟨gx1b, 0, none⟩) m' m') ∧ w'.cell? ⟨w.heap.size + 1, 0, none⟩ = some (.bool p') ∧ w'.cell? ⟨w.heap.size + 1, 1, none⟩ = some (.slice a' n' c') ∧ w'.cell? ⟨w.heap.size + 1, 2, none⟩ = some (.bool q') ∧ w'.cell? ⟨w.heap.size + 1, 3, none⟩ = some (.slice b' m' d') ∧ Hid (Kept [] v15 w'))
    ((go_split_ands; (try refine ⟨?_, ?_, ?_, ?_, ?_, ?_, ?_, ?_, ?_⟩) <;> with_reducible first | exact Lib.hid ((Kept.refl _ _).drew) | exact drew_cell (by assumption) | exact Kept.allocH (by assumption) | exact alloc_cell (by assumption) | exact Lib.hid (Kept.trans0 (Hid.out (by assumption)) (by assumption)) | exact Kept.cell (by assumption) (by assumption) (by simp)))
    (first
      | (go_at_call 11; go_split_ands; refine (toSpan_any _ _ _ _ _ _ _ _ _ _ _ (HRC.out.kept0 (Kept.refl [] _).drew) (HRD.out.kept0 (Kept.refl [] _).drew) (by omega) (by omega)).mono ?_; rintro e v16 ⟨ge1a, ge1b, rfl, qe1, oe1, hb0, hb1, hk1⟩; rw [HLC.out]; rw [HLD.out])
      | (go_at_call 13; go_split_ands; refine (eqSpan_yes _ _ _ _ _ _ _ _ _ _ _ _ _ _ _ (((Sx1a.out.kept0 (Kept.refl [] _).drew).kept0 hk1).rd) (rd_new hb0 HLC.out (by omega)) (((Sx1b.out.kept0 (Kept.refl [] _).drew).kept0 hk1).rd) (rd_new hb1 HLD.out (by omega))).mono ?_; rintro e v17 ⟨rfl, hk2⟩))
  clear tX10 tX11 tX12 tX13 tAY0 tAY1 tAY2 tAY3
  have hk := ((Kept.refl [] v15).drew.trans0 hk1).trans0 hk2
  clear hk1 hk2 hb0 hb1
  have z17 := hk.size
  replace nAX0 := kc hk nAX0
  replace nAX1 := kc hk nAX1
  replace nAX2 := kc hk nAX2
  replace nAX3 := kc hk nAX3
  replace nAY0 := kc hk nAY0
  replace nAY1 := kc hk nAY1
  replace nAY2 := kc hk nAY2
  replace nAY3 := kc hk nAY3
  replace HRA := Lib.hid (HRA.out.kept0 hk)
  replace HRB := Lib.hid (HRB.out.kept0 hk)
  replace HRC := Lib.hid (HRC.out.kept0 hk)
  replace HRD := Lib.hid (HRD.out.kept0 hk)
  replace nW0 := kc hk nW0
  replace nW1 := kc hk nW1
  replace nW2 := kc hk nW2
  replace nW3 := kc hk nW3
  replace nW4 := kc hk nW4
  replace S1a := Lib.hid (S1a.out.kept0 hk)
  replace S1b := Lib.hid (S1b.out.kept0 hk)
  replace Sx0a := Lib.hid (Sx0a.out.kept0 hk)
  replace Sx0b := Lib.hid (Sx0b.out.kept0 hk)
  replace nX00 := kc hk nX00
  replace nX01 := kc hk nX01
  replace nX02 := kc hk nX02
  replace nX03 := kc hk nX03
  replace Sx1a := Lib.hid (Sx1a.out.kept0 hk)
  replace Sx1b := Lib.hid (Sx1b.out.kept0 hk)
  replace nX10 := kc hk nX10
  replace nX11 := kc hk nX11
  replace nX12 := kc hk nX12
  replace nX13 := kc hk nX13
  replace S2a := Lib.hid (S2a.out.kept0 hk)
  replace S2b := Lib.hid (S2b.out.kept0 hk)
  replace nG0 := kc hk nG0
  replace nG1 := kc hk nG1
  replace nG2 := kc hk nG2
  replace nG3 := kc hk nG3
  replace nG4 := kc hk nG4
  replace KT := Lib.hid (KT.out.trans0 hk)
  clear hk
  have tX00 := nX00.out
  have tX01 := nX01.out
  have tX02 := nX02.out
  have tX03 := nX03.out
  go_wp2_with fail
  clear tX00 tX01 tX02 tX03
  refine (markSpan_any _ _ _ _ _ _ _ _ _ _ (1) _ Sx0a.out Sx0b.out (fun x y _ _ hx hy => by cases hx; cases hy; (try dsimp only); omega) (by omega) (by omega) (by omega)).mono ?_
  rintro e ww18 ⟨rfl, hs, hs', hk⟩
  clear hs hs'
  have z18 := hk.size
  replace nAX0 := Lib.hid (hk.cell (p := ⟨w.heap.size, 0, none⟩) nAX0.out (fun hm => by rcases List.mem_append.1 hm with hm | hm <;> (have e := blkOf_one hm; dsimp only at e; omega)))
  replace nAX1 := Lib.hid (hk.cell (p := ⟨w.heap.size, 1, none⟩) nAX1.out (fun hm => by rcases List.mem_append.1 hm with hm | hm <;> (have e := blkOf_one hm; dsimp only at e; omega)))
  replace nAX2 := Lib.hid (hk.cell (p := ⟨w.heap.size, 2, none⟩) nAX2.out (fun hm => by rcases List.mem_append.1 hm with hm | hm <;> (have e := blkOf_one hm; dsimp only at e; omega)))
  replace nAX3 := Lib.hid (hk.cell (p := ⟨w.heap.size, 3, none⟩) nAX3.out (fun hm => by rcases List.mem_append.1 hm with hm | hm <;> (have e := blkOf_one hm; dsimp only at e; omega)))
  replace nAY0 := Lib.hid (hk.cell (p := ⟨w.heap.size + 1, 0, none⟩) nAY0.out (fun hm => by rcases List.mem_append.1 hm with hm | hm <;> (have e := blkOf_one hm; dsimp only at e; omega)))
  replace nAY1 := Lib.hid (hk.cell (p := ⟨w.heap.size + 1, 1, none⟩) nAY1.out (fun hm => by rcases List.mem_append.1 hm with hm | hm <;> (have e := blkOf_one hm; dsimp only at e; omega)))
  replace nAY2 := Lib.hid (hk.cell (p := ⟨w.heap.size + 1, 2, none⟩) nAY2.out (fun hm => by rcases List.mem_append.1 hm with hm | hm <;> (have e := blkOf_one hm; dsimp only at e; omega)))
  replace nAY3 := Lib.hid (hk.cell (p := ⟨w.heap.size + 1, 3, none⟩) nAY3.out (fun hm => by rcases List.mem_append.1 hm with hm | hm <;> (have e := blkOf_one hm; dsimp only at e; omega)))
  replace HRA := Lib.hid (HRA.out.kept hk (fun hn y hy hm => by rcases List.mem_append.1 hm with hm | hm <;> (have e := blkOf_one hm; have h9 := FRA.out hn y hy; omega)))
  replace HRB := Lib.hid (HRB.out.kept hk (fun hn y hy hm => by rcases List.mem_append.1 hm with hm | hm <;> (have e := blkOf_one hm; have h9 := FRB.out hn y hy; omega)))
  replace HRC := Lib.hid (HRC.out.kept hk (fun hn y hy hm => by rcases List.mem_append.1 hm with hm | hm <;> (have e := blkOf_one hm; have h9 := FRC.out hn y hy; omega)))
  replace HRD := Lib.hid (HRD.out.kept hk (fun hn y hy hm => by rcases List.mem_append.1 hm with hm | hm <;> (have e := blkOf_one hm; have h9 := FRD.out hn y hy; omega)))
  replace nW0 := Lib.hid (hk.cell (p := ⟨g1, 0, none⟩) nW0.out (fun hm => by rcases List.mem_append.1 hm with hm | hm <;> (have e := blkOf_one hm; dsimp only at e; omega)))
  replace nW1 := Lib.hid (hk.cell (p := ⟨g1, 1, none⟩) nW1.out (fun hm => by rcases List.mem_append.1 hm with hm | hm <;> (have e := blkOf_one hm; dsimp only at e; omega)))
  replace nW2 := Lib.hid (hk.cell (p := ⟨g1, 2, none⟩) nW2.out (fun hm => by rcases List.mem_append.1 hm with hm | hm <;> (have e := blkOf_one hm; dsimp only at e; omega)))
  replace nW3 := Lib.hid (hk.cell (p := ⟨g1, 3, none⟩) nW3.out (fun hm => by rcases List.mem_append.1 hm with hm | hm <;> (have e := blkOf_one hm; dsimp only at e; omega)))
  replace nW4 := Lib.hid (hk.cell (p := ⟨g1, 4, none⟩) nW4.out (fun hm => by rcases List.mem_append.1 hm with hm | hm <;> (have e := blkOf_one hm; dsimp only at e; omega)))
  replace S1a := Lib.hid (S1a.out.kept hk (fun hn y hy hm => by rcases List.mem_append.1 hm with hm | hm <;> (have e := blkOf_one hm; have h9 := f1a.out hn y hy; omega)))
  replace S1b := Lib.hid (S1b.out.kept hk (fun hn y hy hm => by rcases List.mem_append.1 hm with hm | hm <;> (have e := blkOf_one hm; have h9 := f1b.out hn y hy; omega)))
  replace nX00 := Lib.hid (hk.cell (p := ⟨ww7.heap.size, 0, none⟩) nX00.out (fun hm => by rcases List.mem_append.1 hm with hm | hm <;> (have e := blkOf_one hm; dsimp only at e; omega)))
  replace nX01 := Lib.hid (hk.cell (p := ⟨ww7.heap.size, 1, none⟩) nX01.out (fun hm => by rcases List.mem_append.1 hm with hm | hm <;> (have e := blkOf_one hm; dsimp only at e; omega)))
  replace nX02 := Lib.hid (hk.cell (p := ⟨ww7.heap.size, 2, none⟩) nX02.out (fun hm => by rcases List.mem_append.1 hm with hm | hm <;> (have e := blkOf_one hm; dsimp only at e; omega)))
  replace nX03 := Lib.hid (hk.cell (p := ⟨ww7.heap.size, 3, none⟩) nX03.out (fun hm => by rcases List.mem_append.1 hm with hm | hm <;> (have e := blkOf_one hm; dsimp only at e; omega)))
  replace Sx1a := Lib.hid (Sx1a.out.kept hk (fun hn y hy hm => by rcases List.mem_append.1 hm with hm | hm <;> (cases hy; have e := blkOf_one hm; dsimp only at e; omega)))
  replace Sx1b := Lib.hid (Sx1b.out.kept hk (fun hn y hy hm => by rcases List.mem_append.1 hm with hm | hm <;> (cases hy; have e := blkOf_one hm; dsimp only at e; omega)))
  replace nX10 := Lib.hid (hk.cell (p := ⟨ww9.heap.size, 0, none⟩) nX10.out (fun hm => by rcases List.mem_append.1 hm with hm | hm <;> (have e := blkOf_one hm; dsimp only at e; omega)))
  replace nX11 := Lib.hid (hk.cell (p := ⟨ww9.heap.size, 1, none⟩) nX11.out (fun hm => by rcases List.mem_append.1 hm with hm | hm <;> (have e := blkOf_one hm; dsimp only at e; omega)))
  replace nX12 := Lib.hid (hk.cell (p := ⟨ww9.heap.size, 2, none⟩) nX12.out (fun hm => by rcases List.mem_append.1 hm with hm | hm <;> (have e := blkOf_one hm; dsimp only at e; omega)))
  replace nX13 := Lib.hid (hk.cell (p := ⟨ww9.heap.size, 3, none⟩) nX13.out (fun hm => by rcases List.mem_append.1 hm with hm | hm <;> (have e := blkOf_one hm; dsimp only at e; omega)))
  replace S2a := Lib.hid (S2a.out.kept hk (fun hn y hy hm => by rcases List.mem_append.1 hm with hm | hm <;> (have e := blkOf_one hm; have h9 := F2a.out hn y hy; omega)))
  replace S2b := Lib.hid (S2b.out.kept hk (fun hn y hy hm => by rcases List.mem_append.1 hm with hm | hm <;> (have e := blkOf_one hm; have h9 := F2b.out hn y hy; omega)))
  replace nG0 := Lib.hid (hk.cell (p := ⟨ww11.heap.size, 0, none⟩) nG0.out (fun hm => by rcases List.mem_append.1 hm with hm | hm <;> (have e := blkOf_one hm; dsimp only at e; omega)))
  replace nG1 := Lib.hid (hk.cell (p := ⟨ww11.heap.size, 1, none⟩) nG1.out (fun hm => by rcases List.mem_append.1 hm with hm | hm <;> (have e := blkOf_one hm; dsimp only at e; omega)))
  replace nG2 := Lib.hid (hk.cell (p := ⟨ww11.heap.size, 2, none⟩) nG2.out (fun hm => by rcases List.mem_append.1 hm with hm | hm <;> (have e := blkOf_one hm; dsimp only at e; omega)))
  replace nG3 := Lib.hid (hk.cell (p := ⟨ww11.heap.size, 3, none⟩) nG3.out (fun hm => by rcases List.mem_append.1 hm with hm | hm <;> (have e := blkOf_one hm; dsimp only at e; omega)))
  replace nG4 := Lib.hid (hk.cell (p := ⟨ww11.heap.size, 4, none⟩) nG4.out (fun hm => by rcases List.mem_append.1 hm with hm | hm <;> (have e := blkOf_one hm; dsimp only at e; omega)))
  replace KT := Lib.hid (KT.out.trans hk (fun hx0 hx hlt => by rcases List.mem_append.1 hx with hm | hm <;> (have e := blkOf_one hm; omega)))
  clear hk
  have tX10 := nX10.out
  have tX11 := nX11.out
  have tX12 := nX12.out
  have tX13 := nX13.out
  go_wp2_with fail
  clear tX10 tX11 tX12 tX13
  refine (markSpan_any _ _ _ _ _ _ _ _ _ _ (1 + (n : Int) + (m : Int)) _ Sx1a.out Sx1b.out (fun x y _ _ hx hy => by cases hx; cases hy; (try dsimp only); omega) (by omega) (by omega) (by omega)).mono ?_
  rintro e ww19 ⟨rfl, hs, hs', hk⟩
  clear hs hs'
  have z19 := hk.size
  replace nAX0 := Lib.hid (hk.cell (p := ⟨w.heap.size, 0, none⟩) nAX0.out (fun hm => by rcases List.mem_append.1 hm with hm | hm <;> (have e := blkOf_one hm; dsimp only at e; omega)))
  replace nAX1 := Lib.hid (hk.cell (p := ⟨w.heap.size, 1, none⟩) nAX1.out (fun hm => by rcases List.mem_append.1 hm with hm | hm <;> (have e := blkOf_one hm; dsimp only at e; omega)))
  replace nAX2 := Lib.hid (hk.cell (p := ⟨w.heap.size, 2, none⟩) nAX2.out (fun hm => by rcases List.mem_append.1 hm with hm | hm <;> (have e := blkOf_one hm; dsimp only at e; omega)))
  replace nAX3 := Lib.hid (hk.cell (p := ⟨w.heap.size, 3, none⟩) nAX3.out (fun hm => by rcases List.mem_append.1 hm with hm | hm <;> (have e := blkOf_one hm; dsimp only at e; omega)))
  replace nAY0 := Lib.hid (hk.cell (p := ⟨w.heap.size + 1, 0, none⟩) nAY0.out (fun hm => by rcases List.mem_append.1 hm with hm | hm <;> (have e := blkOf_one hm; dsimp only at e; omega)))
  replace nAY1 := Lib.hid (hk.cell (p := ⟨w.heap.size + 1, 1, none⟩) nAY1.out (fun hm => by rcases List.mem_append.1 hm with hm | hm <;> (have e := blkOf_one hm; dsimp only at e; omega)))
  replace nAY2 := Lib.hid (hk.cell (p := ⟨w.heap.size + 1, 2, none⟩) nAY2.out (fun hm => by rcases List.mem_append.1 hm with hm | hm <;> (have e := blkOf_one hm; dsimp only at e; omega)))
  replace nAY3 := Lib.hid (hk.cell (p := ⟨w.heap.size + 1, 3, none⟩) nAY3.out (fun hm => by rcases List.mem_append.1 hm with hm | hm <;> (have e := blkOf_one hm; dsimp only at e; omega)))
  replace HRA := Lib.hid (HRA.out.kept hk (fun hn y hy hm => by rcases List.mem_append.1 hm with hm | hm <;> (have e := blkOf_one hm; have h9 := FRA.out hn y hy; omega)))
  replace HRB := Lib.hid (HRB.out.kept hk (fun hn y hy hm => by rcases List.mem_append.1 hm with hm | hm <;> (have e := blkOf_one hm; have h9 := FRB.out hn y hy; omega)))
  replace HRC := Lib.hid (HRC.out.kept hk (fun hn y hy hm => by rcases List.mem_append.1 hm with hm | hm <;> (have e := blkOf_one hm; have h9 := FRC.out hn y hy; omega)))
  replace HRD := Lib.hid (HRD.out.kept hk (fun hn y hy hm => by rcases List.mem_append.1 hm with hm | hm <;> (have e := blkOf_one hm; have h9 := FRD.out hn y hy; omega)))
  replace nW0 := Lib.hid (hk.cell (p := ⟨g1, 0, none⟩) nW0.out (fun hm => by rcases List.mem_append.1 hm with hm | hm <;> (have e := blkOf_one hm; dsimp only at e; omega)))
  replace nW1 := Lib.hid (hk.cell (p := ⟨g1, 1, none⟩) nW1.out (fun hm => by rcases List.mem_append.1 hm with hm | hm <;> (have e := blkOf_one hm; dsimp only at e; omega)))
  replace nW2 := Lib.hid (hk.cell (p := ⟨g1, 2, none⟩) nW2.out (fun hm => by rcases List.mem_append.1 hm with hm | hm <;> (have e := blkOf_one hm; dsimp only at e; omega)))
  replace nW3 := Lib.hid (hk.cell (p := ⟨g1, 3, none⟩) nW3.out (fun hm => by rcases List.mem_append.1 hm with hm | hm <;> (have e := blkOf_one hm; dsimp only at e; omega)))
  replace nW4 := Lib.hid (hk.cell (p := ⟨g1, 4, none⟩) nW4.out (fun hm => by rcases List.mem_append.1 hm with hm | hm <;> (have e := blkOf_one hm; dsimp only at e; omega)))
  replace S1a := Lib.hid (S1a.out.kept hk (fun hn y hy hm => by rcases List.mem_append.1 hm with hm | hm <;> (have e := blkOf_one hm; have h9 := f1a.out hn y hy; omega)))
  replace S1b := Lib.hid (S1b.out.kept hk (fun hn y hy hm => by rcases List.mem_append.1 hm with hm | hm <;> (have e := blkOf_one hm; have h9 := f1b.out hn y hy; omega)))
  replace nX00 := Lib.hid (hk.cell (p := ⟨ww7.heap.size, 0, none⟩) nX00.out (fun hm => by rcases List.mem_append.1 hm with hm | hm <;> (have e := blkOf_one hm; dsimp only at e; omega)))
  replace nX01 := Lib.hid (hk.cell (p := ⟨ww7.heap.size, 1, none⟩) nX01.out (fun hm => by rcases List.mem_append.1 hm with hm | hm <;> (have e := blkOf_one hm; dsimp only at e; omega)))
  replace nX02 := Lib.hid (hk.cell (p := ⟨ww7.heap.size, 2, none⟩) nX02.out (fun hm => by rcases List.mem_append.1 hm with hm | hm <;> (have e := blkOf_one hm; dsimp only at e; omega)))
  replace nX03 := Lib.hid (hk.cell (p := ⟨ww7.heap.size, 3, none⟩) nX03.out (fun hm => by rcases List.mem_append.1 hm with hm | hm <;> (have e := blkOf_one hm; dsimp only at e; omega)))
  replace nX10 := Lib.hid (hk.cell (p := ⟨ww9.heap.size, 0, none⟩) nX10.out (fun hm => by rcases List.mem_append.1 hm with hm | hm <;> (have e := blkOf_one hm; dsimp only at e; omega)))
  replace nX11 := Lib.hid (hk.cell (p := ⟨ww9.heap.size, 1, none⟩) nX11.out (fun hm => by rcases List.mem_append.1 hm with hm | hm <;> (have e := blkOf_one hm; dsimp only at e; omega)))
  replace nX12 := Lib.hid (hk.cell (p := ⟨ww9.heap.size, 2, none⟩) nX12.out (fun hm => by rcases List.mem_append.1 hm with hm | hm <;> (have e := blkOf_one hm; dsimp only at e; omega)))
  replace nX13 := Lib.hid (hk.cell (p := ⟨ww9.heap.size, 3, none⟩) nX13.out (fun hm => by rcases List.mem_append.1 hm with hm | hm <;> (have e := blkOf_one hm; dsimp only at e; omega)))
  replace S2a := Lib.hid (S2a.out.kept hk (fun hn y hy hm => by rcases List.mem_append.1 hm with hm | hm <;> (have e := blkOf_one hm; have h9 := F2a.out hn y hy; omega)))
  replace S2b := Lib.hid (S2b.out.kept hk (fun hn y hy hm => by rcases List.mem_append.1 hm with hm | hm <;> (have e := blkOf_one hm; have h9 := F2b.out hn y hy; omega)))
  replace nG0 := Lib.hid (hk.cell (p := ⟨ww11.heap.size, 0, none⟩) nG0.out (fun hm => by rcases List.mem_append.1 hm with hm | hm <;> (have e := blkOf_one hm; dsimp only at e; omega)))
  replace nG1 := Lib.hid (hk.cell (p := ⟨ww11.heap.size, 1, none⟩) nG1.out (fun hm => by rcases List.mem_append.1 hm with hm | hm <;> (have e := blkOf_one hm; dsimp only at e; omega)))
  replace nG2 := Lib.hid (hk.cell (p := ⟨ww11.heap.size, 2, none⟩) nG2.out (fun hm => by rcases List.mem_append.1 hm with hm | hm <;> (have e := blkOf_one hm; dsimp only at e; omega)))
  replace nG3 := Lib.hid (hk.cell (p := ⟨ww11.heap.size, 3, none⟩) nG3.out (fun hm => by rcases List.mem_append.1 hm with hm | hm <;> (have e := blkOf_one hm; dsimp only at e; omega)))
  replace nG4 := Lib.hid (hk.cell (p := ⟨ww11.heap.size, 4, none⟩) nG4.out (fun hm => by rcases List.mem_append.1 hm with hm | hm <;> (have e := blkOf_one hm; dsimp only at e; omega)))
  replace KT := Lib.hid (KT.out.trans hk (fun hx0 hx hlt => by rcases List.mem_append.1 hx with hm | hm <;> (have e := blkOf_one hm; omega)))
  clear hk
  have hneg : decide (1 + (n : Int) + (m : Int) + (n' : Int) + (m' : Int) < 0) = false := decide_eq_false (by omega)
  have hpos : (0 : Int) ≤ 1 + (n : Int) + (m : Int) + (n' : Int) + (m' : Int) := by omega
  have tG0 := nG0.out
  have tG1 := nG1.out
  have tG2 := nG2.out
  have tG3 := nG3.out
  have tG4 := nG4.out
  have tW0 := nW0.out
  have tW1 := nW1.out
  have tW2 := nW2.out
  have tW3 := nW3.out
  have tW4 := nW4.out
  go_wp2_with fail
  clear tG0 tG1 tG2 tG3 tG4 tW0 tW1 tW2 tW3 tW4
  refine (eqSpanResult_yes _ _ _ _ _ _ _ _ _ _ _ _ _ _ _ _ S2a.out.rd S1a.out.rd S2b.out.rd S1b.out.rd).mono ?_
  rintro e ww20 ⟨rfl, hk⟩
  have z20 := hk.size
  replace nAX0 := kc hk nAX0
  replace nAX1 := kc hk nAX1
  replace nAX2 := kc hk nAX2
  replace nAX3 := kc hk nAX3
  replace nAY0 := kc hk nAY0
  replace nAY1 := kc hk nAY1
  replace nAY2 := kc hk nAY2
  replace nAY3 := kc hk nAY3
  replace HRA := Lib.hid (HRA.out.kept0 hk)
  replace HRB := Lib.hid (HRB.out.kept0 hk)
  replace HRC := Lib.hid (HRC.out.kept0 hk)
  replace HRD := Lib.hid (HRD.out.kept0 hk)
  replace nW0 := kc hk nW0
  replace nW1 := kc hk nW1
  replace nW2 := kc hk nW2
  replace nW3 := kc hk nW3
  replace nW4 := kc hk nW4
  replace S1a := Lib.hid (S1a.out.kept0 hk)
  replace S1b := Lib.hid (S1b.out.kept0 hk)
  replace nX00 := kc hk nX00
  replace nX01 := kc hk nX01
  replace nX02 := kc hk nX02
  replace nX03 := kc hk nX03
  replace nX10 := kc hk nX10
  replace nX11 := kc hk nX11
  replace nX12 := kc hk nX12
  replace nX13 := kc hk nX13
  replace S2a := Lib.hid (S2a.out.kept0 hk)
  replace S2b := Lib.hid (S2b.out.kept0 hk)
  replace nG0 := kc hk nG0
  replace nG1 := kc hk nG1
  replace nG2 := kc hk nG2
  replace nG3 := kc hk nG3
  replace nG4 := kc hk nG4
  replace KT := Lib.hid (KT.out.trans0 hk)
  clear hk
  have tG0 := nG0.out
  have tG1 := nG1.out
  have tG2 := nG2.out
  have tG3 := nG3.out
  have tG4 := nG4.out
  go_wp2_with fail
  clear tG0 tG1 tG2 tG3 tG4
  refine (markSpanResult_any _ _ _ _ _ _ _ _ _ _ _ 1 _ S2a.out S2b.out NE2.out (by omega) (by omega) (by omega)).mono ?_
  rintro e ww21 ⟨rfl, hs, hs', hk⟩
  have SMa := Lib.hid hs
  have SMb := Lib.hid hs'
  clear hs hs'
  have z21 := hk.size
  replace nAX0 := Lib.hid (hk.cell (p := ⟨w.heap.size, 0, none⟩) nAX0.out (fun hm => by rcases List.mem_append.1 hm with hm | hm; (obtain ⟨hn2, u, hu, e⟩ := blkOf_mem hm; have h9 := F2a.out hn2 u hu; have h8 := f2a.out hn2 u hu; simp at e; omega); (obtain ⟨hn2, u, hu, e⟩ := blkOf_mem hm; have h9 := F2b.out hn2 u hu; have h8 := f2b.out hn2 u hu; simp at e; omega)))
  replace nAX1 := Lib.hid (hk.cell (p := ⟨w.heap.size, 1, none⟩) nAX1.out (fun hm => by rcases List.mem_append.1 hm with hm | hm; (obtain ⟨hn2, u, hu, e⟩ := blkOf_mem hm; have h9 := F2a.out hn2 u hu; have h8 := f2a.out hn2 u hu; simp at e; omega); (obtain ⟨hn2, u, hu, e⟩ := blkOf_mem hm; have h9 := F2b.out hn2 u hu; have h8 := f2b.out hn2 u hu; simp at e; omega)))
  replace nAX2 := Lib.hid (hk.cell (p := ⟨w.heap.size, 2, none⟩) nAX2.out (fun hm => by rcases List.mem_append.1 hm with hm | hm; (obtain ⟨hn2, u, hu, e⟩ := blkOf_mem hm; have h9 := F2a.out hn2 u hu; have h8 := f2a.out hn2 u hu; simp at e; omega); (obtain ⟨hn2, u, hu, e⟩ := blkOf_mem hm; have h9 := F2b.out hn2 u hu; have h8 := f2b.out hn2 u hu; simp at e; omega)))
  replace nAX3 := Lib.hid (hk.cell (p := ⟨w.heap.size, 3, none⟩) nAX3.out (fun hm => by rcases List.mem_append.1 hm with hm | hm; (obtain ⟨hn2, u, hu, e⟩ := blkOf_mem hm; have h9 := F2a.out hn2 u hu; have h8 := f2a.out hn2 u hu; simp at e; omega); (obtain ⟨hn2, u, hu, e⟩ := blkOf_mem hm; have h9 := F2b.out hn2 u hu; have h8 := f2b.out hn2 u hu; simp at e; omega)))
  replace nAY0 := Lib.hid (hk.cell (p := ⟨w.heap.size + 1, 0, none⟩) nAY0.out (fun hm => by rcases List.mem_append.1 hm with hm | hm; (obtain ⟨hn2, u, hu, e⟩ := blkOf_mem hm; have h9 := F2a.out hn2 u hu; have h8 := f2a.out hn2 u hu; simp at e; omega); (obtain ⟨hn2, u, hu, e⟩ := blkOf_mem hm; have h9 := F2b.out hn2 u hu; have h8 := f2b.out hn2 u hu; simp at e; omega)))
  replace nAY1 := Lib.hid (hk.cell (p := ⟨w.heap.size + 1, 1, none⟩) nAY1.out (fun hm => by rcases List.mem_append.1 hm with hm | hm; (obtain ⟨hn2, u, hu, e⟩ := blkOf_mem hm; have h9 := F2a.out hn2 u hu; have h8 := f2a.out hn2 u hu; simp at e; omega); (obtain ⟨hn2, u, hu, e⟩ := blkOf_mem hm; have h9 := F2b.out hn2 u hu; have h8 := f2b.out hn2 u hu; simp at e; omega)))
  replace nAY2 := Lib.hid (hk.cell (p := ⟨w.heap.size + 1, 2, none⟩) nAY2.out (fun hm => by rcases List.mem_append.1 hm with hm | hm; (obtain ⟨hn2, u, hu, e⟩ := blkOf_mem hm; have h9 := F2a.out hn2 u hu; have h8 := f2a.out hn2 u hu; simp at e; omega); (obtain ⟨hn2, u, hu, e⟩ := blkOf_mem hm; have h9 := F2b.out hn2 u hu; have h8 := f2b.out hn2 u hu; simp at e; omega)))
  replace nAY3 := Lib.hid (hk.cell (p := ⟨w.heap.size + 1, 3, none⟩) nAY3.out (fun hm => by rcases List.mem_append.1 hm with hm | hm; (obtain ⟨hn2, u, hu, e⟩ := blkOf_mem hm; have h9 := F2a.out hn2 u hu; have h8 := f2a.out hn2 u hu; simp at e; omega); (obtain ⟨hn2, u, hu, e⟩ := blkOf_mem hm; have h9 := F2b.out hn2 u hu; have h8 := f2b.out hn2 u hu; simp at e; omega)))
  replace HRA := Lib.hid (HRA.out.kept hk (fun hn y hy hm => by rcases List.mem_append.1 hm with hm | hm; (obtain ⟨hn2, u, hu, e⟩ := blkOf_mem hm; have h9 := F2a.out hn2 u hu; have h8 := f2a.out hn2 u hu; have h7 := FRA.out hn y hy; omega); (obtain ⟨hn2, u, hu, e⟩ := blkOf_mem hm; have h9 := F2b.out hn2 u hu; have h8 := f2b.out hn2 u hu; have h7 := FRA.out hn y hy; omega)))
  replace HRB := Lib.hid (HRB.out.kept hk (fun hn y hy hm => by rcases List.mem_append.1 hm with hm | hm; (obtain ⟨hn2, u, hu, e⟩ := blkOf_mem hm; have h9 := F2a.out hn2 u hu; have h8 := f2a.out hn2 u hu; have h7 := FRB.out hn y hy; omega); (obtain ⟨hn2, u, hu, e⟩ := blkOf_mem hm; have h9 := F2b.out hn2 u hu; have h8 := f2b.out hn2 u hu; have h7 := FRB.out hn y hy; omega)))
  replace HRC := Lib.hid (HRC.out.kept hk (fun hn y hy hm => by rcases List.mem_append.1 hm with hm | hm; (obtain ⟨hn2, u, hu, e⟩ := blkOf_mem hm; have h9 := F2a.out hn2 u hu; have h8 := f2a.out hn2 u hu; have h7 := FRC.out hn y hy; omega); (obtain ⟨hn2, u, hu, e⟩ := blkOf_mem hm; have h9 := F2b.out hn2 u hu; have h8 := f2b.out hn2 u hu; have h7 := FRC.out hn y hy; omega)))
  replace HRD := Lib.hid (HRD.out.kept hk (fun hn y hy hm => by rcases List.mem_append.1 hm with hm | hm; (obtain ⟨hn2, u, hu, e⟩ := blkOf_mem hm; have h9 := F2a.out hn2 u hu; have h8 := f2a.out hn2 u hu; have h7 := FRD.out hn y hy; omega); (obtain ⟨hn2, u, hu, e⟩ := blkOf_mem hm; have h9 := F2b.out hn2 u hu; have h8 := f2b.out hn2 u hu; have h7 := FRD.out hn y hy; omega)))
  replace nW0 := Lib.hid (hk.cell (p := ⟨g1, 0, none⟩) nW0.out (fun hm => by rcases List.mem_append.1 hm with hm | hm; (obtain ⟨hn2, u, hu, e⟩ := blkOf_mem hm; have h9 := F2a.out hn2 u hu; have h8 := f2a.out hn2 u hu; simp at e; omega); (obtain ⟨hn2, u, hu, e⟩ := blkOf_mem hm; have h9 := F2b.out hn2 u hu; have h8 := f2b.out hn2 u hu; simp at e; omega)))
  replace nW1 := Lib.hid (hk.cell (p := ⟨g1, 1, none⟩) nW1.out (fun hm => by rcases List.mem_append.1 hm with hm | hm; (obtain ⟨hn2, u, hu, e⟩ := blkOf_mem hm; have h9 := F2a.out hn2 u hu; have h8 := f2a.out hn2 u hu; simp at e; omega); (obtain ⟨hn2, u, hu, e⟩ := blkOf_mem hm; have h9 := F2b.out hn2 u hu; have h8 := f2b.out hn2 u hu; simp at e; omega)))
  replace nW2 := Lib.hid (hk.cell (p := ⟨g1, 2, none⟩) nW2.out (fun hm => by rcases List.mem_append.1 hm with hm | hm; (obtain ⟨hn2, u, hu, e⟩ := blkOf_mem hm; have h9 := F2a.out hn2 u hu; have h8 := f2a.out hn2 u hu; simp at e; omega); (obtain ⟨hn2, u, hu, e⟩ := blkOf_mem hm; have h9 := F2b.out hn2 u hu; have h8 := f2b.out hn2 u hu; simp at e; omega)))
  replace nW3 := Lib.hid (hk.cell (p := ⟨g1, 3, none⟩) nW3.out (fun hm => by rcases List.mem_append.1 hm with hm | hm; (obtain ⟨hn2, u, hu, e⟩ := blkOf_mem hm; have h9 := F2a.out hn2 u hu; have h8 := f2a.out hn2 u hu; simp at e; omega); (obtain ⟨hn2, u, hu, e⟩ := blkOf_mem hm; have h9 := F2b.out hn2 u hu; have h8 := f2b.out hn2 u hu; simp at e; omega)))
  replace nW4 := Lib.hid (hk.cell (p := ⟨g1, 4, none⟩) nW4.out (fun hm => by rcases List.mem_append.1 hm with hm | hm; (obtain ⟨hn2, u, hu, e⟩ := blkOf_mem hm; have h9 := F2a.out hn2 u hu; have h8 := f2a.out hn2 u hu; simp at e; omega); (obtain ⟨hn2, u, hu, e⟩ := blkOf_mem hm; have h9 := F2b.out hn2 u hu; have h8 := f2b.out hn2 u hu; simp at e; omega)))
  replace S1a := Lib.hid (S1a.out.kept hk (fun hn y hy hm => by rcases List.mem_append.1 hm with hm | hm; (obtain ⟨hn2, u, hu, e⟩ := blkOf_mem hm; have h9 := F2a.out hn2 u hu; have h8 := f2a.out hn2 u hu; have h7 := f1a.out hn y hy; omega); (obtain ⟨hn2, u, hu, e⟩ := blkOf_mem hm; have h9 := F2b.out hn2 u hu; have h8 := f2b.out hn2 u hu; have h7 := f1a.out hn y hy; omega)))
  replace S1b := Lib.hid (S1b.out.kept hk (fun hn y hy hm => by rcases List.mem_append.1 hm with hm | hm; (obtain ⟨hn2, u, hu, e⟩ := blkOf_mem hm; have h9 := F2a.out hn2 u hu; have h8 := f2a.out hn2 u hu; have h7 := f1b.out hn y hy; omega); (obtain ⟨hn2, u, hu, e⟩ := blkOf_mem hm; have h9 := F2b.out hn2 u hu; have h8 := f2b.out hn2 u hu; have h7 := f1b.out hn y hy; omega)))
  replace nX00 := Lib.hid (hk.cell (p := ⟨ww7.heap.size, 0, none⟩) nX00.out (fun hm => by rcases List.mem_append.1 hm with hm | hm; (obtain ⟨hn2, u, hu, e⟩ := blkOf_mem hm; have h9 := F2a.out hn2 u hu; have h8 := f2a.out hn2 u hu; simp at e; omega); (obtain ⟨hn2, u, hu, e⟩ := blkOf_mem hm; have h9 := F2b.out hn2 u hu; have h8 := f2b.out hn2 u hu; simp at e; omega)))
  replace nX01 := Lib.hid (hk.cell (p := ⟨ww7.heap.size, 1, none⟩) nX01.out (fun hm => by rcases List.mem_append.1 hm with hm | hm; (obtain ⟨hn2, u, hu, e⟩ := blkOf_mem hm; have h9 := F2a.out hn2 u hu; have h8 := f2a.out hn2 u hu; simp at e; omega); (obtain ⟨hn2, u, hu, e⟩ := blkOf_mem hm; have h9 := F2b.out hn2 u hu; have h8 := f2b.out hn2 u hu; simp at e; omega)))
  replace nX02 := Lib.hid (hk.cell (p := ⟨ww7.heap.size, 2, none⟩) nX02.out (fun hm => by rcases List.mem_append.1 hm with hm | hm; (obtain ⟨hn2, u, hu, e⟩ := blkOf_mem hm; have h9 := F2a.out hn2 u hu; have h8 := f2a.out hn2 u hu; simp at e; omega); (obtain ⟨hn2, u, hu, e⟩ := blkOf_mem hm; have h9 := F2b.out hn2 u hu; have h8 := f2b.out hn2 u hu; simp at e; omega)))
  replace nX03 := Lib.hid (hk.cell (p := ⟨ww7.heap.size, 3, none⟩) nX03.out (fun hm => by rcases List.mem_append.1 hm with hm | hm; (obtain ⟨hn2, u, hu, e⟩ := blkOf_mem hm; have h9 := F2a.out hn2 u hu; have h8 := f2a.out hn2 u hu; simp at e; omega); (obtain ⟨hn2, u, hu, e⟩ := blkOf_mem hm; have h9 := F2b.out hn2 u hu; have h8 := f2b.out hn2 u hu; simp at e; omega)))
  replace nX10 := Lib.hid (hk.cell (p := ⟨ww9.heap.size, 0, none⟩) nX10.out (fun hm => by rcases List.mem_append.1 hm with hm | hm; (obtain ⟨hn2, u, hu, e⟩ := blkOf_mem hm; have h9 := F2a.out hn2 u hu; have h8 := f2a.out hn2 u hu; simp at e; omega); (obtain ⟨hn2, u, hu, e⟩ := blkOf_mem hm; have h9 := F2b.out hn2 u hu; have h8 := f2b.out hn2 u hu; simp at e; omega)))
  replace nX11 := Lib.hid (hk.cell (p := ⟨ww9.heap.size, 1, none⟩) nX11.out (fun hm => by rcases List.mem_append.1 hm with hm | hm; (obtain ⟨hn2, u, hu, e⟩ := blkOf_mem hm; have h9 := F2a.out hn2 u hu; have h8 := f2a.out hn2 u hu; simp at e; omega); (obtain ⟨hn2, u, hu, e⟩ := blkOf_mem hm; have h9 := F2b.out hn2 u hu; have h8 := f2b.out hn2 u hu; simp at e; omega)))
  replace nX12 := Lib.hid (hk.cell (p := ⟨ww9.heap.size, 2, none⟩) nX12.out (fun hm => by rcases List.mem_append.1 hm with hm | hm; (obtain ⟨hn2, u, hu, e⟩ := blkOf_mem hm; have h9 := F2a.out hn2 u hu; have h8 := f2a.out hn2 u hu; simp at e; omega); (obtain ⟨hn2, u, hu, e⟩ := blkOf_mem hm; have h9 := F2b.out hn2 u hu; have h8 := f2b.out hn2 u hu; simp at e; omega)))
  replace nX13 := Lib.hid (hk.cell (p := ⟨ww9.heap.size, 3, none⟩) nX13.out (fun hm => by rcases List.mem_append.1 hm with hm | hm; (obtain ⟨hn2, u, hu, e⟩ := blkOf_mem hm; have h9 := F2a.out hn2 u hu; have h8 := f2a.out hn2 u hu; simp at e; omega); (obtain ⟨hn2, u, hu, e⟩ := blkOf_mem hm; have h9 := F2b.out hn2 u hu; have h8 := f2b.out hn2 u hu; simp at e; omega)))
  replace nG0 := Lib.hid (hk.cell (p := ⟨ww11.heap.size, 0, none⟩) nG0.out (fun hm => by rcases List.mem_append.1 hm with hm | hm; (obtain ⟨hn2, u, hu, e⟩ := blkOf_mem hm; have h9 := F2a.out hn2 u hu; have h8 := f2a.out hn2 u hu; simp at e; omega); (obtain ⟨hn2, u, hu, e⟩ := blkOf_mem hm; have h9 := F2b.out hn2 u hu; have h8 := f2b.out hn2 u hu; simp at e; omega)))
  replace nG1 := Lib.hid (hk.cell (p := ⟨ww11.heap.size, 1, none⟩) nG1.out (fun hm => by rcases List.mem_append.1 hm with hm | hm; (obtain ⟨hn2, u, hu, e⟩ := blkOf_mem hm; have h9 := F2a.out hn2 u hu; have h8 := f2a.out hn2 u hu; simp at e; omega); (obtain ⟨hn2, u, hu, e⟩ := blkOf_mem hm; have h9 := F2b.out hn2 u hu; have h8 := f2b.out hn2 u hu; simp at e; omega)))
  replace nG2 := Lib.hid (hk.cell (p := ⟨ww11.heap.size, 2, none⟩) nG2.out (fun hm => by rcases List.mem_append.1 hm with hm | hm; (obtain ⟨hn2, u, hu, e⟩ := blkOf_mem hm; have h9 := F2a.out hn2 u hu; have h8 := f2a.out hn2 u hu; simp at e; omega); (obtain ⟨hn2, u, hu, e⟩ := blkOf_mem hm; have h9 := F2b.out hn2 u hu; have h8 := f2b.out hn2 u hu; simp at e; omega)))
  replace nG3 := Lib.hid (hk.cell (p := ⟨ww11.heap.size, 3, none⟩) nG3.out (fun hm => by rcases List.mem_append.1 hm with hm | hm; (obtain ⟨hn2, u, hu, e⟩ := blkOf_mem hm; have h9 := F2a.out hn2 u hu; have h8 := f2a.out hn2 u hu; simp at e; omega); (obtain ⟨hn2, u, hu, e⟩ := blkOf_mem hm; have h9 := F2b.out hn2 u hu; have h8 := f2b.out hn2 u hu; simp at e; omega)))
  replace nG4 := Lib.hid (hk.cell (p := ⟨ww11.heap.size, 4, none⟩) nG4.out (fun hm => by rcases List.mem_append.1 hm with hm | hm; (obtain ⟨hn2, u, hu, e⟩ := blkOf_mem hm; have h9 := F2a.out hn2 u hu; have h8 := f2a.out hn2 u hu; simp at e; omega); (obtain ⟨hn2, u, hu, e⟩ := blkOf_mem hm; have h9 := F2b.out hn2 u hu; have h8 := f2b.out hn2 u hu; simp at e; omega)))
  replace KT := Lib.hid (KT.out.trans hk (fun hx0 hx hlt => by rcases List.mem_append.1 hx with hm | hm; (obtain ⟨hn2, u, hu, e⟩ := blkOf_mem hm; have h9 := F2a.out hn2 u hu; have h8 := f2a.out hn2 u hu; omega); (obtain ⟨hn2, u, hu, e⟩ := blkOf_mem hm; have h9 := F2b.out hn2 u hu; have h8 := f2b.out hn2 u hu; omega)))
  clear hk
  have hqn : decide (1 + ((mag rv.lo).length : Int) + ((mag rv.hi).length : Int) < 0) = false := decide_eq_false (by omega)
  have hq0 : (0 : Int) ≤ 1 + ((mag rv.lo).length : Int) + ((mag rv.hi).length : Int) := by omega
  have tG0 := nG0.out
  have tG1 := nG1.out
  have tG2 := nG2.out
  have tG3 := nG3.out
  have tG4 := nG4.out
  go_wp2_with fail
  clear tG0 tG1 tG2 tG3 tG4
  refine (heldSpanResult_any _ _ _ _ _ _ _ _ _ 1 _ SMa.out.rd SMb.out.rd (by omega) (by omega) (by omega)).mono ?_
  rintro e ww22 ⟨rfl, hk⟩
  have z22 := hk.size
  replace nAX0 := kc hk nAX0
  replace nAX1 := kc hk nAX1
  replace nAX2 := kc hk nAX2
  replace nAX3 := kc hk nAX3
  replace nAY0 := kc hk nAY0
  replace nAY1 := kc hk nAY1
  replace nAY2 := kc hk nAY2
  replace nAY3 := kc hk nAY3
  replace HRA := Lib.hid (HRA.out.kept0 hk)
  replace HRB := Lib.hid (HRB.out.kept0 hk)
  replace HRC := Lib.hid (HRC.out.kept0 hk)
  replace HRD := Lib.hid (HRD.out.kept0 hk)
  replace nW0 := kc hk nW0
  replace nW1 := kc hk nW1
  replace nW2 := kc hk nW2
  replace nW3 := kc hk nW3
  replace nW4 := kc hk nW4
  replace S1a := Lib.hid (S1a.out.kept0 hk)
  replace S1b := Lib.hid (S1b.out.kept0 hk)
  replace nX00 := kc hk nX00
  replace nX01 := kc hk nX01
  replace nX02 := kc hk nX02
  replace nX03 := kc hk nX03
  replace nX10 := kc hk nX10
  replace nX11 := kc hk nX11
  replace nX12 := kc hk nX12
  replace nX13 := kc hk nX13
  replace nG0 := kc hk nG0
  replace nG1 := kc hk nG1
  replace nG2 := kc hk nG2
  replace nG3 := kc hk nG3
  replace nG4 := kc hk nG4
  replace SMa := Lib.hid (SMa.out.kept0 hk)
  replace SMb := Lib.hid (SMb.out.kept0 hk)
  replace KT := Lib.hid (KT.out.trans0 hk)
  clear hk
  have tAX0 := nAX0.out
  have tAX1 := nAX1.out
  have tAX2 := nAX2.out
  have tAX3 := nAX3.out
  have tAY0 := nAY0.out
  have tAY1 := nAY1.out
  have tAY2 := nAY2.out
  have tAY3 := nAY3.out
  go_wp2_with fail
  clear tAX0 tAX1 tAX2 tAX3 tAY0 tAY1 tAY2 tAY3
  have tAX0 := nAX0.out
  have tAX1 := nAX1.out
  have tAX2 := nAX2.out
  have tAX3 := nAX3.out
  have tAY0 := nAY0.out
  have tAY1 := nAY1.out
  have tAY2 := nAY2.out
  have tAY3 := nAY3.out
  go_upto_region 31 with fail
  have hUs : w.heap.size + 2 ≤ ww22.heap.size := by omega
  go_cut [13] (fun s wx => Hid (BoxS ww22 (addS p xs q ys p' xs' q' ys') s wx))
  case first =>
    go_region_held3 (fun w' => w'.cell? ⟨w.heap.size, 0, none⟩ = some (.bool p) ∧ w'.cell? ⟨w.heap.size, 1, none⟩ = some (.slice a n c) ∧ w'.cell? ⟨w.heap.size, 2, none⟩ = some (.bool q) ∧ w'.cell? ⟨w.heap.size, 3, none⟩ = some (.slice b m d) ∧ w'.cell? ⟨w.heap.size + 1, 0, none⟩ = some (.bool p') ∧ w'.cell? ⟨w.heap.size + 1, 1, none⟩ = some (.slice a' n' c') ∧ w'.cell? ⟨w.heap.size + 1, 2, none⟩ = some (.bool q') ∧ w'.cell? ⟨w.heap.size + 1, 3, none⟩ = some (.slice b' m' d') ∧ Hid (Kept [] ww22 w'))
      ((go_split_ands; (try refine ⟨?_, ?_, ?_, ?_, ?_, ?_, ?_, ?_, ?_⟩) <;> with_reducible first | assumption | exact Kept.set5n (by assumption) (by omega) | exact cell_set5 (by assumption) (by (try dsimp only); omega) | exact drew_alloc_cell (by assumption) | exact drew_cell (by assumption) | exact Kept.allocH (by assumption) | exact alloc_cell (by assumption) | exact Lib.hid (Kept.trans0 (Hid.out (by assumption)) (by assumption)) | exact Kept.cell (by assumption) (by assumption) (by simp) | exact Lib.hid ((Kept.refl _ _).drew) | exact Lib.hid (((Kept.refl _ _).alloc _).drew)))
      (first
        | (go_at_call_of 11 (Value.agg #[Value.bool p, Value.slice a n c, Value.bool q, Value.slice b m d]); go_split_ands; refine (toSpan_any _ _ _ _ _ _ _ _ _ _ _ (HRA.out.kept0 (Hid.out (by assumption))) (HRB.out.kept0 (Hid.out (by assumption))) (by omega) (by omega)).mono ?_; rintro e v23 ⟨gr40a, gr40b, rfl, qr40, or40, hb00, hb01, hk1⟩; rw [HLA.out]; rw [HLB.out]; have zk1 := hk1.size; (try simp only [World.size_drew, World.size_alloc] at zk1); (first | (obtain ⟨z0_, y0_, _⟩ := hk1.undrew.top (g := ww22.heap.size) rfl (by simp) 0 (v := .int .i64 0) rfl; obtain ⟨z1_, y1_, _⟩ := hk1.undrew.top (g := ww22.heap.size) rfl (by simp) 1 (v := .bool false) rfl; obtain ⟨z2_, y2_, _⟩ := hk1.undrew.top (g := ww22.heap.size) rfl (by simp) 2 (v := .slice none 0 0) rfl; obtain ⟨z3_, y3_, _⟩ := hk1.undrew.top (g := ww22.heap.size) rfl (by simp) 3 (v := .bool false) rfl; obtain ⟨z4_, y4_, _⟩ := hk1.undrew.top (g := ww22.heap.size) rfl (by simp) 4 (v := .slice none 0 0) rfl) | skip))
        | (go_at_call_of 11 (Value.agg #[Value.bool p', Value.slice a' n' c', Value.bool q', Value.slice b' m' d']); go_split_ands; refine (toSpan_any _ _ _ _ _ _ _ _ _ _ _ (HRC.out.kept0 (Hid.out (by assumption))) (HRD.out.kept0 (Hid.out (by assumption))) (by omega) (by omega)).mono ?_; rintro e v24 ⟨gr41a, gr41b, rfl, qr41, or41, hb10, hb11, hk2⟩; rw [HLC.out]; rw [HLD.out]; have zk2 := hk2.size; (try simp only [World.size_alloc] at zk2); have hb00 := hk2.blk (show Blk _ gr40a xs by first | exact hb00 | exact hb00.alloc _) (by simp); have hb01 := hk2.blk (show Blk _ gr40b ys by first | exact hb01 | exact hb01.alloc _) (by simp); (first | (obtain ⟨z0_, y0_, _⟩ := hk2.top (g := v23.heap.size) rfl (by simp) 0 (v := .int .i64 0) rfl; obtain ⟨z1_, y1_, _⟩ := hk2.top (g := v23.heap.size) rfl (by simp) 1 (v := .bool false) rfl; obtain ⟨z2_, y2_, _⟩ := hk2.top (g := v23.heap.size) rfl (by simp) 2 (v := .slice none 0 0) rfl; obtain ⟨z3_, y3_, _⟩ := hk2.top (g := v23.heap.size) rfl (by simp) 3 (v := .bool false) rfl; obtain ⟨z4_, y4_, _⟩ := hk2.top (g := v23.heap.size) rfl (by simp) 4 (v := .slice none 0 0) rfl) | (replace y0_ := hk2.free' z0_ y0_ (by simp); replace y1_ := hk2.free' z1_ y1_ (by simp); replace y2_ := hk2.free' z2_ y2_ (by simp); replace y3_ := hk2.free' z3_ y3_ (by simp); replace y4_ := hk2.free' z4_ y4_ (by simp); replace z0_ := hk2.cell z0_ (by simp); replace z1_ := hk2.cell z1_ (by simp); replace z2_ := hk2.cell z2_ (by simp); replace z3_ := hk2.cell z3_ (by simp); replace z4_ := hk2.cell z4_ (by simp)) | skip))
        | (go_at_call 15; go_split_ands; refine (AddSpan_any _ _ _ _ _ _ _ _ _ _ _ _ _ _ _ _ _ _ _ _ _ (sl_new (show Blk _ gr40a xs by first | exact hb00 | exact hb00.alloc _) HLA.out (by omega)) (sl_new (show Blk _ gr40b ys by first | exact hb01 | exact hb01.alloc _) HLB.out (by omega)) (sl_new (show Blk _ gr41a xs' by first | exact hb10 | exact hb10.alloc _) HLC.out (by omega)) (sl_new (show Blk _ gr41b ys' by first | exact hb11 | exact hb11.alloc _) HLD.out (by omega))).mono ?_; rintro e v25 ⟨a9, c9, b9, d9, rfl, hs, hs', hf, hf', hne, hk3⟩; have zk3 := hk3.size; (try simp only [World.size_alloc] at zk3); have sc0 : v25.cell? ⟨w.heap.size, 0, none⟩ = some (.bool p) := hk3.cell (by assumption) (by simp); have sc1 : v25.cell? ⟨w.heap.size, 1, none⟩ = some (.slice a n c) := hk3.cell (by assumption) (by simp); have sc2 : v25.cell? ⟨w.heap.size, 2, none⟩ = some (.bool q) := hk3.cell (by assumption) (by simp); have sc3 : v25.cell? ⟨w.heap.size, 3, none⟩ = some (.slice b m d) := hk3.cell (by assumption) (by simp); have sc4 : v25.cell? ⟨w.heap.size + 1, 0, none⟩ = some (.bool p') := hk3.cell (by assumption) (by simp); have sc5 : v25.cell? ⟨w.heap.size + 1, 1, none⟩ = some (.slice a' n' c') := hk3.cell (by assumption) (by simp); have sc6 : v25.cell? ⟨w.heap.size + 1, 2, none⟩ = some (.bool q') := hk3.cell (by assumption) (by simp); have sc7 : v25.cell? ⟨w.heap.size + 1, 3, none⟩ = some (.slice b' m' d') := hk3.cell (by assumption) (by simp); have sck := Lib.hid (Kept.trans0 (Hid.out (by assumption : Hid (Kept [] ww22 _))) hk3); (first | (obtain ⟨z0_, y0_, _⟩ := hk3.top (g := v24.heap.size) rfl (by simp) 0 (v := .int .i64 0) rfl; obtain ⟨z1_, y1_, _⟩ := hk3.top (g := v24.heap.size) rfl (by simp) 1 (v := .bool false) rfl; obtain ⟨z2_, y2_, _⟩ := hk3.top (g := v24.heap.size) rfl (by simp) 2 (v := .slice none 0 0) rfl; obtain ⟨z3_, y3_, _⟩ := hk3.top (g := v24.heap.size) rfl (by simp) 3 (v := .bool false) rfl; obtain ⟨z4_, y4_, _⟩ := hk3.top (g := v24.heap.size) rfl (by simp) 4 (v := .slice none 0 0) rfl) | (replace y0_ := hk3.free' z0_ y0_ (by simp); replace y1_ := hk3.free' z1_ y1_ (by simp); replace y2_ := hk3.free' z2_ y2_ (by simp); replace y3_ := hk3.free' z3_ y3_ (by simp); replace y4_ := hk3.free' z4_ y4_ (by simp); replace z0_ := hk3.cell z0_ (by simp); replace z1_ := hk3.cell z1_ (by simp); replace z2_ := hk3.cell z2_ (by simp); replace z3_ := hk3.cell z3_ (by simp); replace z4_ := hk3.cell z4_ (by simp)) | skip)))
    all_goals
      go_wp2_with fail
      go_meet
      first | (with_reducible refine Lib.hid (boxS_last ?_ hs hs' hf hf' hne sck); (try simp only [World.size_alloc]); omega) | (with_reducible refine Lib.hid (boxS_set ?_ ?_ hs hs' hf hf' hne z0_ z1_ z2_ z3_ z4_ sck); omega; (try simp only [World.size_alloc]); omega)
  case rest =>
  have hc := hcut.out
  clear hcut
  clear tAX0 tAX1 tAX2 tAX3 tAY0 tAY1 tAY2 tAY3
  obtain ⟨g4, a4, c4, b4, d4, rfl, e0, e1, e2, e3, e4, hg4, hgl4, hs, hs', hf, hf', hne, hk⟩ := hc
  obtain ⟨ww26, rfl⟩ : ∃ w' : World, w' = wc := ⟨_, rfl⟩
  (try rw [← HV.out] at e0 e1 e2 e3 e4)
  rw [← HV.out] at hs hs' hf hf' hne
  (try rw [← HV.out])
  have S4a := Lib.hid hs
  have S4b := Lib.hid hs'
  have f4a := Lib.hid hs.lt
  have f4b := Lib.hid hs'.lt
  have F4a := Lib.hid hf
  have F4b := Lib.hid hf'
  have NE4 := Lib.hid hne
  clear hs hs' hf hf' hne
  have z26 := hk.size
  replace nAX0 := kc hk nAX0
  replace nAX1 := kc hk nAX1
  replace nAX2 := kc hk nAX2
  replace nAX3 := kc hk nAX3
  replace nAY0 := kc hk nAY0
  replace nAY1 := kc hk nAY1
  replace nAY2 := kc hk nAY2
  replace nAY3 := kc hk nAY3
  replace HRA := Lib.hid (HRA.out.kept0 hk)
  replace HRB := Lib.hid (HRB.out.kept0 hk)
  replace HRC := Lib.hid (HRC.out.kept0 hk)
  replace HRD := Lib.hid (HRD.out.kept0 hk)
  replace nW0 := kc hk nW0
  replace nW1 := kc hk nW1
  replace nW2 := kc hk nW2
  replace nW3 := kc hk nW3
  replace nW4 := kc hk nW4
  replace S1a := Lib.hid (S1a.out.kept0 hk)
  replace S1b := Lib.hid (S1b.out.kept0 hk)
  replace nX00 := kc hk nX00
  replace nX01 := kc hk nX01
  replace nX02 := kc hk nX02
  replace nX03 := kc hk nX03
  replace nX10 := kc hk nX10
  replace nX11 := kc hk nX11
  replace nX12 := kc hk nX12
  replace nX13 := kc hk nX13
  replace nG0 := kc hk nG0
  replace nG1 := kc hk nG1
  replace nG2 := kc hk nG2
  replace nG3 := kc hk nG3
  replace nG4 := kc hk nG4
  replace SMa := Lib.hid (SMa.out.kept0 hk)
  replace SMb := Lib.hid (SMb.out.kept0 hk)
  replace KT := Lib.hid (KT.out.trans0 hk)
  clear hk
  have nH0 := Lib.hid e0
  have nH1 := Lib.hid e1
  have nH2 := Lib.hid e2
  have nH3 := Lib.hid e3
  have nH4 := Lib.hid e4
  clear e0 e1 e2 e3 e4
  have tH0 := nH0.out
  have tH1 := nH1.out
  have tH2 := nH2.out
  have tH3 := nH3.out
  have tH4 := nH4.out
  have tW0 := nW0.out
  have tW1 := nW1.out
  have tW2 := nW2.out
  have tW3 := nW3.out
  have tW4 := nW4.out
  go_wp2_with fail
  clear tH0 tH1 tH2 tH3 tH4 tW0 tW1 tW2 tW3 tW4
  refine (eqSpanResult_yes _ _ _ _ _ _ _ _ _ _ _ _ _ _ _ _ S4a.out.rd S1a.out.rd S4b.out.rd S1b.out.rd).mono ?_
  rintro e ww27 ⟨rfl, hk⟩
  have z27 := hk.size
  replace nAX0 := kc hk nAX0
  replace nAX1 := kc hk nAX1
  replace nAX2 := kc hk nAX2
  replace nAX3 := kc hk nAX3
  replace nAY0 := kc hk nAY0
  replace nAY1 := kc hk nAY1
  replace nAY2 := kc hk nAY2
  replace nAY3 := kc hk nAY3
  replace HRA := Lib.hid (HRA.out.kept0 hk)
  replace HRB := Lib.hid (HRB.out.kept0 hk)
  replace HRC := Lib.hid (HRC.out.kept0 hk)
  replace HRD := Lib.hid (HRD.out.kept0 hk)
  replace nW0 := kc hk nW0
  replace nW1 := kc hk nW1
  replace nW2 := kc hk nW2
  replace nW3 := kc hk nW3
  replace nW4 := kc hk nW4
  replace S1a := Lib.hid (S1a.out.kept0 hk)
  replace S1b := Lib.hid (S1b.out.kept0 hk)
  replace nX00 := kc hk nX00
  replace nX01 := kc hk nX01
  replace nX02 := kc hk nX02
  replace nX03 := kc hk nX03
  replace nX10 := kc hk nX10
  replace nX11 := kc hk nX11
  replace nX12 := kc hk nX12
  replace nX13 := kc hk nX13
  replace nG0 := kc hk nG0
  replace nG1 := kc hk nG1
  replace nG2 := kc hk nG2
  replace nG3 := kc hk nG3
  replace nG4 := kc hk nG4
  replace SMa := Lib.hid (SMa.out.kept0 hk)
  replace SMb := Lib.hid (SMb.out.kept0 hk)
  replace nH0 := kc hk nH0
  replace nH1 := kc hk nH1
  replace nH2 := kc hk nH2
  replace nH3 := kc hk nH3
  replace nH4 := kc hk nH4
  replace S4a := Lib.hid (S4a.out.kept0 hk)
  replace S4b := Lib.hid (S4b.out.kept0 hk)
  replace KT := Lib.hid (KT.out.trans0 hk)
  clear hk
  have tG0 := nG0.out
  have tG1 := nG1.out
  have tG2 := nG2.out
  have tG3 := nG3.out
  have tG4 := nG4.out
  go_wp2_with fail
  clear tG0 tG1 tG2 tG3 tG4
  refine (heldSpanResult_any _ _ _ _ _ _ _ _ _ 1 _ SMa.out.rd SMb.out.rd (by omega) (by omega) (by omega)).mono ?_
  rintro e ww28 ⟨rfl, hk⟩
  have z28 := hk.size
  replace nAX0 := kc hk nAX0
  replace nAX1 := kc hk nAX1
  replace nAX2 := kc hk nAX2
  replace nAX3 := kc hk nAX3
  replace nAY0 := kc hk nAY0
  replace nAY1 := kc hk nAY1
  replace nAY2 := kc hk nAY2
  replace nAY3 := kc hk nAY3
  replace HRA := Lib.hid (HRA.out.kept0 hk)
  replace HRB := Lib.hid (HRB.out.kept0 hk)
  replace HRC := Lib.hid (HRC.out.kept0 hk)
  replace HRD := Lib.hid (HRD.out.kept0 hk)
  replace nW0 := kc hk nW0
  replace nW1 := kc hk nW1
  replace nW2 := kc hk nW2
  replace nW3 := kc hk nW3
  replace nW4 := kc hk nW4
  replace S1a := Lib.hid (S1a.out.kept0 hk)
  replace S1b := Lib.hid (S1b.out.kept0 hk)
  replace nX00 := kc hk nX00
  replace nX01 := kc hk nX01
  replace nX02 := kc hk nX02
  replace nX03 := kc hk nX03
  replace nX10 := kc hk nX10
  replace nX11 := kc hk nX11
  replace nX12 := kc hk nX12
  replace nX13 := kc hk nX13
  replace nG0 := kc hk nG0
  replace nG1 := kc hk nG1
  replace nG2 := kc hk nG2
  replace nG3 := kc hk nG3
  replace nG4 := kc hk nG4
  replace SMa := Lib.hid (SMa.out.kept0 hk)
  replace SMb := Lib.hid (SMb.out.kept0 hk)
  replace nH0 := kc hk nH0
  replace nH1 := kc hk nH1
  replace nH2 := kc hk nH2
  replace nH3 := kc hk nH3
  replace nH4 := kc hk nH4
  replace S4a := Lib.hid (S4a.out.kept0 hk)
  replace S4b := Lib.hid (S4b.out.kept0 hk)
  replace KT := Lib.hid (KT.out.trans0 hk)
  clear hk
  go_wp2_with fail
  go_ret
  exact ⟨rfl, KT.out⟩

end Go.Proofs.Ytaemfcllodmlkaa
