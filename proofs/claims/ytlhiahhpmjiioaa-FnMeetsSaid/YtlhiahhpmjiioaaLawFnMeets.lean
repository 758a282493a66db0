/-
  The walk of the law on spans that meet. No condition but that the argument reads as bytes.
-/
import Derived.Deep.RegionHeld3
import Derived.Deep.DrawnRows
import Derived.Deep.DeepCutAuto
import Derived.Test.YtlhiahhpmjiioaaDrwA
import Derived.Test.YtlhiahhpmjiioaaDrwM2
import Derived.Test.YtlhiahhpmjiioaaDrwW2
import Derived.Test.YtlhiahhpmjiioaaLwT
import Derived.Test.YtlhiahhpmjiioaaMeetA
import Derived.Test.YtlhiahhpmjiioaaMeetB
import Derived.Test.YtlhiahhpmjiioaaSpanN
import Derived.Test.YtlhiahhpmjiioaaSpanC
import Derived.Test.YtlhiahhpmjiioaaSpanD
namespace Go.Proofs.Ytlhiahhpmjiioaa
open Go.RowKit

theorem field_sr0 (v0 v1 v2 v3 v4 : Value) (w : World) : Sem.run Try.prog (Instr.field 32 (.agg #[v0, v1, v2, v3, v4]) 0) w = .ok v0 w := by kernel_rfl
theorem field_sr1 (v0 v1 v2 v3 v4 : Value) (w : World) : Sem.run Try.prog (Instr.field 32 (.agg #[v0, v1, v2, v3, v4]) 1) w = .ok (.agg #[v1, v2, v3, v4]) w := by kernel_rfl
attribute [local go_sem ↓] field_sr0 field_sr1
theorem spanR5 {w w' : World} {c l h : Int} {e : Ending} (hh : SpanR w ⟨c, l, h⟩ e w') : ∃ a d b d', e = .returned (.agg #[.int .i64 c, .bool (isNeg l), .slice a (mag l).length d, .bool (isNeg h), .slice b (mag h).length d']) ∧ Sl w' a (mag l).length d (mag l) ∧ Sl w' b (mag h).length d' (mag h) ∧ Kept [] w w' := by
  obtain ⟨a, d, b, d', he, h1, h2, _, _, _, hk⟩ := hh
  exact ⟨a, d, b, d', he, h1, h2, hk⟩
theorem spanM5 {w w' : World} {c l h : Int} {e : Ending} (hh : SpanM w ⟨c, l, h⟩ e w') : ∃ a d b d', e = .returned (.agg #[.int .i64 c, .bool (isNeg l), .slice a (mag l).length d, .bool (isNeg h), .slice b (mag h).length d']) ∧ Sl w' a (mag l).length d (mag l) ∧ Sl w' b (mag h).length d' (mag h) ∧ Kept [] w w' := by
  obtain ⟨a, d, b, d', he, h1, h2, _, _, hk⟩ := hh
  exact ⟨a, d, b, d', he, h1, h2, hk⟩



set_option maxHeartbeats 40000000 in
set_option maxRecDepth 200000 in
theorem FnMeets_walk (a : Option Addr) (n c : Nat) (bs : List Int) (w : World) (h0 : n ≤ 1048576 → Rd8 w a n bs) :
    Calls Try.prog 3 #[.slice a n c] w (Ans w (.bool true)) := by
  by_cases hbig0 : 1048576 < n
  · go_enter Try.func3, Try.ntmps3
    go_wp2_with fail
    refine (lwBig_any _ _ _ _).mono ?_
    rintro e w1 ⟨rfl, rfl⟩
    rw [decide_eq_true (by omega)]
    go_wp2_with fail
    go_ret
    exact ⟨rfl, Kept.refl _ _⟩
  have HR := Lib.hid (h0 (by omega))
  clear h0
  go_enter Try.func3, Try.ntmps3
  go_wp2_with fail
  refine (lwBig_any _ _ _ _).mono ?_
  rintro e w0 ⟨rfl, hw⟩
  subst hw
  rw [decide_eq_false (by omega)]
  have KK := Lib.hid (Kept.refl [] w0)
  have HL := Lib.hid (SlL.nil w0)
  go_wp2_with fail
  refine (DrawMeetSpan_any _ _ _ _ _ (HR.out.kept KK.out (by simp))).mono ?_
  rintro e w1 ⟨p, a1, c1, xs, q, a2, c2, ys, p', b1, d1, us, q', b2, d2, vs, rfl, h1, h2, h3, h4, hk⟩
  replace KK := Lib.hid (KK.out.trans0 hk)
  replace HL := Lib.hid ((((((HL.out.kept0 hk).cons h1.1).cons h2.1).cons h3.1).cons h4.1))
  clear h1 h2 h3 h4 hk
  obtain ⟨w2, hb⟩ : ∃ w', w' = (w1.alloc (.cells #[.bool p, .slice a1 xs.length c1, .bool q, .slice a2 ys.length c2] 28)).alloc (.cells #[.bool p', .slice b1 us.length d1, .bool q', .slice b2 vs.length d2] 28) := ⟨_, rfl⟩
  have HB := Lib.hid hb
  clear hb
  have hk : Kept [] w1 w2 := by rw [HB.out]; exact ((Kept.refl [] w1).alloc _).alloc _
  have XA : Hid (Bx w2 w1.heap.size [.bool p, .slice a1 xs.length c1, .bool q, .slice a2 ys.length c2]) := by rw [HB.out]; exact Lib.hid ((Bx.new _ _ _).kept0 ((Kept.refl [] _).alloc _))
  have XB : Hid (Bx w2 (w1.heap.size + 1) [.bool p', .slice b1 us.length d1, .bool q', .slice b2 vs.length d2]) := by rw [HB.out]; have := Bx.new (w1.alloc (.cells #[.bool p, .slice a1 xs.length c1, .bool q, .slice a2 ys.length c2] 28)) [.bool p', .slice b1 us.length d1, .bool q', .slice b2 vs.length d2] 28; simp only [World.size_alloc] at this; exact Lib.hid this
  replace KK := Lib.hid (KK.out.trans0 hk)
  replace HL := Lib.hid ((HL.out.kept0 hk))
  clear hk
  go_upto_region 4 with fail
  rw [← HB.out]
  clear HB
  obtain ⟨⟨mc, ml, mh⟩, hv⟩ : ∃ v, v = meetS p xs q ys p' us q' vs := ⟨_, rfl⟩
  have HM := Lib.hid hv
  clear hv
  have cA0 := XA.out.at 0 (by simp) (v := .bool p) rfl
  have cA1 := XA.out.at 1 (by simp) (v := .slice a1 xs.length c1) rfl
  have cA2 := XA.out.at 2 (by simp) (v := .bool q) rfl
  have cA3 := XA.out.at 3 (by simp) (v := .slice a2 ys.length c2) rfl
  have cB0 := XB.out.at 0 (by simp) (v := .bool p') rfl
  have cB1 := XB.out.at 1 (by simp) (v := .slice b1 us.length d1) rfl
  have cB2 := XB.out.at 2 (by simp) (v := .bool q') rfl
  have cB3 := XB.out.at 3 (by simp) (v := .slice b2 vs.length d2) rfl
  go_wp2_with fail
  refine (MeetSpan_any _ _ _ _ _ _ _ _ _ _ _ _ _ _ _ _ _ _ _ _ _  (HL.out.at (show (a1, c1, xs) ∈ _ by simp)) (HL.out.at (show (a2, c2, ys) ∈ _ by simp)) (HL.out.at (show (b1, d1, us) ∈ _ by simp)) (HL.out.at (show (b2, d2, vs) ∈ _ by simp))).mono ?_
  rw [← HM.out]
  intro e w3 hr
  obtain ⟨ma, mca, mb, mcb, rfl, hq1, hq2, hk⟩ := spanR5 hr
  clear hr
  clear cA0 cA1 cA2 cA3 cB0 cB1 cB2 cB3
  replace KK := Lib.hid (KK.out.trans0 hk)
  replace HL := Lib.hid ((((HL.out.kept0 hk).cons hq1).cons hq2))
  replace XA := Lib.hid (XA.out.kept0 hk)
  replace XB := Lib.hid (XB.out.kept0 hk)
  clear hk hq1 hq2
  obtain ⟨w4, hb⟩ : ∃ w', w' = w3.alloc (.cells #[.int .i64 mc, .bool (isNeg ml), .slice ma (mag ml).length mca, .bool (isNeg mh), .slice mb (mag mh).length mcb] 32) := ⟨_, rfl⟩
  have HB := Lib.hid hb
  clear hb
  have hk : Kept [] w3 w4 := by rw [HB.out]; exact (Kept.refl [] w3).alloc _
  have XM : Hid (Bx w4 w3.heap.size [.int .i64 mc, .bool (isNeg ml), .slice ma (mag ml).length mca, .bool (isNeg mh), .slice mb (mag mh).length mcb]) := by rw [HB.out]; exact Lib.hid (Bx.new _ _ _)
  replace KK := Lib.hid (KK.out.trans0 hk)
  replace HL := Lib.hid ((HL.out.kept0 hk))
  replace XA := Lib.hid (XA.out.kept0 hk)
  replace XB := Lib.hid (XB.out.kept0 hk)
  clear hk
  go_upto_region 5 with fail
  rw [← HB.out]
  clear HB
  obtain ⟨⟨hc, hl, hh⟩, hv⟩ : ∃ v, v = hullS p xs q ys p' us q' vs := ⟨_, rfl⟩
  have HH := Lib.hid hv
  clear hv
  have cA0 := XA.out.at 0 (by simp) (v := .bool p) rfl
  have cA1 := XA.out.at 1 (by simp) (v := .slice a1 xs.length c1) rfl
  have cA2 := XA.out.at 2 (by simp) (v := .bool q) rfl
  have cA3 := XA.out.at 3 (by simp) (v := .slice a2 ys.length c2) rfl
  have cB0 := XB.out.at 0 (by simp) (v := .bool p') rfl
  have cB1 := XB.out.at 1 (by simp) (v := .slice b1 us.length d1) rfl
  have cB2 := XB.out.at 2 (by simp) (v := .bool q') rfl
  have cB3 := XB.out.at 3 (by simp) (v := .slice b2 vs.length d2) rfl
  go_wp2_with fail
  refine (HullSpan_any _ _ _ _ _ _ _ _ _ _ _ _ _ _ _ _ _ _ _ _ _  (HL.out.at (show (a1, c1, xs) ∈ _ by simp)) (HL.out.at (show (a2, c2, ys) ∈ _ by simp)) (HL.out.at (show (b1, d1, us) ∈ _ by simp)) (HL.out.at (show (b2, d2, vs) ∈ _ by simp))).mono ?_
  rw [← HH.out]
  intro e w5 hr
  obtain ⟨ha, hca, hb, hcb, rfl, hq1, hq2, hk⟩ := spanR5 hr
  clear hr
  clear cA0 cA1 cA2 cA3 cB0 cB1 cB2 cB3
  replace KK := Lib.hid (KK.out.trans0 hk)
  replace HL := Lib.hid ((((HL.out.kept0 hk).cons hq1).cons hq2))
  replace XA := Lib.hid (XA.out.kept0 hk)
  replace XB := Lib.hid (XB.out.kept0 hk)
  replace XM := Lib.hid (XM.out.kept0 hk)
  clear hk hq1 hq2
  obtain ⟨w6, hb⟩ : ∃ w', w' = w5.alloc (.cells #[.int .i64 hc, .bool (isNeg hl), .slice ha (mag hl).length hca, .bool (isNeg hh), .slice hb (mag hh).length hcb] 32) := ⟨_, rfl⟩
  have HB := Lib.hid hb
  clear hb
  have hk : Kept [] w5 w6 := by rw [HB.out]; exact (Kept.refl [] w5).alloc _
  have XH : Hid (Bx w6 w5.heap.size [.int .i64 hc, .bool (isNeg hl), .slice ha (mag hl).length hca, .bool (isNeg hh), .slice hb (mag hh).length hcb]) := by rw [HB.out]; exact Lib.hid (Bx.new _ _ _)
  replace KK := Lib.hid (KK.out.trans0 hk)
  replace HL := Lib.hid ((HL.out.kept0 hk))
  replace XA := Lib.hid (XA.out.kept0 hk)
  replace XB := Lib.hid (XB.out.kept0 hk)
  replace XM := Lib.hid (XM.out.kept0 hk)
  clear hk
  go_upto_region 6 with fail
  rw [← HB.out]
  clear HB
  obtain ⟨o, hv⟩ : ∃ v, v = orderS p xs q ys p' us q' vs := ⟨_, rfl⟩
  have HO := Lib.hid hv
  clear hv
  have cA0 := XA.out.at 0 (by simp) (v := .bool p) rfl
  have cA1 := XA.out.at 1 (by simp) (v := .slice a1 xs.length c1) rfl
  have cA2 := XA.out.at 2 (by simp) (v := .bool q) rfl
  have cA3 := XA.out.at 3 (by simp) (v := .slice a2 ys.length c2) rfl
  have cB0 := XB.out.at 0 (by simp) (v := .bool p') rfl
  have cB1 := XB.out.at 1 (by simp) (v := .slice b1 us.length d1) rfl
  have cB2 := XB.out.at 2 (by simp) (v := .bool q') rfl
  have cB3 := XB.out.at 3 (by simp) (v := .slice b2 vs.length d2) rfl
  go_wp2_with fail
  refine (OrderSpan_any _ _ _ _ _ _ _ _ _ _ _ _ _ _ _ _ _ _ _ _ _  (HL.out.at (show (a1, c1, xs) ∈ _ by simp)) (HL.out.at (show (a2, c2, ys) ∈ _ by simp)) (HL.out.at (show (b1, d1, us) ∈ _ by simp)) (HL.out.at (show (b2, d2, vs) ∈ _ by simp))).mono ?_
  rw [← HO.out]
  rintro e w7 ⟨rfl, hk⟩
  clear cA0 cA1 cA2 cA3 cB0 cB1 cB2 cB3
  replace KK := Lib.hid (KK.out.trans0 hk)
  replace HL := Lib.hid ((HL.out.kept0 hk))
  replace XA := Lib.hid (XA.out.kept0 hk)
  replace XB := Lib.hid (XB.out.kept0 hk)
  replace XM := Lib.hid (XM.out.kept0 hk)
  replace XH := Lib.hid (XH.out.kept0 hk)
  clear hk
  go_wp2_with fail
  refine (DrawIsWithin_any _ _ _ _ _ (HR.out.kept KK.out (by simp))).mono ?_
  rintro e w8 ⟨r, x1, e1, ws, s, x2, e2, zs, r', y1, g1, rs, s', y2, g2, ss, rfl, h1, h2, h3, h4, hk⟩
  replace KK := Lib.hid (KK.out.trans0 hk)
  replace HL := Lib.hid ((((((HL.out.kept0 hk).cons h1.1).cons h2.1).cons h3.1).cons h4.1))
  replace XA := Lib.hid (XA.out.kept0 hk)
  replace XB := Lib.hid (XB.out.kept0 hk)
  replace XM := Lib.hid (XM.out.kept0 hk)
  replace XH := Lib.hid (XH.out.kept0 hk)
  clear h1 h2 h3 h4 hk
  obtain ⟨w9, hb⟩ : ∃ w', w' = (w8.alloc (.cells #[.bool r, .slice x1 ws.length e1, .bool s, .slice x2 zs.length e2] 28)).alloc (.cells #[.bool r', .slice y1 rs.length g1, .bool s', .slice y2 ss.length g2] 28) := ⟨_, rfl⟩
  have HB := Lib.hid hb
  clear hb
  have hk : Kept [] w8 w9 := by rw [HB.out]; exact ((Kept.refl [] w8).alloc _).alloc _
  have XX : Hid (Bx w9 w8.heap.size [.bool r, .slice x1 ws.length e1, .bool s, .slice x2 zs.length e2]) := by rw [HB.out]; exact Lib.hid ((Bx.new _ _ _).kept0 ((Kept.refl [] _).alloc _))
  have XY : Hid (Bx w9 (w8.heap.size + 1) [.bool r', .slice y1 rs.length g1, .bool s', .slice y2 ss.length g2]) := by rw [HB.out]; have := Bx.new (w8.alloc (.cells #[.bool r, .slice x1 ws.length e1, .bool s, .slice x2 zs.length e2] 28)) [.bool r', .slice y1 rs.length g1, .bool s', .slice y2 ss.length g2] 28; simp only [World.size_alloc] at this; exact Lib.hid this
  replace KK := Lib.hid (KK.out.trans0 hk)
  replace HL := Lib.hid ((HL.out.kept0 hk))
  replace XA := Lib.hid (XA.out.kept0 hk)
  replace XB := Lib.hid (XB.out.kept0 hk)
  replace XM := Lib.hid (XM.out.kept0 hk)
  replace XH := Lib.hid (XH.out.kept0 hk)
  clear hk
  go_upto_region 8 with fail
  rw [← HB.out]
  clear HB
  obtain ⟨wi, hv⟩ : ∃ v, v = withinS r ws s zs r' rs s' ss := ⟨_, rfl⟩
  have HWI := Lib.hid hv
  clear hv
  have hos := order_small p xs q ys p' us q' vs
  rw [← HO.out] at hos
  have ew1 : IntKind.i64.wrap (- -o) = o := by rw [Int.neg_neg]; exact IntWalk.i64_in _ (by omega)
  have ew2 : - -o = o := Int.neg_neg o
  have ew3 : IntKind.i64.wrap o = o := IntWalk.i64_in _ (by omega)
  clear hos
  go_upto_region 8 with fail
  go_cut [90] (fun v wx => v = .bool false ∧ Hid (Kept [] w9 wx))
  case first =>
    have rA0 : ∀ w', Hid (Kept [] w9 w') → w'.cell? ⟨w1.heap.size, 0, none⟩ = some (.bool p) := fun w' k => k.out.cell (XA.out.at 0 (by simp) (v := .bool p) rfl) (by simp)
    have rA1 : ∀ w', Hid (Kept [] w9 w') → w'.cell? ⟨w1.heap.size, 1, none⟩ = some (.slice a1 xs.length c1) := fun w' k => k.out.cell (XA.out.at 1 (by simp) (v := .slice a1 xs.length c1) rfl) (by simp)
    have rA2 : ∀ w', Hid (Kept [] w9 w') → w'.cell? ⟨w1.heap.size, 2, none⟩ = some (.bool q) := fun w' k => k.out.cell (XA.out.at 2 (by simp) (v := .bool q) rfl) (by simp)
    have rA3 : ∀ w', Hid (Kept [] w9 w') → w'.cell? ⟨w1.heap.size, 3, none⟩ = some (.slice a2 ys.length c2) := fun w' k => k.out.cell (XA.out.at 3 (by simp) (v := .slice a2 ys.length c2) rfl) (by simp)
    have rB0 : ∀ w', Hid (Kept [] w9 w') → w'.cell? ⟨(w1.heap.size + 1), 0, none⟩ = some (.bool p') := fun w' k => k.out.cell (XB.out.at 0 (by simp) (v := .bool p') rfl) (by simp)
    have rB1 : ∀ w', Hid (Kept [] w9 w') → w'.cell? ⟨(w1.heap.size + 1), 1, none⟩ = some (.slice b1 us.length d1) := fun w' k => k.out.cell (XB.out.at 1 (by simp) (v := .slice b1 us.length d1) rfl) (by simp)
    have rB2 : ∀ w', Hid (Kept [] w9 w') → w'.cell? ⟨(w1.heap.size + 1), 2, none⟩ = some (.bool q') := fun w' k => k.out.cell (XB.out.at 2 (by simp) (v := .bool q') rfl) (by simp)
    have rB3 : ∀ w', Hid (Kept [] w9 w') → w'.cell? ⟨(w1.heap.size + 1), 3, none⟩ = some (.slice b2 vs.length d2) := fun w' k => k.out.cell (XB.out.at 3 (by simp) (v := .slice b2 vs.length d2) rfl) (by simp)
    have rM0 : ∀ w', Hid (Kept [] w9 w') → w'.cell? ⟨w3.heap.size, 0, none⟩ = some (.int .i64 mc) := fun w' k => k.out.cell (XM.out.at 0 (by simp) (v := .int .i64 mc) rfl) (by simp)
    have rM1 : ∀ w', Hid (Kept [] w9 w') → w'.cell? ⟨w3.heap.size, 1, none⟩ = some (.bool (isNeg ml)) := fun w' k => k.out.cell (XM.out.at 1 (by simp) (v := .bool (isNeg ml)) rfl) (by simp)
    have rM2 : ∀ w', Hid (Kept [] w9 w') → w'.cell? ⟨w3.heap.size, 2, none⟩ = some (.slice ma (mag ml).length mca) := fun w' k => k.out.cell (XM.out.at 2 (by simp) (v := .slice ma (mag ml).length mca) rfl) (by simp)
    have rM3 : ∀ w', Hid (Kept [] w9 w') → w'.cell? ⟨w3.heap.size, 3, none⟩ = some (.bool (isNeg mh)) := fun w' k => k.out.cell (XM.out.at 3 (by simp) (v := .bool (isNeg mh)) rfl) (by simp)
    have rM4 : ∀ w', Hid (Kept [] w9 w') → w'.cell? ⟨w3.heap.size, 4, none⟩ = some (.slice mb (mag mh).length mcb) := fun w' k => k.out.cell (XM.out.at 4 (by simp) (v := .slice mb (mag mh).length mcb) rfl) (by simp)
    have rH0 : ∀ w', Hid (Kept [] w9 w') → w'.cell? ⟨w5.heap.size, 0, none⟩ = some (.int .i64 hc) := fun w' k => k.out.cell (XH.out.at 0 (by simp) (v := .int .i64 hc) rfl) (by simp)
    have rH1 : ∀ w', Hid (Kept [] w9 w') → w'.cell? ⟨w5.heap.size, 1, none⟩ = some (.bool (isNeg hl)) := fun w' k => k.out.cell (XH.out.at 1 (by simp) (v := .bool (isNeg hl)) rfl) (by simp)
    have rH2 : ∀ w', Hid (Kept [] w9 w') → w'.cell? ⟨w5.heap.size, 2, none⟩ = some (.slice ha (mag hl).length hca) := fun w' k => k.out.cell (XH.out.at 2 (by simp) (v := .slice ha (mag hl).length hca) rfl) (by simp)
    have rH3 : ∀ w', Hid (Kept [] w9 w') → w'.cell? ⟨w5.heap.size, 3, none⟩ = some (.bool (isNeg hh)) := fun w' k => k.out.cell (XH.out.at 3 (by simp) (v := .bool (isNeg hh)) rfl) (by simp)
    have rH4 : ∀ w', Hid (Kept [] w9 w') → w'.cell? ⟨w5.heap.size, 4, none⟩ = some (.slice hb (mag hh).length hcb) := fun w' k => k.out.cell (XH.out.at 4 (by simp) (v := .slice hb (mag hh).length hcb) rfl) (by simp)
    have rX0 : ∀ w', Hid (Kept [] w9 w') → w'.cell? ⟨w8.heap.size, 0, none⟩ = some (.bool r) := fun w' k => k.out.cell (XX.out.at 0 (by simp) (v := .bool r) rfl) (by simp)
    have rX1 : ∀ w', Hid (Kept [] w9 w') → w'.cell? ⟨w8.heap.size, 1, none⟩ = some (.slice x1 ws.length e1) := fun w' k => k.out.cell (XX.out.at 1 (by simp) (v := .slice x1 ws.length e1) rfl) (by simp)
    have rX2 : ∀ w', Hid (Kept [] w9 w') → w'.cell? ⟨w8.heap.size, 2, none⟩ = some (.bool s) := fun w' k => k.out.cell (XX.out.at 2 (by simp) (v := .bool s) rfl) (by simp)
    have rX3 : ∀ w', Hid (Kept [] w9 w') → w'.cell? ⟨w8.heap.size, 3, none⟩ = some (.slice x2 zs.length e2) := fun w' k => k.out.cell (XX.out.at 3 (by simp) (v := .slice x2 zs.length e2) rfl) (by simp)
    have rY0 : ∀ w', Hid (Kept [] w9 w') → w'.cell? ⟨(w8.heap.size + 1), 0, none⟩ = some (.bool r') := fun w' k => k.out.cell (XY.out.at 0 (by simp) (v := .bool r') rfl) (by simp)
    have rY1 : ∀ w', Hid (Kept [] w9 w') → w'.cell? ⟨(w8.heap.size + 1), 1, none⟩ = some (.slice y1 rs.length g1) := fun w' k => k.out.cell (XY.out.at 1 (by simp) (v := .slice y1 rs.length g1) rfl) (by simp)
    have rY2 : ∀ w', Hid (Kept [] w9 w') → w'.cell? ⟨(w8.heap.size + 1), 2, none⟩ = some (.bool s') := fun w' k => k.out.cell (XY.out.at 2 (by simp) (v := .bool s') rfl) (by simp)
    have rY3 : ∀ w', Hid (Kept [] w9 w') → w'.cell? ⟨(w8.heap.size + 1), 3, none⟩ = some (.slice y2 ss.length g2) := fun w' k => k.out.cell (XY.out.at 3 (by simp) (v := .slice y2 ss.length g2) rfl) (by simp)
    go_region_held3 (fun w' => Hid (Kept [] w9 w'))
      (with_reducible first | assumption | exact Lib.hid (Kept.refl _ _) | exact Lib.hid ((Kept.refl _ _).drew) | exact Kept.allocD (by assumption) | exact Kept.alloc1 (by assumption) | exact Lib.hid (Kept.trans0 (Hid.out (by assumption)) (by assumption)))
      (first
        | (go_at_call 10; go_split_ands; refine (sMeetSpan_any _ _ _ _ _ _ _ _ _ _ _ _ _ _ _ _ _ _ _ _ _ (((HL.out.at (show (a1, c1, xs) ∈ _ by simp))).kept0 (Hid.out (by assumption))) (((HL.out.at (show (a2, c2, ys) ∈ _ by simp))).kept0 (Hid.out (by assumption))) (((HL.out.at (show (b1, d1, us) ∈ _ by simp))).kept0 (Hid.out (by assumption))) (((HL.out.at (show (b2, d2, vs) ∈ _ by simp))).kept0 (Hid.out (by assumption)))).mono ?_; rw [← HM.out]; intro e v1 hr; obtain ⟨sa1, sc1, sb1, sd1, rfl, hs1, ht1, hj1⟩ := spanM5 hr; clear hr)
        | (go_at_call 12; go_split_ands; refine (sHullSpan_any _ _ _ _ _ _ _ _ _ _ _ _ _ _ _ _ _ _ _ _ _ (((HL.out.at (show (a1, c1, xs) ∈ _ by simp))).kept0 (Hid.out (by assumption))) (((HL.out.at (show (a2, c2, ys) ∈ _ by simp))).kept0 (Hid.out (by assumption))) (((HL.out.at (show (b1, d1, us) ∈ _ by simp))).kept0 (Hid.out (by assumption))) (((HL.out.at (show (b2, d2, vs) ∈ _ by simp))).kept0 (Hid.out (by assumption)))).mono ?_; rw [← HH.out]; intro e v2 hr; obtain ⟨sa2, sc2, sb2, sd2, rfl, hs2, ht2, hj2⟩ := spanM5 hr; clear hr)
        | (go_at_call 11; go_split_ands; refine (lwSpans_yes _ _ _ _ _ _ _ _ _ _ _ _ _ _ _ (by with_reducible first | exact ((HL.out.at (show (ma, mca, (mag ml)) ∈ _ by simp)).rd).kept0 (Hid.out (by assumption)) | exact ((HL.out.at (show (ha, hca, (mag hl)) ∈ _ by simp)).rd).kept0 (Hid.out (by assumption))) (by with_reducible first | exact ((HL.out.at (show (mb, mcb, (mag mh)) ∈ _ by simp)).rd).kept0 (Hid.out (by assumption)) | exact ((HL.out.at (show (hb, hcb, (mag hh)) ∈ _ by simp)).rd).kept0 (Hid.out (by assumption))) (by with_reducible first | exact hs1.rd | exact (hs1.kept0 (by assumption)).rd | exact hs2.rd | exact (hs2.kept0 (by assumption)).rd) (by with_reducible first | exact ht1.rd | exact (ht1.kept0 (by assumption)).rd | exact ht2.rd | exact (ht2.kept0 (by assumption)).rd)).mono ?_; rintro e v3 ⟨rfl, hj3⟩)
        | (go_at_call 13; go_split_ands; refine (sOrderSpan_any _ _ _ _ _ _ _ _ _ _ _ _ _ _ _ _ _ _ _ _ _ (((HL.out.at (show (a1, c1, xs) ∈ _ by simp))).kept0 (Hid.out (by assumption))) (((HL.out.at (show (a2, c2, ys) ∈ _ by simp))).kept0 (Hid.out (by assumption))) (((HL.out.at (show (b1, d1, us) ∈ _ by simp))).kept0 (Hid.out (by assumption))) (((HL.out.at (show (b2, d2, vs) ∈ _ by simp))).kept0 (Hid.out (by assumption)))).mono ?_; rw [← HO.out]; rintro e v4 ⟨rfl, hj4⟩)
        | (go_at_call 8; go_split_ands; refine (OrderSpan_any _ _ _ _ _ _ _ _ _ _ _ _ _ _ _ _ _ _ _ _ _ (((HL.out.at (show (b1, d1, us) ∈ _ by simp))).kept0 (Hid.out (by assumption))) (((HL.out.at (show (b2, d2, vs) ∈ _ by simp))).kept0 (Hid.out (by assumption))) (((HL.out.at (show (a1, c1, xs) ∈ _ by simp))).kept0 (Hid.out (by assumption))) (((HL.out.at (show (a2, c2, ys) ∈ _ by simp))).kept0 (Hid.out (by assumption)))).mono ?_; rw [order_turn, ← HO.out]; rintro e v5 ⟨rfl, hj5⟩)
        | (go_at_call 14; go_split_ands; refine (IsWithin_any _ _ _ _ _ _ _ _ _ _ _ _ _ _ _ _ _ _ _ _ _ (((HL.out.at (show (x1, e1, ws) ∈ _ by simp))).kept0 (Hid.out (by assumption))) (((HL.out.at (show (x2, e2, zs) ∈ _ by simp))).kept0 (Hid.out (by assumption))) (((HL.out.at (show (y1, g1, rs) ∈ _ by simp))).kept0 (Hid.out (by assumption))) (((HL.out.at (show (y2, g2, ss) ∈ _ by simp))).kept0 (Hid.out (by assumption)))).mono ?_; rw [← HWI.out]; rintro e v6 ⟨rfl, hj6⟩)
        | (go_at_call 15; go_split_ands; refine (sIsWithin_any _ _ _ _ _ _ _ _ _ _ _ _ _ _ _ _ _ _ _ _ _ (((HL.out.at (show (x1, e1, ws) ∈ _ by simp))).kept0 (Hid.out (by assumption))) (((HL.out.at (show (x2, e2, zs) ∈ _ by simp))).kept0 (Hid.out (by assumption))) (((HL.out.at (show (y1, g1, rs) ∈ _ by simp))).kept0 (Hid.out (by assumption))) (((HL.out.at (show (y2, g2, ss) ∈ _ by simp))).kept0 (Hid.out (by assumption)))).mono ?_; rw [← HWI.out]; rintro e v7 ⟨rfl, hj7⟩))
    rename_i hH
    go_wp2_with fail
    go_meet
    exact ⟨rfl, hH⟩
  case rest =>
    obtain ⟨rfl, hk0⟩ := hcut
    obtain ⟨w10, hw9⟩ : ∃ w' : World, w' = wc := ⟨_, rfl⟩
    subst hw9
    have hk := hk0.out
    clear hk0
    replace KK := Lib.hid (KK.out.trans0 hk)
    replace HL := Lib.hid ((HL.out.kept0 hk))
    replace XA := Lib.hid (XA.out.kept0 hk)
    replace XB := Lib.hid (XB.out.kept0 hk)
    replace XM := Lib.hid (XM.out.kept0 hk)
    replace XH := Lib.hid (XH.out.kept0 hk)
    replace XX := Lib.hid (XX.out.kept0 hk)
    replace XY := Lib.hid (XY.out.kept0 hk)
    clear hk
    clear ew1 ew2 ew3
    by_cases h0 : hc = 0
    · subst h0
      have hb9 := hull_back HH.out rfl
      have hoo := hull_code (show (hullS p xs q ys p' us q' vs).code = 0 by rw [← HH.out])
      have hmo := meet_order HM.out hoo.1 hoo.2
      rw [← HO.out] at hmo
      have HB9 := Lib.hid hb9
      clear hb9
      by_cases hm0 : mc = 0
      · subst hm0
        have ho := hmo.1 rfl
        have hmb := meet_back HM.out hoo.1 hoo.2 rfl
        have HMB := Lib.hid hmb
        clear hmb hmo hoo
        subst ho
        have cH0 := XH.out.at 0 (by simp) (v := .int .i64 0) rfl
        go_upto_region 12 with fail
        clear cH0
        have cA0 := XA.out.at 0 (by simp) (v := .bool p) rfl
        have cA1 := XA.out.at 1 (by simp) (v := .slice a1 xs.length c1) rfl
        have cA2 := XA.out.at 2 (by simp) (v := .bool q) rfl
        have cA3 := XA.out.at 3 (by simp) (v := .slice a2 ys.length c2) rfl
        have cH0 := XH.out.at 0 (by simp) (v := .int .i64 0) rfl
        have cH1 := XH.out.at 1 (by simp) (v := .bool (isNeg hl)) rfl
        have cH2 := XH.out.at 2 (by simp) (v := .slice ha (mag hl).length hca) rfl
        have cH3 := XH.out.at 3 (by simp) (v := .bool (isNeg hh)) rfl
        have cH4 := XH.out.at 4 (by simp) (v := .slice hb (mag hh).length hcb) rfl
        go_wp2_with fail
        refine (IsWithin_any _ _ _ _ _ _ _ _ _ _ _ _ _ _ _ _ _ _ _ _ _  (HL.out.at (show (a1, c1, xs) ∈ _ by simp)) (HL.out.at (show (a2, c2, ys) ∈ _ by simp)) (HL.out.at (show (ha, hca, (mag hl)) ∈ _ by simp)) (HL.out.at (show (hb, hcb, (mag hh)) ∈ _ by simp))).mono ?_
        rw [HB9.out.1]
        rintro e w11 ⟨rfl, hk⟩
        clear cA0 cA1 cA2 cA3 cH0 cH1 cH2 cH3 cH4
        replace KK := Lib.hid (KK.out.trans0 hk)
        replace HL := Lib.hid ((HL.out.kept0 hk))
        replace XA := Lib.hid (XA.out.kept0 hk)
        replace XB := Lib.hid (XB.out.kept0 hk)
        replace XM := Lib.hid (XM.out.kept0 hk)
        replace XH := Lib.hid (XH.out.kept0 hk)
        replace XX := Lib.hid (XX.out.kept0 hk)
        replace XY := Lib.hid (XY.out.kept0 hk)
        clear hk
        have cB0 := XB.out.at 0 (by simp) (v := .bool p') rfl
        have cB1 := XB.out.at 1 (by simp) (v := .slice b1 us.length d1) rfl
        have cB2 := XB.out.at 2 (by simp) (v := .bool q') rfl
        have cB3 := XB.out.at 3 (by simp) (v := .slice b2 vs.length d2) rfl
        have cH0 := XH.out.at 0 (by simp) (v := .int .i64 0) rfl
        have cH1 := XH.out.at 1 (by simp) (v := .bool (isNeg hl)) rfl
        have cH2 := XH.out.at 2 (by simp) (v := .slice ha (mag hl).length hca) rfl
        have cH3 := XH.out.at 3 (by simp) (v := .bool (isNeg hh)) rfl
        have cH4 := XH.out.at 4 (by simp) (v := .slice hb (mag hh).length hcb) rfl
        go_wp2_with fail
        refine (IsWithin_any _ _ _ _ _ _ _ _ _ _ _ _ _ _ _ _ _ _ _ _ _  (HL.out.at (show (b1, d1, us) ∈ _ by simp)) (HL.out.at (show (b2, d2, vs) ∈ _ by simp)) (HL.out.at (show (ha, hca, (mag hl)) ∈ _ by simp)) (HL.out.at (show (hb, hcb, (mag hh)) ∈ _ by simp))).mono ?_
        rw [HB9.out.2]
        rintro e w12 ⟨rfl, hk⟩
        clear cB0 cB1 cB2 cB3 cH0 cH1 cH2 cH3 cH4
        replace KK := Lib.hid (KK.out.trans0 hk)
        replace HL := Lib.hid ((HL.out.kept0 hk))
        replace XA := Lib.hid (XA.out.kept0 hk)
        replace XB := Lib.hid (XB.out.kept0 hk)
        replace XM := Lib.hid (XM.out.kept0 hk)
        replace XH := Lib.hid (XH.out.kept0 hk)
        replace XX := Lib.hid (XX.out.kept0 hk)
        replace XY := Lib.hid (XY.out.kept0 hk)
        clear hk
        have cM0 := XM.out.at 0 (by simp) (v := .int .i64 0) rfl
        go_upto_region 14 with fail
        clear cM0
        have cM0 := XM.out.at 0 (by simp) (v := .int .i64 0) rfl
        have cM1 := XM.out.at 1 (by simp) (v := .bool (isNeg ml)) rfl
        have cM2 := XM.out.at 2 (by simp) (v := .slice ma (mag ml).length mca) rfl
        have cM3 := XM.out.at 3 (by simp) (v := .bool (isNeg mh)) rfl
        have cM4 := XM.out.at 4 (by simp) (v := .slice mb (mag mh).length mcb) rfl
        have cA0 := XA.out.at 0 (by simp) (v := .bool p) rfl
        have cA1 := XA.out.at 1 (by simp) (v := .slice a1 xs.length c1) rfl
        have cA2 := XA.out.at 2 (by simp) (v := .bool q) rfl
        have cA3 := XA.out.at 3 (by simp) (v := .slice a2 ys.length c2) rfl
        go_wp2_with fail
        refine (IsWithin_any _ _ _ _ _ _ _ _ _ _ _ _ _ _ _ _ _ _ _ _ _  (HL.out.at (show (ma, mca, (mag ml)) ∈ _ by simp)) (HL.out.at (show (mb, mcb, (mag mh)) ∈ _ by simp)) (HL.out.at (show (a1, c1, xs) ∈ _ by simp)) (HL.out.at (show (a2, c2, ys) ∈ _ by simp))).mono ?_
        rw [HMB.out.1]
        rintro e w13 ⟨rfl, hk⟩
        clear cM0 cM1 cM2 cM3 cM4 cA0 cA1 cA2 cA3
        replace KK := Lib.hid (KK.out.trans0 hk)
        replace HL := Lib.hid ((HL.out.kept0 hk))
        replace XA := Lib.hid (XA.out.kept0 hk)
        replace XB := Lib.hid (XB.out.kept0 hk)
        replace XM := Lib.hid (XM.out.kept0 hk)
        replace XH := Lib.hid (XH.out.kept0 hk)
        replace XX := Lib.hid (XX.out.kept0 hk)
        replace XY := Lib.hid (XY.out.kept0 hk)
        clear hk
        have cM0 := XM.out.at 0 (by simp) (v := .int .i64 0) rfl
        have cM1 := XM.out.at 1 (by simp) (v := .bool (isNeg ml)) rfl
        have cM2 := XM.out.at 2 (by simp) (v := .slice ma (mag ml).length mca) rfl
        have cM3 := XM.out.at 3 (by simp) (v := .bool (isNeg mh)) rfl
        have cM4 := XM.out.at 4 (by simp) (v := .slice mb (mag mh).length mcb) rfl
        have cB0 := XB.out.at 0 (by simp) (v := .bool p') rfl
        have cB1 := XB.out.at 1 (by simp) (v := .slice b1 us.length d1) rfl
        have cB2 := XB.out.at 2 (by simp) (v := .bool q') rfl
        have cB3 := XB.out.at 3 (by simp) (v := .slice b2 vs.length d2) rfl
        go_wp2_with fail
        refine (IsWithin_any _ _ _ _ _ _ _ _ _ _ _ _ _ _ _ _ _ _ _ _ _  (HL.out.at (show (ma, mca, (mag ml)) ∈ _ by simp)) (HL.out.at (show (mb, mcb, (mag mh)) ∈ _ by simp)) (HL.out.at (show (b1, d1, us) ∈ _ by simp)) (HL.out.at (show (b2, d2, vs) ∈ _ by simp))).mono ?_
        rw [HMB.out.2]
        rintro e w14 ⟨rfl, hk⟩
        clear cM0 cM1 cM2 cM3 cM4 cB0 cB1 cB2 cB3
        replace KK := Lib.hid (KK.out.trans0 hk)
        replace HL := Lib.hid ((HL.out.kept0 hk))
        replace XA := Lib.hid (XA.out.kept0 hk)
        replace XB := Lib.hid (XB.out.kept0 hk)
        replace XM := Lib.hid (XM.out.kept0 hk)
        replace XH := Lib.hid (XH.out.kept0 hk)
        replace XX := Lib.hid (XX.out.kept0 hk)
        replace XY := Lib.hid (XY.out.kept0 hk)
        clear hk
        go_wp2_with fail
        go_ret
        exact ⟨rfl, KK.out⟩
      · have ho : ¬ o = 0 := fun h => hm0 (hmo.2 h)
        have z1 : (mc == 0) = false := beq_eq_false_iff_ne.2 hm0
        have z2 : (o == 0) = false := beq_eq_false_iff_ne.2 ho
        have z3 : decide (mc = 0) = false := decide_eq_false hm0
        have z4 : decide (o = 0) = false := decide_eq_false ho
        clear hmo hoo
        have cH0 := XH.out.at 0 (by simp) (v := .int .i64 0) rfl
        go_upto_region 12 with fail
        clear cH0
        have cA0 := XA.out.at 0 (by simp) (v := .bool p) rfl
        have cA1 := XA.out.at 1 (by simp) (v := .slice a1 xs.length c1) rfl
        have cA2 := XA.out.at 2 (by simp) (v := .bool q) rfl
        have cA3 := XA.out.at 3 (by simp) (v := .slice a2 ys.length c2) rfl
        have cH0 := XH.out.at 0 (by simp) (v := .int .i64 0) rfl
        have cH1 := XH.out.at 1 (by simp) (v := .bool (isNeg hl)) rfl
        have cH2 := XH.out.at 2 (by simp) (v := .slice ha (mag hl).length hca) rfl
        have cH3 := XH.out.at 3 (by simp) (v := .bool (isNeg hh)) rfl
        have cH4 := XH.out.at 4 (by simp) (v := .slice hb (mag hh).length hcb) rfl
        go_wp2_with fail
        refine (IsWithin_any _ _ _ _ _ _ _ _ _ _ _ _ _ _ _ _ _ _ _ _ _  (HL.out.at (show (a1, c1, xs) ∈ _ by simp)) (HL.out.at (show (a2, c2, ys) ∈ _ by simp)) (HL.out.at (show (ha, hca, (mag hl)) ∈ _ by simp)) (HL.out.at (show (hb, hcb, (mag hh)) ∈ _ by simp))).mono ?_
        rw [HB9.out.1]
        rintro e w15 ⟨rfl, hk⟩
        clear cA0 cA1 cA2 cA3 cH0 cH1 cH2 cH3 cH4
        replace KK := Lib.hid (KK.out.trans0 hk)
        replace HL := Lib.hid ((HL.out.kept0 hk))
        replace XA := Lib.hid (XA.out.kept0 hk)
        replace XB := Lib.hid (XB.out.kept0 hk)
        replace XM := Lib.hid (XM.out.kept0 hk)
        replace XH := Lib.hid (XH.out.kept0 hk)
        replace XX := Lib.hid (XX.out.kept0 hk)
        replace XY := Lib.hid (XY.out.kept0 hk)
        clear hk
        have cB0 := XB.out.at 0 (by simp) (v := .bool p') rfl
        have cB1 := XB.out.at 1 (by simp) (v := .slice b1 us.length d1) rfl
        have cB2 := XB.out.at 2 (by simp) (v := .bool q') rfl
        have cB3 := XB.out.at 3 (by simp) (v := .slice b2 vs.length d2) rfl
        have cH0 := XH.out.at 0 (by simp) (v := .int .i64 0) rfl
        have cH1 := XH.out.at 1 (by simp) (v := .bool (isNeg hl)) rfl
        have cH2 := XH.out.at 2 (by simp) (v := .slice ha (mag hl).length hca) rfl
        have cH3 := XH.out.at 3 (by simp) (v := .bool (isNeg hh)) rfl
        have cH4 := XH.out.at 4 (by simp) (v := .slice hb (mag hh).length hcb) rfl
        go_wp2_with fail
        refine (IsWithin_any _ _ _ _ _ _ _ _ _ _ _ _ _ _ _ _ _ _ _ _ _  (HL.out.at (show (b1, d1, us) ∈ _ by simp)) (HL.out.at (show (b2, d2, vs) ∈ _ by simp)) (HL.out.at (show (ha, hca, (mag hl)) ∈ _ by simp)) (HL.out.at (show (hb, hcb, (mag hh)) ∈ _ by simp))).mono ?_
        rw [HB9.out.2]
        rintro e w16 ⟨rfl, hk⟩
        clear cB0 cB1 cB2 cB3 cH0 cH1 cH2 cH3 cH4
        replace KK := Lib.hid (KK.out.trans0 hk)
        replace HL := Lib.hid ((HL.out.kept0 hk))
        replace XA := Lib.hid (XA.out.kept0 hk)
        replace XB := Lib.hid (XB.out.kept0 hk)
        replace XM := Lib.hid (XM.out.kept0 hk)
        replace XH := Lib.hid (XH.out.kept0 hk)
        replace XX := Lib.hid (XX.out.kept0 hk)
        replace XY := Lib.hid (XY.out.kept0 hk)
        clear hk
        have cM0 := XM.out.at 0 (by simp) (v := .int .i64 mc) rfl
        go_wp2_with fail
        go_ret
        exact ⟨rfl, KK.out⟩
    · have ho : o = 0 := by rw [HO.out]; exact hull_not (by rw [← HH.out]; exact h0)
      have z1 : (hc == 0) = false := beq_eq_false_iff_ne.2 h0
      subst ho
      have cH0 := XH.out.at 0 (by simp) (v := .int .i64 hc) rfl
      go_wp2_with fail
      go_ret
      exact ⟨rfl, KK.out⟩

end Go.Proofs.Ytlhiahhpmjiioaa
