/-
  The walk of the law on roots. No condition but that the argument reads as bytes.
-/
import Derived.Deep.RegionHeld3
import Derived.Deep.DrawnRows
import Derived.Deep.DeepCutAuto
import Derived.Test.YthahkicpkohfkaaDrwE
import Derived.Test.YthahkicpkohfkaaSlL
import Derived.Test.YthahkicpkohfkaaLwS
import Derived.Test.YthahkicpkohfkaaBigRi
import Derived.Test.YthahkicpkohfkaaBigRd
import Derived.Test.YthahkicpkohfkaaBigH
import Derived.Test.YthahkicpkohfkaaSameC
namespace Go.Proofs.Ythahkicpkohfkaa
open Go.RowKit

theorem field_b0 (v0 v1 v2 : Value) (w : World) : Sem.run Try.prog (Instr.field 30 (.agg #[v0, v1, v2]) 0) w = .ok v0 w := by kernel_rfl
theorem field_b1 (v0 v1 v2 : Value) (w : World) : Sem.run Try.prog (Instr.field 30 (.agg #[v0, v1, v2]) 1) w = .ok (.agg #[v1, v2]) w := by kernel_rfl
attribute [local go_sem ↓] field_b0 field_b1

theorem mkFnRoots_1 {w5 w' : World} {bA bC bF bP bQ : Nat} {v0 v1 v2 v3 v4 v5 v6 v7 v8 v9 v10 v11 : Value} (c0 : w5.cell? ⟨bA, 0, none⟩ = some v0) (c1 : w5.cell? ⟨bA, 1, none⟩ = some v1) (c2 : w5.cell? ⟨bF, 0, none⟩ = some v2) (c3 : w5.cell? ⟨bF, 1, none⟩ = some v3) (c4 : w5.cell? ⟨bF, 2, none⟩ = some v4) (c5 : w5.cell? ⟨bC, 0, none⟩ = some v5) (c6 : w5.cell? ⟨bC, 1, none⟩ = some v6) (c7 : w5.cell? ⟨bC, 2, none⟩ = some v7) (c8 : w5.cell? ⟨bP, 0, none⟩ = some v8) (c9 : w5.cell? ⟨bP, 1, none⟩ = some v9) (c10 : w5.cell? ⟨bQ, 0, none⟩ = some v10) (c11 : w5.cell? ⟨bQ, 1, none⟩ = some v11) (k : Hid (Kept [] w5 w')) : Hid (Kept [] w5 w') ∧ w'.cell? ⟨bA, 0, none⟩ = some v0 ∧ w'.cell? ⟨bA, 1, none⟩ = some v1 ∧ w'.cell? ⟨bF, 0, none⟩ = some v2 ∧ w'.cell? ⟨bF, 1, none⟩ = some v3 ∧ w'.cell? ⟨bF, 2, none⟩ = some v4 ∧ w'.cell? ⟨bC, 0, none⟩ = some v5 ∧ w'.cell? ⟨bC, 1, none⟩ = some v6 ∧ w'.cell? ⟨bC, 2, none⟩ = some v7 ∧ w'.cell? ⟨bP, 0, none⟩ = some v8 ∧ w'.cell? ⟨bP, 1, none⟩ = some v9 ∧ w'.cell? ⟨bQ, 0, none⟩ = some v10 ∧ w'.cell? ⟨bQ, 1, none⟩ = some v11 := ⟨k, k.out.cell c0 (by simp), k.out.cell c1 (by simp), k.out.cell c2 (by simp), k.out.cell c3 (by simp), k.out.cell c4 (by simp), k.out.cell c5 (by simp), k.out.cell c6 (by simp), k.out.cell c7 (by simp), k.out.cell c8 (by simp), k.out.cell c9 (by simp), k.out.cell c10 (by simp), k.out.cell c11 (by simp)⟩

set_option maxHeartbeats 40000000 in
set_option maxRecDepth 200000 in
theorem FnRoots_walk (a : Option Addr) (n c : Nat) (bs : List Int) (w : World) (h0 : n ≤ 1048576 → Rd8 w a n bs) :
    Calls Try.prog 4 #[.slice a n c] w (Ans w (.bool true)) := by
  by_cases hbig0 : 1048576 < n
  · go_enter Try.func4, Try.ntmps4
    go_wp2_with fail
    refine (lwBig_any _ _ _ _).mono ?_
    rintro e w1 ⟨rfl, rfl⟩
    rw [decide_eq_true (by omega)]
    go_wp2_with fail
    go_ret
    exact ⟨rfl, Kept.refl _ _⟩
  have HR := Lib.hid (h0 (by omega))
  clear h0
  go_enter Try.func4, Try.ntmps4
  go_wp2_with fail
  refine (lwBig_any _ _ _ _).mono ?_
  rintro e w0 ⟨rfl, hw⟩
  subst hw
  rw [decide_eq_false (by omega)]
  have KK := Lib.hid (Kept.refl [] w0)
  have HL := Lib.hid (SlL.nil w0)
  go_wp2_with fail
  refine (DrawFloorRoot_any _ _ _ _ _ (HR.out.kept KK.out (by simp))).mono ?_
  rintro e w1 ⟨p, aa, ca, xs, rfl, h1, hk⟩
  replace KK := Lib.hid (KK.out.trans0 hk)
  replace HL := Lib.hid (((HL.out.kept0 hk).cons h1.1))
  clear h1 hk
  obtain ⟨w2, hb⟩ : ∃ w', w' = w1.alloc (.cells #[.bool p, .slice aa xs.length ca] 26) := ⟨_, rfl⟩
  have HB := Lib.hid hb
  clear hb
  have hk : Kept [] w1 w2 := by rw [HB.out]; exact (Kept.refl [] w1).alloc _
  have XA : Hid (Bx w2 w1.heap.size [.bool p, .slice aa xs.length ca]) := by rw [HB.out]; exact Lib.hid (Bx.new _ _ _)
  replace KK := Lib.hid (KK.out.trans0 hk)
  replace HL := Lib.hid ((HL.out.kept0 hk))
  clear hk
  go_upto_region 4 with fail
  rw [← HB.out]
  clear HB
  obtain ⟨⟨fc, fn, fl⟩, hF⟩ : ∃ v, v = rootB isq p xs := ⟨_, rfl⟩
  have HF := Lib.hid hF
  clear hF
  have cA0 := XA.out.at 0 (by simp) (v := .bool p) rfl
  have cA1 := XA.out.at 1 (by simp) (v := .slice aa xs.length ca) rfl
  go_wp2_with fail
  refine (FloorRoot_any _ _ _ _ _ _ (HL.out.at (show (aa, ca, xs) ∈ _ by simp))).mono ?_
  rw [← HF.out, bigR3]
  rintro e w3 ⟨af, cf, rfl, hq, _, hk⟩
  clear cA0 cA1
  replace KK := Lib.hid (KK.out.trans0 hk)
  replace HL := Lib.hid (((HL.out.kept0 hk).cons hq))
  replace XA := Lib.hid (XA.out.kept0 hk)
  clear hk hq
  obtain ⟨w4, hb⟩ : ∃ w', w' = w3.alloc (.cells #[.int .i64 fc, .bool fn, .slice af fl.length cf] 30) := ⟨_, rfl⟩
  have HB := Lib.hid hb
  clear hb
  have hk : Kept [] w3 w4 := by rw [HB.out]; exact (Kept.refl [] w3).alloc _
  have XF : Hid (Bx w4 w3.heap.size [.int .i64 fc, .bool fn, .slice af fl.length cf]) := by rw [HB.out]; exact Lib.hid (Bx.new _ _ _)
  replace KK := Lib.hid (KK.out.trans0 hk)
  replace HL := Lib.hid ((HL.out.kept0 hk))
  replace XA := Lib.hid (XA.out.kept0 hk)
  clear hk
  go_upto_region 5 with fail
  rw [← HB.out]
  clear HB
  obtain ⟨⟨cc, cn, cl⟩, hC⟩ : ∃ v, v = rootB csq p xs := ⟨_, rfl⟩
  have HC := Lib.hid hC
  clear hC
  have cA0 := XA.out.at 0 (by simp) (v := .bool p) rfl
  have cA1 := XA.out.at 1 (by simp) (v := .slice aa xs.length ca) rfl
  go_wp2_with fail
  refine (CeilRoot_any _ _ _ _ _ _ (HL.out.at (show (aa, ca, xs) ∈ _ by simp))).mono ?_
  rw [← HC.out, bigR3]
  rintro e w5 ⟨ac, cc_, rfl, hq, _, hk⟩
  clear cA0 cA1
  replace KK := Lib.hid (KK.out.trans0 hk)
  replace HL := Lib.hid (((HL.out.kept0 hk).cons hq))
  replace XA := Lib.hid (XA.out.kept0 hk)
  replace XF := Lib.hid (XF.out.kept0 hk)
  clear hk hq
  obtain ⟨w6, hb⟩ : ∃ w', w' = w5.alloc (.cells #[.int .i64 cc, .bool cn, .slice ac cl.length cc_] 30) := ⟨_, rfl⟩
  have HB := Lib.hid hb
  clear hb
  have hk : Kept [] w5 w6 := by rw [HB.out]; exact (Kept.refl [] w5).alloc _
  have XC : Hid (Bx w6 w5.heap.size [.int .i64 cc, .bool cn, .slice ac cl.length cc_]) := by rw [HB.out]; exact Lib.hid (Bx.new _ _ _)
  replace KK := Lib.hid (KK.out.trans0 hk)
  replace HL := Lib.hid ((HL.out.kept0 hk))
  replace XA := Lib.hid (XA.out.kept0 hk)
  replace XF := Lib.hid (XF.out.kept0 hk)
  clear hk
  go_upto_region 6 with fail
  rw [← HB.out]
  clear HB
  go_wp2_with fail
  refine (DrawCompareBigs_any _ _ _ _ _ (HR.out.kept KK.out (by simp))).mono ?_
  rintro e w7 ⟨r, ap, cp, ps, s, aq, cq, qs, rfl, h1, h2, hk⟩
  replace KK := Lib.hid (KK.out.trans0 hk)
  replace HL := Lib.hid ((((HL.out.kept0 hk).cons h1.1).cons h2.1))
  replace XA := Lib.hid (XA.out.kept0 hk)
  replace XF := Lib.hid (XF.out.kept0 hk)
  replace XC := Lib.hid (XC.out.kept0 hk)
  have NP := Lib.hid h1.2.2.1.in64; have NQ := Lib.hid h2.2.2.1.in64; have lP := Lib.hid h1.2.2.2; have lQ := Lib.hid h2.2.2.2
  clear h1 h2 hk
  obtain ⟨w8, hb⟩ : ∃ w', w' = (w7.alloc (.cells #[.bool r, .slice ap ps.length cp] 26)).alloc (.cells #[.bool s, .slice aq qs.length cq] 26) := ⟨_, rfl⟩
  have HB := Lib.hid hb
  clear hb
  have hk : Kept [] w7 w8 := by rw [HB.out]; exact ((Kept.refl [] w7).alloc _).alloc _
  have XP : Hid (Bx w8 w7.heap.size [.bool r, .slice ap ps.length cp]) := by rw [HB.out]; exact Lib.hid ((Bx.new _ _ _).kept0 ((Kept.refl [] _).alloc _))
  have XQ : Hid (Bx w8 (w7.heap.size + 1) [.bool s, .slice aq qs.length cq]) := by rw [HB.out]; have := Bx.new (w7.alloc (.cells #[.bool r, .slice ap ps.length cp] 26)) [.bool s, .slice aq qs.length cq] 26; simp only [World.size_alloc] at this; exact Lib.hid this
  replace KK := Lib.hid (KK.out.trans0 hk)
  replace HL := Lib.hid ((HL.out.kept0 hk))
  replace XA := Lib.hid (XA.out.kept0 hk)
  replace XF := Lib.hid (XF.out.kept0 hk)
  replace XC := Lib.hid (XC.out.kept0 hk)
  clear hk
  go_upto_region 7 with fail
  rw [← HB.out]
  clear HB
  obtain ⟨t, ht⟩ : ∃ t, t = cmpB r ps s qs := ⟨_, rfl⟩
  obtain ⟨t', ht'⟩ : ∃ t, t = cmpB s qs r ps := ⟨_, rfl⟩
  have HT := Lib.hid ht
  have HT' := Lib.hid ht'
  have htt : t' = -t := by rw [ht, ht']; exact cmpB_flip _ _ _ _
  have htr : -1 ≤ t ∧ t ≤ 1 := by rw [ht]; exact cmpB_small _ _ _ _
  clear ht ht'
  subst htt
  have ew1 : IntKind.i64.wrap t = t := IntWalk.i64_in _ (by omega)
  have ew2 : IntKind.i64.wrap (- -t) = t := by rw [Int.neg_neg]; exact ew1
  have ew3 : - -t = t := Int.neg_neg t
  clear htr
  obtain ⟨sb, hsb⟩ : ∃ t, t = sameB r ps s qs := ⟨_, rfl⟩
  have HSB := Lib.hid hsb
  clear hsb
  go_upto_region 7 with fail
  go_cut [82] (fun v wx => v = .bool false ∧ Hid (Kept [] w8 wx))
  case first =>
    have cA0 := XA.out.at 0 (by simp) (v := .bool p) rfl
    have cA1 := XA.out.at 1 (by simp) (v := .slice aa xs.length ca) rfl
    have cF0 := XF.out.at 0 (by simp) (v := .int .i64 fc) rfl
    have cF1 := XF.out.at 1 (by simp) (v := .bool fn) rfl
    have cF2 := XF.out.at 2 (by simp) (v := .slice af fl.length cf) rfl
    have cC0 := XC.out.at 0 (by simp) (v := .int .i64 cc) rfl
    have cC1 := XC.out.at 1 (by simp) (v := .bool cn) rfl
    have cC2 := XC.out.at 2 (by simp) (v := .slice ac cl.length cc_) rfl
    have cP0 := XP.out.at 0 (by simp) (v := .bool r) rfl
    have cP1 := XP.out.at 1 (by simp) (v := .slice ap ps.length cp) rfl
    have cQ0 := XQ.out.at 0 (by simp) (v := .bool s) rfl
    have cQ1 := XQ.out.at 1 (by simp) (v := .slice aq qs.length cq) rfl
    go_region_held3 (fun w' => Hid (Kept [] w8 w') ∧ w'.cell? ⟨w1.heap.size, 0, none⟩ = some (.bool p) ∧ w'.cell? ⟨w1.heap.size, 1, none⟩ = some (.slice aa xs.length ca) ∧ w'.cell? ⟨w3.heap.size, 0, none⟩ = some (.int .i64 fc) ∧ w'.cell? ⟨w3.heap.size, 1, none⟩ = some (.bool fn) ∧ w'.cell? ⟨w3.heap.size, 2, none⟩ = some (.slice af fl.length cf) ∧ w'.cell? ⟨w5.heap.size, 0, none⟩ = some (.int .i64 cc) ∧ w'.cell? ⟨w5.heap.size, 1, none⟩ = some (.bool cn) ∧ w'.cell? ⟨w5.heap.size, 2, none⟩ = some (.slice ac cl.length cc_) ∧ w'.cell? ⟨w7.heap.size, 0, none⟩ = some (.bool r) ∧ w'.cell? ⟨w7.heap.size, 1, none⟩ = some (.slice ap ps.length cp) ∧ w'.cell? ⟨(w7.heap.size + 1), 0, none⟩ = some (.bool s) ∧ w'.cell? ⟨(w7.heap.size + 1), 1, none⟩ = some (.slice aq qs.length cq))
      (with_reducible first | assumption | exact mkFnRoots_1 cA0 cA1 cF0 cF1 cF2 cC0 cC1 cC2 cP0 cP1 cQ0 cQ1 (by with_reducible first | assumption | exact Lib.hid ((Kept.refl _ _).drew) | exact Kept.allocD (by assumption) | exact Kept.alloc1 (by assumption) | exact Lib.hid (Kept.trans0 (Hid.out (by assumption)) (by assumption))))
      (first
        | (go_at_call 33; go_split_ands; refine (sFloorRoot_any _ _ _ _ _ _ (((HL.out.at (show (aa, ca, xs) ∈ _ by simp))).kept0 (Hid.out (by assumption)))).mono ?_; rw [← HF.out, bigR3]; rintro e v1 ⟨a1, c1, rfl, hs1, _, hj1⟩)
        | (go_at_call 34; go_split_ands; refine (sCeilRoot_any _ _ _ _ _ _ (((HL.out.at (show (aa, ca, xs) ∈ _ by simp))).kept0 (Hid.out (by assumption)))).mono ?_; rw [← HC.out, bigR3]; rintro e v2 ⟨a2, c2, rfl, hs2, _, hj2⟩)
        | (go_at_call 16; go_split_ands; refine (lwSame_yes _ _ _ _ _ _ _ _ (by with_reducible first | exact ((HL.out.at (show (af, cf, fl) ∈ _ by simp)).rd).kept0 (Hid.out (by assumption)) | exact ((HL.out.at (show (ac, cc_, cl) ∈ _ by simp)).rd).kept0 (Hid.out (by assumption))) (by with_reducible first | exact hs1.rd | exact hs2.rd | exact (hs1.kept0 (by assumption)).rd | exact (hs2.kept0 (by assumption)).rd)).mono ?_; rintro e v3 ⟨rfl, hj3⟩)
        | (go_at_call 28; go_split_ands; refine (CompareBigs_any _ _ _ _ _ _ _ _ _ _ _ (by with_reducible first | exact ((HL.out.at (show (ap, cp, ps) ∈ _ by simp))).kept0 (Hid.out (by assumption)) | exact ((HL.out.at (show (aq, cq, qs) ∈ _ by simp))).kept0 (Hid.out (by assumption))) (by with_reducible first | exact ((HL.out.at (show (aq, cq, qs) ∈ _ by simp))).kept0 (Hid.out (by assumption)) | exact ((HL.out.at (show (ap, cp, ps) ∈ _ by simp))).kept0 (Hid.out (by assumption)))).mono ?_; rintro e v4 hh; first | (rw [← HT.out] at hh; obtain ⟨rfl, hj4⟩ := hh) | (rw [← HT'.out] at hh; obtain ⟨rfl, hj4⟩ := hh))
        | (go_at_call 35; go_split_ands; refine (sCompareBigs_any _ _ _ _ _ _ _ _ _ _ _ (((HL.out.at (show (ap, cp, ps) ∈ _ by simp))).kept0 (Hid.out (by assumption))) (((HL.out.at (show (aq, cq, qs) ∈ _ by simp))).kept0 (Hid.out (by assumption)))).mono ?_; rw [← HT.out]; rintro e v5 ⟨rfl, hj5⟩)
        | (go_at_call 36; go_split_ands; refine (SameBigs_any _ _ _ _ _ _ _ _ _ _ _ (((HL.out.at (show (ap, cp, ps) ∈ _ by simp))).kept0 (Hid.out (by assumption))) (((HL.out.at (show (aq, cq, qs) ∈ _ by simp))).kept0 (Hid.out (by assumption))) (by have := lP.out; omega) (by have := lQ.out; omega) (NP.out) (NQ.out)).mono ?_; rw [← HSB.out]; rintro e v6 ⟨rfl, hj6⟩)
        | (go_at_call 37; go_split_ands; refine (sSameBigs_any _ _ _ _ _ _ _ _ _ _ _ (((HL.out.at (show (ap, cp, ps) ∈ _ by simp))).kept0 (Hid.out (by assumption))) (((HL.out.at (show (aq, cq, qs) ∈ _ by simp))).kept0 (Hid.out (by assumption))) (by have := lP.out; omega) (by have := lQ.out; omega)).mono ?_; rw [← HSB.out]; rintro e v7 ⟨rfl, hj7⟩))
    rename_i hH
    go_wp2_with fail
    go_meet
    exact ⟨rfl, Lib.hid hH.1.out⟩
  case rest =>
    obtain ⟨rfl, hk0⟩ := hcut
    obtain ⟨w9, hw9⟩ : ∃ w' : World, w' = wc := ⟨_, rfl⟩
    subst hw9
    have hk := hk0.out
    clear hk0
    replace KK := Lib.hid (KK.out.trans0 hk)
    replace HL := Lib.hid ((HL.out.kept0 hk))
    replace XA := Lib.hid (XA.out.kept0 hk)
    replace XF := Lib.hid (XF.out.kept0 hk)
    replace XC := Lib.hid (XC.out.kept0 hk)
    replace XP := Lib.hid (XP.out.kept0 hk)
    replace XQ := Lib.hid (XQ.out.kept0 hk)
    clear hk
    clear ew1 ew2 ew3
    by_cases h0 : fc = 0
    · subst h0
      have rb := roots_back HF.out HC.out rfl
      obtain ⟨⟨lc, ln, ll⟩, hlo⟩ : ∃ v, v = mulB fn fl fn fl := ⟨_, rfl⟩
      obtain ⟨⟨hc9, hn, hl⟩, hhi⟩ : ∃ v, v = mulB cn cl cn cl := ⟨_, rfl⟩
      dsimp only at rb
      rw [← hlo, ← hhi] at rb
      dsimp only at rb
      have HLO := Lib.hid hlo
      have HHI := Lib.hid hhi
      clear hlo hhi
      obtain ⟨hcc, hl0, hl1, hh, gz, hg01, hsub⟩ := rb
      subst hl0
      have HSUB := Lib.hid hsub
      have HC1 := Lib.hid (cmp1 hg01)
      clear hsub hg01 hcc
      obtain ⟨t1, ht1⟩ : ∃ t, t = cmpB ln ll p xs := ⟨_, rfl⟩
      obtain ⟨t2, ht2⟩ : ∃ t, t = cmpB hn hl p xs := ⟨_, rfl⟩
      obtain ⟨t3, ht3⟩ : ∃ t, t = cmpB (isNeg gz) (mag gz) (isNeg 1) (mag 1) := ⟨_, rfl⟩
      rw [← ht1] at hl1
      rw [← ht2] at hh
      rw [← ht3] at HC1
      have HT1 := Lib.hid ht1
      have HT2 := Lib.hid ht2
      have HT3 := Lib.hid ht3
      clear ht1 ht2 ht3
      have HH := Lib.hid hh
      have e1 : decide (t1 ≤ 0) = true := decide_eq_true hl1
      have e3 : decide (t3 ≤ 0) = true := decide_eq_true HC1.out
      have hl3 := HC1.out
      clear hh
      have cF0 := XF.out.at 0 (by simp) (v := .int .i64 0) rfl
      have cF1 := XF.out.at 1 (by simp) (v := .bool fn) rfl
      have cF2 := XF.out.at 2 (by simp) (v := .slice af fl.length cf) rfl
      go_wp2_with fail
      refine (MulBigs_any _ _ _ _ _ _ _ _ _ _ _ (HL.out.at (show (af, cf, fl) ∈ _ by simp)) (HL.out.at (show (af, cf, fl) ∈ _ by simp))).mono ?_
      rw [← HLO.out, bigR3]
      rintro e w10 ⟨al, cl_, rfl, hq, _, hk⟩
      clear cF0 cF1 cF2
      replace KK := Lib.hid (KK.out.trans0 hk)
      replace HL := Lib.hid (((HL.out.kept0 hk).cons hq))
      replace XA := Lib.hid (XA.out.kept0 hk)
      replace XF := Lib.hid (XF.out.kept0 hk)
      replace XC := Lib.hid (XC.out.kept0 hk)
      replace XP := Lib.hid (XP.out.kept0 hk)
      replace XQ := Lib.hid (XQ.out.kept0 hk)
      clear hk hq
      obtain ⟨w11, hb⟩ : ∃ w', w' = w10.alloc (.cells #[.int .i64 0, .bool ln, .slice al ll.length cl_] 30) := ⟨_, rfl⟩
      have HB := Lib.hid hb
      clear hb
      have hk : Kept [] w10 w11 := by rw [HB.out]; exact (Kept.refl [] w10).alloc _
      have XLO : Hid (Bx w11 w10.heap.size [.int .i64 0, .bool ln, .slice al ll.length cl_]) := by rw [HB.out]; exact Lib.hid (Bx.new _ _ _)
      replace KK := Lib.hid (KK.out.trans0 hk)
      replace HL := Lib.hid ((HL.out.kept0 hk))
      replace XA := Lib.hid (XA.out.kept0 hk)
      replace XF := Lib.hid (XF.out.kept0 hk)
      replace XC := Lib.hid (XC.out.kept0 hk)
      replace XP := Lib.hid (XP.out.kept0 hk)
      replace XQ := Lib.hid (XQ.out.kept0 hk)
      clear hk
      go_upto_region 12 with fail
      rw [← HB.out]
      clear HB
      have cC1 := XC.out.at 1 (by simp) (v := .bool cn) rfl
      have cC2 := XC.out.at 2 (by simp) (v := .slice ac cl.length cc_) rfl
      go_wp2_with fail
      refine (MulBigs_any _ _ _ _ _ _ _ _ _ _ _ (HL.out.at (show (ac, cc_, cl) ∈ _ by simp)) (HL.out.at (show (ac, cc_, cl) ∈ _ by simp))).mono ?_
      rw [← HHI.out, bigR3]
      rintro e w12 ⟨ah, ch, rfl, hq, _, hk⟩
      clear cC1 cC2
      replace KK := Lib.hid (KK.out.trans0 hk)
      replace HL := Lib.hid (((HL.out.kept0 hk).cons hq))
      replace XA := Lib.hid (XA.out.kept0 hk)
      replace XF := Lib.hid (XF.out.kept0 hk)
      replace XC := Lib.hid (XC.out.kept0 hk)
      replace XP := Lib.hid (XP.out.kept0 hk)
      replace XQ := Lib.hid (XQ.out.kept0 hk)
      replace XLO := Lib.hid (XLO.out.kept0 hk)
      clear hk hq
      obtain ⟨w13, hb⟩ : ∃ w', w' = w12.alloc (.cells #[.int .i64 hc9, .bool hn, .slice ah hl.length ch] 30) := ⟨_, rfl⟩
      have HB := Lib.hid hb
      clear hb
      have hk : Kept [] w12 w13 := by rw [HB.out]; exact (Kept.refl [] w12).alloc _
      have XHI : Hid (Bx w13 w12.heap.size [.int .i64 hc9, .bool hn, .slice ah hl.length ch]) := by rw [HB.out]; exact Lib.hid (Bx.new _ _ _)
      replace KK := Lib.hid (KK.out.trans0 hk)
      replace HL := Lib.hid ((HL.out.kept0 hk))
      replace XA := Lib.hid (XA.out.kept0 hk)
      replace XF := Lib.hid (XF.out.kept0 hk)
      replace XC := Lib.hid (XC.out.kept0 hk)
      replace XP := Lib.hid (XP.out.kept0 hk)
      replace XQ := Lib.hid (XQ.out.kept0 hk)
      replace XLO := Lib.hid (XLO.out.kept0 hk)
      clear hk
      go_upto_region 13 with fail
      rw [← HB.out]
      clear HB
      have cLO0 := XLO.out.at 0 (by simp) (v := .int .i64 0) rfl
      have cLO1 := XLO.out.at 1 (by simp) (v := .bool ln) rfl
      have cLO2 := XLO.out.at 2 (by simp) (v := .slice al ll.length cl_) rfl
      have cA0 := XA.out.at 0 (by simp) (v := .bool p) rfl
      have cA1 := XA.out.at 1 (by simp) (v := .slice aa xs.length ca) rfl
      go_wp2_with fail
      refine (CompareBigs_any _ _ _ _ _ _ _ _ _ _ _ (HL.out.at (show (al, cl_, ll) ∈ _ by simp)) (HL.out.at (show (aa, ca, xs) ∈ _ by simp))).mono ?_
      rw [← HT1.out]
      rintro e w14 ⟨rfl, hk⟩
      clear cLO0 cLO1 cLO2 cA0 cA1
      replace KK := Lib.hid (KK.out.trans0 hk)
      replace HL := Lib.hid ((HL.out.kept0 hk))
      replace XA := Lib.hid (XA.out.kept0 hk)
      replace XF := Lib.hid (XF.out.kept0 hk)
      replace XC := Lib.hid (XC.out.kept0 hk)
      replace XP := Lib.hid (XP.out.kept0 hk)
      replace XQ := Lib.hid (XQ.out.kept0 hk)
      replace XLO := Lib.hid (XLO.out.kept0 hk)
      replace XHI := Lib.hid (XHI.out.kept0 hk)
      clear hk
      by_cases h9 : hc9 = 0
      · subst h9
        have hl2 := HH.out rfl
        have e2 : decide (t2 ≥ 0) = true := decide_eq_true hl2
        have e2' : decide (0 ≤ t2) = true := decide_eq_true hl2
        have cHI0 := XHI.out.at 0 (by simp) (v := .int .i64 0) rfl
        have cHI1 := XHI.out.at 1 (by simp) (v := .bool hn) rfl
        have cHI2 := XHI.out.at 2 (by simp) (v := .slice ah hl.length ch) rfl
        have cA0 := XA.out.at 0 (by simp) (v := .bool p) rfl
        have cA1 := XA.out.at 1 (by simp) (v := .slice aa xs.length ca) rfl
        go_wp2_with fail
        refine (CompareBigs_any _ _ _ _ _ _ _ _ _ _ _ (HL.out.at (show (ah, ch, hl) ∈ _ by simp)) (HL.out.at (show (aa, ca, xs) ∈ _ by simp))).mono ?_
        rw [← HT2.out]
        rintro e w15 ⟨rfl, hk⟩
        clear cHI0 cHI1 cHI2 cA0 cA1
        replace KK := Lib.hid (KK.out.trans0 hk)
        replace HL := Lib.hid ((HL.out.kept0 hk))
        replace XA := Lib.hid (XA.out.kept0 hk)
        replace XF := Lib.hid (XF.out.kept0 hk)
        replace XC := Lib.hid (XC.out.kept0 hk)
        replace XP := Lib.hid (XP.out.kept0 hk)
        replace XQ := Lib.hid (XQ.out.kept0 hk)
        replace XLO := Lib.hid (XLO.out.kept0 hk)
        replace XHI := Lib.hid (XHI.out.kept0 hk)
        clear hk
        have cC1 := XC.out.at 1 (by simp) (v := .bool cn) rfl
        have cC2 := XC.out.at 2 (by simp) (v := .slice ac cl.length cc_) rfl
        have cF1 := XF.out.at 1 (by simp) (v := .bool fn) rfl
        have cF2 := XF.out.at 2 (by simp) (v := .slice af fl.length cf) rfl
        go_wp2_with fail
        refine (SubBigs_any _ _ _ _ _ _ _ _ _ _ _ (HL.out.at (show (ac, cc_, cl) ∈ _ by simp)) (HL.out.at (show (af, cf, fl) ∈ _ by simp))).mono ?_
        rw [HSUB.out, bigR3]
        rintro e w16 ⟨ag, cg, rfl, hq, _, hk⟩
        clear cC1 cC2 cF1 cF2
        replace KK := Lib.hid (KK.out.trans0 hk)
        replace HL := Lib.hid ((HL.out.kept0 hk))
        replace XA := Lib.hid (XA.out.kept0 hk)
        replace XF := Lib.hid (XF.out.kept0 hk)
        replace XC := Lib.hid (XC.out.kept0 hk)
        replace XP := Lib.hid (XP.out.kept0 hk)
        replace XQ := Lib.hid (XQ.out.kept0 hk)
        replace XLO := Lib.hid (XLO.out.kept0 hk)
        replace XHI := Lib.hid (XHI.out.kept0 hk)
        clear hk
        go_wp2_with fail
        refine (BigOf_any 1 _ (by omega) (by omega)).mono ?_
        rintro e w17 ⟨ao, co, rfl, hq2, _, hk⟩
        have hq3 := hq.kept0 hk
        replace KK := Lib.hid (KK.out.trans0 hk)
        replace HL := Lib.hid ((HL.out.kept0 hk))
        replace XA := Lib.hid (XA.out.kept0 hk)
        replace XF := Lib.hid (XF.out.kept0 hk)
        replace XC := Lib.hid (XC.out.kept0 hk)
        replace XP := Lib.hid (XP.out.kept0 hk)
        replace XQ := Lib.hid (XQ.out.kept0 hk)
        replace XLO := Lib.hid (XLO.out.kept0 hk)
        replace XHI := Lib.hid (XHI.out.kept0 hk)
        clear hk
        go_wp2_with fail
        refine (CompareBigs_any _ _ _ _ _ _ _ _ _ _ _ hq3 hq2).mono ?_
        rw [← HT3.out]
        rintro e w18 ⟨rfl, hk⟩
        replace KK := Lib.hid (KK.out.trans0 hk)
        replace HL := Lib.hid ((HL.out.kept0 hk))
        replace XA := Lib.hid (XA.out.kept0 hk)
        replace XF := Lib.hid (XF.out.kept0 hk)
        replace XC := Lib.hid (XC.out.kept0 hk)
        replace XP := Lib.hid (XP.out.kept0 hk)
        replace XQ := Lib.hid (XQ.out.kept0 hk)
        replace XLO := Lib.hid (XLO.out.kept0 hk)
        replace XHI := Lib.hid (XHI.out.kept0 hk)
        clear hk hq hq2 hq3
        go_wp2_with fail
        go_ret
        exact ⟨rfl, KK.out⟩
      · have z1 : (hc9 == 0) = false := beq_eq_false_iff_ne.2 h9
        have cHI0 := XHI.out.at 0 (by simp) (v := .int .i64 hc9) rfl
        have cC1 := XC.out.at 1 (by simp) (v := .bool cn) rfl
        have cC2 := XC.out.at 2 (by simp) (v := .slice ac cl.length cc_) rfl
        have cF1 := XF.out.at 1 (by simp) (v := .bool fn) rfl
        have cF2 := XF.out.at 2 (by simp) (v := .slice af fl.length cf) rfl
        go_wp2_with fail
        refine (SubBigs_any _ _ _ _ _ _ _ _ _ _ _ (HL.out.at (show (ac, cc_, cl) ∈ _ by simp)) (HL.out.at (show (af, cf, fl) ∈ _ by simp))).mono ?_
        rw [HSUB.out, bigR3]
        rintro e w19 ⟨ag, cg, rfl, hq, _, hk⟩
        clear cC1 cC2 cF1 cF2
        replace KK := Lib.hid (KK.out.trans0 hk)
        replace HL := Lib.hid ((HL.out.kept0 hk))
        replace XA := Lib.hid (XA.out.kept0 hk)
        replace XF := Lib.hid (XF.out.kept0 hk)
        replace XC := Lib.hid (XC.out.kept0 hk)
        replace XP := Lib.hid (XP.out.kept0 hk)
        replace XQ := Lib.hid (XQ.out.kept0 hk)
        replace XLO := Lib.hid (XLO.out.kept0 hk)
        replace XHI := Lib.hid (XHI.out.kept0 hk)
        clear hk
        go_wp2_with fail
        refine (BigOf_any 1 _ (by omega) (by omega)).mono ?_
        rintro e w20 ⟨ao, co, rfl, hq2, _, hk⟩
        have hq3 := hq.kept0 hk
        replace KK := Lib.hid (KK.out.trans0 hk)
        replace HL := Lib.hid ((HL.out.kept0 hk))
        replace XA := Lib.hid (XA.out.kept0 hk)
        replace XF := Lib.hid (XF.out.kept0 hk)
        replace XC := Lib.hid (XC.out.kept0 hk)
        replace XP := Lib.hid (XP.out.kept0 hk)
        replace XQ := Lib.hid (XQ.out.kept0 hk)
        replace XLO := Lib.hid (XLO.out.kept0 hk)
        replace XHI := Lib.hid (XHI.out.kept0 hk)
        clear hk
        go_wp2_with fail
        refine (CompareBigs_any _ _ _ _ _ _ _ _ _ _ _ hq3 hq2).mono ?_
        rw [← HT3.out]
        rintro e w21 ⟨rfl, hk⟩
        replace KK := Lib.hid (KK.out.trans0 hk)
        replace HL := Lib.hid ((HL.out.kept0 hk))
        replace XA := Lib.hid (XA.out.kept0 hk)
        replace XF := Lib.hid (XF.out.kept0 hk)
        replace XC := Lib.hid (XC.out.kept0 hk)
        replace XP := Lib.hid (XP.out.kept0 hk)
        replace XQ := Lib.hid (XQ.out.kept0 hk)
        replace XLO := Lib.hid (XLO.out.kept0 hk)
        replace XHI := Lib.hid (XHI.out.kept0 hk)
        clear hk hq hq2 hq3
        go_wp2_with fail
        go_ret
        exact ⟨rfl, KK.out⟩
    · have z1 : (fc == 0) = false := beq_eq_false_iff_ne.2 h0
      have cF0 := XF.out.at 0 (by simp) (v := .int .i64 fc) rfl
      go_wp2_with fail
      go_ret
      exact ⟨rfl, KK.out⟩

end Go.Proofs.Ythahkicpkohfkaa
