/-
  Contracts of guessQuotLimb and takeQuotLimb. Conditions: the slices read as lists of limbs; what is divided is below 65536 times the divisor.
-/
import Derived.Test.YtgplghjameiciaaMul
import Derived.Test.YtgplghjameiciaaJ1
import Derived.ScopeJumps
import Derived.WalkMore
namespace Go.Proofs.Ytgplghjameiciaa
open Go.RowKit

theorem limbAt_eq (a : Option Addr) (n c : Nat) (xs : List Int) (p y : Int) (w : World) (h : Rd w a n xs) (hp : -9223372036854775808 ≤ p ∧ p ≤ 9223372036854775807) (hv : atP xs p = y) :
    Calls Try.prog 73 #[.slice a n c, .int .i64 p] w fun e w' => e = .returned (.int .i64 y) ∧ w = w' :=
  (limbAt_at a n c xs p y w h hp hv).mono fun _ _ ⟨h1, h2⟩ => ⟨h1, h2.symm⟩

set_option maxHeartbeats 1000000 in
theorem guessQuotLimb_any (a b : Option Addr) (n c m d : Nat) (R ys : List Int) (w : World) (h : Rd w a n R) (h' : Rd w b m ys) (hn : n = m + 1) (hm : 0 < m) (hmm : m ≤ 1000000) (hR : AllLimbs R) (hy : AllLimbs ys) (ht : ys.getD (m - 1) 0 ≠ 0) :
    Calls Try.prog 105 #[.slice a n c, .slice b m d] w fun e w' => e = .returned (.int .i64 (guessV R ys)) ∧ w = w' := by
  have HR := Lib.hid h
  have HR' := Lib.hid h'
  have HL' := Lib.hid h'.1
  have hb (xs : List Int) (hx : AllLimbs xs) (p : Int) : 0 ≤ atP xs p ∧ atP xs p ≤ 65535 := by
    unfold atP
    split
    · omega
    · exact getD_limb hx _
  have b0 := hb R hR (m : Int)
  have b1 := hb R hR ((m : Int) - 1)
  have b2 := hb R hR ((m : Int) - 2)
  have b3 := hb ys hy ((m : Int) - 1)
  have b4 := hb ys hy ((m : Int) - 2)
  have b5 : 1 ≤ atP ys ((m : Int) - 1) := by
    have e : atP ys ((m : Int) - 1) = ys.getD (m - 1) 0 := atP_of (by omega)
    have := hy (m - 1) (by rw [HL'.out]; omega)
    omega
  have hG : Hid (guessV R ys = ((atP R m * 65536 + atP R ((m : Int) - 1)) * 65536 + atP R ((m : Int) - 2)) / (atP ys ((m : Int) - 1) * 65536 + atP ys ((m : Int) - 2))) := by
    show guessV R ys = _
    unfold guessV
    rw [HL'.out]
  obtain ⟨r0, hr0⟩ : ∃ r, r = atP R (m : Int) := ⟨_, rfl⟩
  obtain ⟨r1, hr1⟩ : ∃ r, r = atP R ((m : Int) - 1) := ⟨_, rfl⟩
  obtain ⟨r2, hr2⟩ : ∃ r, r = atP R ((m : Int) - 2) := ⟨_, rfl⟩
  obtain ⟨y1, hy1⟩ : ∃ r, r = atP ys ((m : Int) - 1) := ⟨_, rfl⟩
  obtain ⟨y2, hy2⟩ : ∃ r, r = atP ys ((m : Int) - 2) := ⟨_, rfl⟩
  rw [← hr0, ← hr1, ← hr2, ← hy1, ← hy2] at hG
  rw [← hr0] at b0
  rw [← hr1] at b1
  rw [← hr2] at b2
  rw [← hy1] at b3 b5
  rw [← hy2] at b4
  obtain ⟨c0, c0'⟩ := b0
  obtain ⟨c1, c1'⟩ := b1
  obtain ⟨c2, c2'⟩ := b2
  obtain ⟨c3, c3'⟩ := b3
  obtain ⟨c4, c4'⟩ := b4
  have A0 := Lib.hid hr0.symm
  have A1 := Lib.hid hr1.symm
  have A2 := Lib.hid hr2.symm
  have A3 := Lib.hid hy1.symm
  have A4 := Lib.hid hy2.symm
  clear hr0 hr1 hr2 hy1 hy2 hb h h' ht hR hy
  subst hn
  go_enter Try.func105, Try.ntmps105
  go_wp2_with fail
  refine (limbAt_eq _ _ _ R _ r0 _ HR.out (by omega) A0.out).mono ?_
  rintro e w2 ⟨rfl, rfl⟩
  go_wp2_with fail
  refine (limbAt_eq _ _ _ R _ r1 _ HR.out (by omega) A1.out).mono ?_
  rintro e w2 ⟨rfl, rfl⟩
  go_wp2_with fail
  refine (limbAt_eq _ _ _ R _ r2 _ HR.out (by omega) A2.out).mono ?_
  rintro e w2 ⟨rfl, rfl⟩
  go_wp2_with fail
  refine (limbAt_eq _ _ _ ys _ y1 _ HR'.out (by omega) A3.out).mono ?_
  rintro e w2 ⟨rfl, rfl⟩
  go_wp2_with fail
  refine (limbAt_eq _ _ _ ys _ y2 _ HR'.out (by omega) A4.out).mono ?_
  rintro e w2 ⟨rfl, rfl⟩
  go_wp2_with fail
  go_ret
  exact ⟨by rw [hG.out]; rfl, rfl⟩

theorem Upd.again {cs ds es out out2 : List Int} {off : Nat} (h : Upd cs off out ds) (h2 : Upd ds off out2 es) (hl : out2.length = out.length) : Upd cs off out2 es :=
  ⟨by rw [h2.len, h.len], h2.new, fun j hj => by rw [h2.old j hj, h.old j (by rw [← hl]; exact hj)]⟩

/-- What a limb of a quotient answers: the limb; what is left lies in the window. -/
def TakeR (w : World) (g off : Nat) (cs : List Int) (n : Nat) (X V : Int) (e : Ending) (w' : World) : Prop :=
  ∃ (out ds : List Int), e = .returned (.int .i64 (X / V)) ∧ out.length = n ∧ AllLimbs out ∧ val out = X % V ∧ Upd cs off out ds ∧ Blk w' g ds ∧ Kept [g] w w'

set_option maxHeartbeats 2000000 in
theorem takeQuotLimb_any (g off c : Nat) (cs ss : List Int) (b : Option Addr) (m d : Nat) (ys : List Int) (w : World)
    (hB : Blk w g cs) (hl : off + (m + 1) ≤ cs.length) (hs : ss.length = m + 1) (hss : ∀ i, i < m + 1 → cs.getD (off + i) 0 = ss.getD i 0) (hsl : AllLimbs ss) (hcc : m + 1 ≤ c) (hcm : c ≤ 9223372036854775807)
    (hm : 0 < m) (hm2 : m ≤ 1000000) (ho : off ≤ 1000000) (hy : Rd w b m ys) (hyl : AllLimbs ys) (ht : ys.getD (m - 1) 0 ≠ 0) (hap : ∀ x, b = some x → x.block ≠ g) (hlt : val ss < 65536 * val ys) :
    Calls Try.prog 71 #[.slice (some ⟨g, off, none⟩) (m + 1) c, .slice b m d] w (TakeR w g off cs (m + 1) (val ss) (val ys)) := by
  have hrd : Rd w (some ⟨g, off, none⟩) (m + 1) ss := Sl.rd (show Sl w (some ⟨g, off, none⟩) (m + 1) c ss from ⟨hs, hcc, hcm, by simp, Or.inr ⟨g, off, cs, rfl, hB, hl, hss⟩⟩)
  have hgb := guess_bounds hsl (by rw [hs, hy.1]) hyl (by rw [hy.1]; exact hm) (by rw [hy.1]; exact ht) hlt
  have hX : 0 ≤ val ss ∧ val ss < pw (m + 1) := by have := hsl.val; rw [hs] at this; exact this
  have hVv : 0 ≤ val ys ∧ val ys < pw m := by have := hyl.val; rw [hy.1] at this; exact this
  have hV0 : 0 < val ys := by omega
  have hVn : 32769 * val ys ≤ pw (m + 1) := by simp only [pw]; omega
  have HRD := Lib.hid hrd
  have HGB := Lib.hid hgb
  have HX := Lib.hid hX
  have HV0 := Lib.hid hV0
  have HVN := Lib.hid hVn
  have HB := Lib.hid hB
  have HLc := Lib.hid hl
  have HS := Lib.hid hs
  have HSS := Lib.hid hss
  have HSL := Lib.hid hsl
  have HY := Lib.hid hy
  have HYL := Lib.hid hyl
  have HT := Lib.hid ht
  have HA := Lib.hid hap
  obtain ⟨X, hXe⟩ : ∃ X, X = val ss := ⟨_, rfl⟩
  obtain ⟨V, hVe⟩ : ∃ V, V = val ys := ⟨_, rfl⟩
  obtain ⟨G, hGe⟩ : ∃ G, G = guessV ss ys := ⟨_, rfl⟩
  rw [← hXe, ← hVe]
  rw [← hXe, ← hVe, ← hGe] at HGB
  rw [← hXe] at HX
  rw [← hVe] at HV0 HVN
  have HXE := Lib.hid hXe
  have HVE := Lib.hid hVe
  have HGE := Lib.hid hGe
  have hG1 : G ≤ 65537 := HGB.out.2.1
  have hG0 : 0 ≤ G := HGB.out.2.2
  clear hrd hgb hX hV0 hVn hB hl hs hss hsl hy hyl ht hap hlt hVv hXe hVe hGe
  -- what a step leaves, seen at the head of the mending
  have step : ∀ (out : List Int) (cy gs : Int), AllLimbs out → out.length = m + 1 → val out + pw (m + 1) * cy = X - gs * V → X / V ≤ gs → gs ≤ 65537 → -3 ≤ cy ∧ cy ≤ 0 ∧ (cy < 0 → X / V ≤ gs - 1) ∧ (¬ cy < 0 → gs = X / V ∧ val out = X % V) :=
    fun out cy gs h1 h2 h3 h4 h5 => guess_end h1 h2 HV0.out h3 h4 h5 HX.out HVN.out
  have hq0 : 0 ≤ X / V := Int.ediv_nonneg HX.out.1 (by have := HV0.out; omega)
  have STEP := Lib.hid step
  have HQ0 := Lib.hid hq0
  clear step hq0
  go_enter Try.func71, Try.ntmps71
  go_wp2
  refine wp_scope_jumps 0 (fun a' w' => ∃ (gs cy : Int) (out ds : List Int) (u7 u8 u9 u10 u11 u12 u13 u14 u15 u16 u17 u18 u19 u20 u21 u22 u23 u24 : Value), a' = { tmps := #[.slice (some ⟨g, off, none⟩) (m + 1) c, .slice b m d, undef, undef, .int .i64 0, .int .i64 gs, .int .i64 cy, u7, u8, u9, u10, u11, u12, u13, u14, u15, u16, u17, u18, u19, u20, u21, u22, u23, u24], defers := [] } ∧ Hid (AllLimbs out) ∧ Hid (out.length = m + 1) ∧ Hid (val out + pw (m + 1) * cy = X - gs * V) ∧ Hid (X / V ≤ gs) ∧ gs ≤ 65537 ∧ 0 ≤ gs ∧ Hid (Upd cs off out ds) ∧ Hid (Blk w' g ds) ∧ Hid (Kept [g] w w')) (fun a' _ => (intOf (a'.tmps.getD 5 undef)).toNat) rfl ?_ ?_
  · go_wp2_with fail
    refine (guessQuotLimb_any _ _ _ _ _ _ ss ys _ HRD.out HY.out rfl hm hm2 HSL.out HYL.out HT.out).mono ?_
    rintro e w2 ⟨rfl, rfl⟩
    rw [← HGE.out]
    go_wp2_with fail
    refine (addTimes_any g off (m + 1) c cs ss _ _ _ ys (-G) _ HB.out HLc.out HS.out HSS.out HSL.out (by omega) (by omega) HY.out HYL.out (by omega) (fun _ => HA.out) (by omega)).mono ?_
    rintro e w3 ⟨out, ds, cy, rfl, ho1, ho2, ho3, ho4, ho5, ho6, _, _⟩
    have heq : val out + pw (m + 1) * cy = X - G * V := by
      rw [ap_pw, ho1] at ho3
      rw [ho3, HXE.out, HVE.out, Int.neg_mul]; omega
    have hst := STEP.out out cy G ho2 ho1 heq HGB.out.1 hG1
    have HO1 := Lib.hid ho1
    have HO2 := Lib.hid ho2
    have HEQ := Lib.hid heq
    have HU := Lib.hid ho4
    have HB3 := Lib.hid ho5
    have HK3 := Lib.hid ho6
    clear ho1 ho2 ho3 ho4 ho5 ho6 heq
    by_cases hneg : cy < 0
    · have hq1 := hst.2.2.1 hneg
      have HQ1 := Lib.hid hq1
      have hgp : 0 ≤ G - 1 := by have := HQ0.out; omega
      have e1 : IntKind.i64.wrap (G - 1) = G - 1 := IntWalk.i64_in _ (by omega)
      have hr : Rd w3 b m ys := HY.out.kept HK3.out (fun hm x hx => by have := HA.out x hx; simpa using this)
      have HR3 := Lib.hid hr
      have hcy3 : -3 ≤ cy := hst.1
      have HHO1 := Lib.hid (show out.length = m + 1 from HO1.out)
      clear hq1 hr hst
      go_wp2
      go_step3
      go_wp2_with fail
      refine (addTimes_any g off (m + 1) c ds out _ _ _ ys 1 _ HB3.out (by rw [HU.out.len]; exact HLc.out) HO1.out (fun i hi => HU.out.new i (by rw [HO1.out]; exact hi)) HO2.out (by omega) (by omega) HR3.out HYL.out (by omega) (fun _ => HA.out) (by omega)).mono ?_
      rintro e w4 ⟨out2, ds2, cy2, rfl, p1, p2, p3, p4, p5, p6, _, _⟩
      have heq2 : val out2 + pw (m + 1) * (cy + cy2) = X - (G - 1) * V := by
        rw [ap_pw, p1] at p3
        have h9 := HEQ.out
        rw [Int.mul_add, Int.sub_mul, Int.one_mul, HVE.out]
        rw [HVE.out] at h9
        omega
      have hst2 := STEP.out out2 (cy + cy2) (G - 1) p2 p1 heq2 HQ1.out (by omega)
      obtain ⟨cy3, hcy⟩ : ∃ cy3, cy3 = cy + cy2 := ⟨_, rfl⟩
      rw [← hcy] at heq2 hst2
      have e2 : IntKind.i64.wrap (cy + cy2) = cy3 := by rw [hcy]; exact IntWalk.i64_in _ (by omega)
      have P1 := Lib.hid p1
      have P2 := Lib.hid p2
      have HEQ2 := Lib.hid heq2
      have HU2 := Lib.hid (HU.out.again p4 (by rw [p1, HO1.out]))
      have HB4 := Lib.hid p5
      have HK4 : Hid (Kept [g] w w4) := HK3.out.trans p6 (fun x hx _ => hx)
      clear p1 p2 p3 p4 p5 p6 heq2 hst2 hcy
      go_wp2_with fail
      go_step3
      exact ⟨rfl, G - 1, cy3, out2, ds2, _, _, _, _, _, _, _, _, _, _, _, _, _, _, _, _, _, _, rfl, P2.out, P1.out, HEQ2.out, HQ1.out, by omega, hgp, HU2.out, HB4.out, HK4.out⟩
    · obtain ⟨hgq, hvr⟩ := hst.2.2.2 (by omega)
      have HGQ := Lib.hid hgq
      have HVR := Lib.hid hvr
      have hcd : decide (cy < 0) = false := decide_eq_false hneg
      clear hgq hvr hst
      go_wp2
      go_step3
      go_wp2
      simp only [Exit.jump]
      go_ret
      exact ⟨out, ds, by rw [← HGQ.out]; rfl, HO1.out, HO2.out, HVR.out, HU.out, HB3.out, HK3.out⟩
  · rintro a' w' ⟨gs, cy, out, ds, u7, u8, u9, u10, u11, u12, u13, u14, u15, u16, u17, u18, u19, u20, u21, u22, u23, u24, rfl, hO2, hO1, hEQ, hQ, hg1, hg0, hU, hB3, hK3⟩
    have hst := STEP.out out cy gs hO2.out hO1.out hEQ.out hQ.out hg1
    by_cases hneg : cy < 0
    · have hq1 := hst.2.2.1 hneg
      have HQ1 := Lib.hid hq1
      have hgp : 0 ≤ gs - 1 := by have := HQ0.out; omega
      have e1 : IntKind.i64.wrap (gs - 1) = gs - 1 := IntWalk.i64_in _ (by omega)
      have hr : Rd w' b m ys := HY.out.kept hK3.out (fun hm x hx => by have := HA.out x hx; simpa using this)
      have HR3 := Lib.hid hr
      have hcy3 : -3 ≤ cy := hst.1
      have HHO1 := Lib.hid (show out.length = m + 1 from hO1.out)
      clear hq1 hr hst
      go_wp2_with fail
      refine (addTimes_any g off (m + 1) c ds out _ _ _ ys 1 _ hB3.out (by rw [hU.out.len]; exact HLc.out) hO1.out (fun i hi => hU.out.new i (by rw [hO1.out]; exact hi)) hO2.out (by omega) (by omega) HR3.out HYL.out (by omega) (fun _ => HA.out) (by omega)).mono ?_
      rintro e w4 ⟨out2, ds2, cy2, rfl, p1, p2, p3, p4, p5, p6, _, _⟩
      have heq2 : val out2 + pw (m + 1) * (cy + cy2) = X - (gs - 1) * V := by
        rw [ap_pw, p1] at p3
        have h9 := hEQ.out
        rw [Int.mul_add, Int.sub_mul, Int.one_mul, HVE.out]
        rw [HVE.out] at h9
        omega
      have hst2 := STEP.out out2 (cy + cy2) (gs - 1) p2 p1 heq2 HQ1.out (by omega)
      obtain ⟨cy3, hcy⟩ : ∃ cy3, cy3 = cy + cy2 := ⟨_, rfl⟩
      rw [← hcy] at heq2 hst2
      have e2 : IntKind.i64.wrap (cy + cy2) = cy3 := by rw [hcy]; exact IntWalk.i64_in _ (by omega)
      have P1 := Lib.hid p1
      have P2 := Lib.hid p2
      have HEQ2 := Lib.hid heq2
      have HU2 := Lib.hid (hU.out.again p4 (by rw [p1, hO1.out]))
      have HB4 := Lib.hid p5
      have HK4 : Hid (Kept [g] w w4) := hK3.out.trans p6 (fun x hx _ => hx)
      clear p1 p2 p3 p4 p5 p6 heq2 hst2 hcy
      go_wp2_with fail
      go_step3
      exact ⟨rfl, ⟨gs - 1, cy3, out2, ds2, _, _, _, _, _, _, _, _, _, _, _, _, _, _, _, _, _, _, rfl, P2.out, P1.out, HEQ2.out, HQ1.out, by omega, hgp, HU2.out, HB4.out, HK4.out⟩, by simp [intOf]; omega⟩
    · obtain ⟨hgq, hvr⟩ := hst.2.2.2 (by omega)
      have HGQ := Lib.hid hgq
      have HVR := Lib.hid hvr
      have hcd : decide (cy < 0) = false := decide_eq_false hneg
      clear hgq hvr hst
      go_wp2
      simp only [Exit.jump]
      go_ret
      exact ⟨out, ds, by rw [← HGQ.out]; rfl, hO1.out, hO2.out, HVR.out, hU.out, hB3.out, hK3.out⟩

end Go.Proofs.Ytgplghjameiciaa
