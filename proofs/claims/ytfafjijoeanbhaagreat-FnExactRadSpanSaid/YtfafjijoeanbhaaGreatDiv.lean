/-
  Joined texts.
-/
import Derived.Test.YtfafjijoeanbhaaGreatMul
import Derived.Test.YtfafjijoeanbhaaGreatJ1
import Derived.ScopeJumps
import Derived.WalkMore
import Derived.Deep.DeepFit
namespace Go.Proofs.YtfafjijoeanbhaaGreat
open Go.RowKit

theorem limbAt_eq (a : Option Addr) (n c : Nat) (xs : List Int) (p y : Int) (w : World) (h : Rd w a n xs) (hp : -9223372036854775808 ≤ p ∧ p ≤ 9223372036854775807) (hv : atP xs p = y) :
  Calls Tryz.prog 219 #[.slice a n c, .int .i64 p] w fun e w' => e = .returned (.int .i64 y) ∧ w = w' :=
 (limbAt_at a n c xs p y w h hp hv).mono fun _ _ ⟨h1, h2⟩ => ⟨h1, h2.symm⟩

set_option maxHeartbeats 1000000 in
theorem guessQuotLimb_any (a b : Option Addr) (n c m d : Nat) (R ys : List Int) (w : World) (h : Rd w a n R) (h' : Rd w b m ys) (hn : n = m + 1) (hm : 0 < m) (hmm : m ≤ 1000000) (hR : AllLimbs R) (hy : AllLimbs ys) (ht : ys.getD (m - 1) 0 ≠ 0) :
  Calls Tryz.prog 223 #[.slice a n c, .slice b m d] w fun e w' => e = .returned (.int .i64 (guessV R ys)) ∧ w = w' := by
 have HR := Lib.hid h
 have HR' := Lib.hid h'
 have HL' := Lib.hid h'.1
 have hb (xs : List Int) (hx : AllLimbs xs) (p : Int) : 0 ≤ atP xs p ∧ atP xs p ≤ 65535 := by
  unfold atP
  split
  ·omega
  ·exact getD_limb hx _
 have b0 := hb R hR (m : Int)
 have b1 := hb R hR ((m : Int) - 1)
 have b2 := hb R hR ((m : Int) - 2)
 have b3 := hb ys hy ((m : Int) - 1)
 have b4 := hb ys hy ((m : Int) - 2)
 have b5 : 1 ≤ atP ys ((m : Int) - 1) := by
  have e : atP ys ((m : Int) - 1) = ys.getD (m - 1) 0 := atP_of (by omega)
  have := hy (m - 1) (by rw [HL'.out]; omega)
  omega
 have hG : Hid (guessV R ys = ((atP R m * 65536 + atP R ((m : Int) - 1)) * 65536 + atP R ((m : Int) - 2)) / (atP ys ((m : Int) - 1) * 65536 + atP ys ((m : Int) - 2))) := by
  show guessV R ys = _
  unfold guessV
  rw [HL'.out]
 obtain ⟨r0, hr0⟩ : ∃ r, r = atP R (m : Int) := ⟨_, rfl⟩
 obtain ⟨r1, hr1⟩ : ∃ r, r = atP R ((m : Int) - 1) := ⟨_, rfl⟩
 obtain ⟨r2, hr2⟩ : ∃ r, r = atP R ((m : Int) - 2) := ⟨_, rfl⟩
 obtain ⟨y1, hy1⟩ : ∃ r, r = atP ys ((m : Int) - 1) := ⟨_, rfl⟩
 obtain ⟨y2, hy2⟩ : ∃ r, r = atP ys ((m : Int) - 2) := ⟨_, rfl⟩
 rw [← hr0, ← hr1, ← hr2, ← hy1, ← hy2] at hG
 rw [← hr0] at b0
 rw [← hr1] at b1
 rw [← hr2] at b2
 rw [← hy1] at b3 b5
 rw [← hy2] at b4
 obtain ⟨c0, c0'⟩ := b0
 obtain ⟨c1, c1'⟩ := b1
 obtain ⟨c2, c2'⟩ := b2
 obtain ⟨c3, c3'⟩ := b3
 obtain ⟨c4, c4'⟩ := b4
 have A0 := Lib.hid hr0.symm
 have A1 := Lib.hid hr1.symm
 have A2 := Lib.hid hr2.symm
 have A3 := Lib.hid hy1.symm
 have A4 := Lib.hid hy2.symm
 clear hr0 hr1 hr2 hy1 hy2 hb h h' ht hR hy
 subst hn
 go_enter Tryz.func223, Tryz.ntmps223
 go_wp2_with fail
 refine (limbAt_eq _ _ _ R _ r0 _ HR.out (by omega) A0.out).mono ?_
 rintro e w2 ⟨rfl, rfl⟩
 go_wp2_with fail
 refine (limbAt_eq _ _ _ R _ r1 _ HR.out (by omega) A1.out).mono ?_
 rintro e w2 ⟨rfl, rfl⟩
 go_wp2_with fail
 refine (limbAt_eq _ _ _ R _ r2 _ HR.out (by omega) A2.out).mono ?_
 rintro e w2 ⟨rfl, rfl⟩
 go_wp2_with fail
 refine (limbAt_eq _ _ _ ys _ y1 _ HR'.out (by omega) A3.out).mono ?_
 rintro e w2 ⟨rfl, rfl⟩
 go_wp2_with fail
 refine (limbAt_eq _ _ _ ys _ y2 _ HR'.out (by omega) A4.out).mono ?_
 rintro e w2 ⟨rfl, rfl⟩
 go_wp2_with fail
 go_ret
 exact ⟨by rw [hG.out]; rfl, rfl⟩

theorem Upd.again {cs ds es out out2 : List Int} {off : Nat} (h : Upd cs off out ds) (h2 : Upd ds off out2 es) (hl : out2.length = out.length) : Upd cs off out2 es :=
 ⟨by rw [h2.len, h.len], h2.new, fun j hj => by rw [h2.old j hj, h.old j (by rw [← hl]; exact hj)]⟩

/-- What a limb of a quotient answers: the limb; what is left lies in the window. -/
def TakeR (w : World) (g off : Nat) (cs : List Int) (n : Nat) (X V : Int) (e : Ending) (w' : World) : Prop :=
 ∃ (out ds : List Int), e = .returned (.int .i64 (X / V)) ∧ out.length = n ∧ AllLimbs out ∧ val out = X % V ∧ Upd cs off out ds ∧ Blk w' g ds ∧ Kept [g] w w'

set_option maxHeartbeats 2000000 in
theorem takeQuotLimb_any (g off c : Nat) (cs ss : List Int) (b : Option Addr) (m d : Nat) (ys : List Int) (w : World)
  (hB : Blk w g cs) (hl : off + (m + 1) ≤ cs.length) (hs : ss.length = m + 1) (hss : ∀ i, i < m + 1 → cs.getD (off + i) 0 = ss.getD i 0) (hsl : AllLimbs ss) (hcc : m + 1 ≤ c) (hcm : c ≤ 9223372036854775807)
  (hm : 0 < m) (hm2 : m ≤ 1000000) (ho : off ≤ 1000000) (hy : Rd w b m ys) (hyl : AllLimbs ys) (ht : ys.getD (m - 1) 0 ≠ 0) (hap : ∀ x, b = some x → x.block ≠ g) (hlt : val ss < 65536 * val ys) :
  Calls Tryz.prog 218 #[.slice (some ⟨g, off, none⟩) (m + 1) c, .slice b m d] w (TakeR w g off cs (m + 1) (val ss) (val ys)) := by
 have hrd : Rd w (some ⟨g, off, none⟩) (m + 1) ss := Sl.rd (show Sl w (some ⟨g, off, none⟩) (m + 1) c ss from ⟨hs, hcc, hcm, by simp, Or.inr ⟨g, off, cs, rfl, hB, hl, hss⟩⟩)
 have hgb := guess_bounds hsl (by rw [hs, hy.1]) hyl (by rw [hy.1]; exact hm) (by rw [hy.1]; exact ht) hlt
 have hX : 0 ≤ val ss ∧ val ss < pw (m + 1) := by have := hsl.val; rw [hs] at this; exact this
 have hVv : 0 ≤ val ys ∧ val ys < pw m := by have := hyl.val; rw [hy.1] at this; exact this
 have hV0 : 0 < val ys := by omega
 have hVn : 32769 * val ys ≤ pw (m + 1) := by simp only [pw]; omega
 have HRD := Lib.hid hrd
 have HGB := Lib.hid hgb
 have HX := Lib.hid hX
 have HV0 := Lib.hid hV0
 have HVN := Lib.hid hVn
 have HB := Lib.hid hB
 have HLc := Lib.hid hl
 have HS := Lib.hid hs
 have HSS := Lib.hid hss
 have HSL := Lib.hid hsl
 have HY := Lib.hid hy
 have HYL := Lib.hid hyl
 have HT := Lib.hid ht
 have HA := Lib.hid hap
 obtain ⟨X, hXe⟩ : ∃ X, X = val ss := ⟨_, rfl⟩
 obtain ⟨V, hVe⟩ : ∃ V, V = val ys := ⟨_, rfl⟩
 obtain ⟨G, hGe⟩ : ∃ G, G = guessV ss ys := ⟨_, rfl⟩
 rw [← hXe, ← hVe]
 rw [← hXe, ← hVe, ← hGe] at HGB
 rw [← hXe] at HX
 rw [← hVe] at HV0 HVN
 have HXE := Lib.hid hXe
 have HVE := Lib.hid hVe
 have HGE := Lib.hid hGe
 have hG1 : G ≤ 65537 := HGB.out.2.1
 have hG0 : 0 ≤ G := HGB.out.2.2
 clear hrd hgb hX hV0 hVn hB hl hs hss hsl hy hyl ht hap hlt hVv hXe hVe hGe
 -- what a step leaves, seen at the head of the mending
 have step : ∀ (out : List Int) (cy gs : Int), AllLimbs out → out.length = m + 1 → val out + pw (m + 1) * cy = X - gs * V → X / V ≤ gs → gs ≤ 65537 → -3 ≤ cy ∧ cy ≤ 0 ∧ (cy < 0 → X / V ≤ gs - 1) ∧ (¬ cy < 0 → gs = X / V ∧ val out = X % V) :=
  fun out cy gs h1 h2 h3 h4 h5 => guess_end h1 h2 HV0.out h3 h4 h5 HX.out HVN.out
 have hq0 : 0 ≤ X / V := Int.ediv_nonneg HX.out.1 (by have := HV0.out; omega)
 have STEP := Lib.hid step
 have HQ0 := Lib.hid hq0
 clear step hq0
 go_enter Tryz.func218, Tryz.ntmps218
 go_wp2
 refine wp_scope_jumps 0 (fun a' w' => ∃ (gs cy : Int) (out ds : List Int) (u7 u8 u9 u10 u11 u12 u13 u14 u15 u16 u17 u18 u19 u20 u21 u22 u23 u24 : Value), a' = { tmps := #[.slice (some ⟨g, off, none⟩) (m + 1) c, .slice b m d, undef, undef, .int .i64 0, .int .i64 gs, .int .i64 cy, u7, u8, u9, u10, u11, u12, u13, u14, u15, u16, u17, u18, u19, u20, u21, u22, u23, u24], defers := [] } ∧ Hid (AllLimbs out) ∧ Hid (out.length = m + 1) ∧ Hid (val out + pw (m + 1) * cy = X - gs * V) ∧ Hid (X / V ≤ gs) ∧ gs ≤ 65537 ∧ 0 ≤ gs ∧ Hid (Upd cs off out ds) ∧ Hid (Blk w' g ds) ∧ Hid (Kept [g] w w')) (fun a' _ => (intOf (a'.tmps.getD 5 undef)).toNat) rfl ?_ ?_
 ·go_wp2_with fail
  refine (guessQuotLimb_any _ _ _ _ _ _ ss ys _ HRD.out HY.out rfl hm hm2 HSL.out HYL.out HT.out).mono ?_
  rintro e w2 ⟨rfl, rfl⟩
  rw [← HGE.out]
  go_wp2_with fail
  refine (addTimes_any g off (m + 1) c cs ss _ _ _ ys (-G) _ HB.out HLc.out HS.out HSS.out HSL.out (by omega) (by omega) HY.out HYL.out (by omega) (fun _ => HA.out) (by omega)).mono ?_
  rintro e w3 ⟨out, ds, cy, rfl, ho1, ho2, ho3, ho4, ho5, ho6, _, _⟩
  have heq : val out + pw (m + 1) * cy = X - G * V := by
   rw [ap_pw, ho1] at ho3
   rw [ho3, HXE.out, HVE.out, Int.neg_mul]; omega
  have hst := STEP.out out cy G ho2 ho1 heq HGB.out.1 hG1
  have HO1 := Lib.hid ho1
  have HO2 := Lib.hid ho2
  have HEQ := Lib.hid heq
  have HU := Lib.hid ho4
  have HB3 := Lib.hid ho5
  have HK3 := Lib.hid ho6
  clear ho1 ho2 ho3 ho4 ho5 ho6 heq
  by_cases hneg : cy < 0
  ·have hq1 := hst.2.2.1 hneg
   have HQ1 := Lib.hid hq1
   have hgp : 0 ≤ G - 1 := by have := HQ0.out; omega
   have e1 : IntKind.i64.wrap (G - 1) = G - 1 := IntWalk.i64_in _ (by omega)
   have hr : Rd w3 b m ys := HY.out.kept HK3.out (fun hm x hx => by have := HA.out x hx; simpa using this)
   have HR3 := Lib.hid hr
   have hcy3 : -3 ≤ cy := hst.1
   have HHO1 := Lib.hid (show out.length = m + 1 from HO1.out)
   clear hq1 hr hst
   go_wp2
   go_step3
   go_wp2_with fail
   refine (addTimes_any g off (m + 1) c ds out _ _ _ ys 1 _ HB3.out (by rw [HU.out.len]; exact HLc.out) HO1.out (fun i hi => HU.out.new i (by rw [HO1.out]; exact hi)) HO2.out (by omega) (by omega) HR3.out HYL.out (by omega) (fun _ => HA.out) (by omega)).mono ?_
   rintro e w4 ⟨out2, ds2, cy2, rfl, p1, p2, p3, p4, p5, p6, _, _⟩
   have heq2 : val out2 + pw (m + 1) * (cy + cy2) = X - (G - 1) * V := by
    rw [ap_pw, p1] at p3
    have h9 := HEQ.out
    rw [Int.mul_add, Int.sub_mul, Int.one_mul, HVE.out]
    rw [HVE.out] at h9
    omega
   have hst2 := STEP.out out2 (cy + cy2) (G - 1) p2 p1 heq2 HQ1.out (by omega)
   obtain ⟨cy3, hcy⟩ : ∃ cy3, cy3 = cy + cy2 := ⟨_, rfl⟩
   rw [← hcy] at heq2 hst2
   have e2 : IntKind.i64.wrap (cy + cy2) = cy3 := by rw [hcy]; exact IntWalk.i64_in _ (by omega)
   have P1 := Lib.hid p1
   have P2 := Lib.hid p2
   have HEQ2 := Lib.hid heq2
   have HU2 := Lib.hid (HU.out.again p4 (by rw [p1, HO1.out]))
   have HB4 := Lib.hid p5
   have HK4 : Hid (Kept [g] w w4) := HK3.out.trans p6 (fun x hx _ => hx)
   clear p1 p2 p3 p4 p5 p6 heq2 hst2 hcy
   go_wp2_with fail
   go_step3
   exact ⟨rfl, G - 1, cy3, out2, ds2, _, _, _, _, _, _, _, _, _, _, _, _, _, _, _, _, _, _, rfl, P2.out, P1.out, HEQ2.out, HQ1.out, by omega, hgp, HU2.out, HB4.out, HK4.out⟩
  ·obtain ⟨hgq, hvr⟩ := hst.2.2.2 (by omega)
   have HGQ := Lib.hid hgq
   have HVR := Lib.hid hvr
   have hcd : decide (cy < 0) = false := decide_eq_false hneg
   clear hgq hvr hst
   go_wp2
   go_step3
   go_wp2
   simp only [Exit.jump]
   go_ret
   exact ⟨out, ds, by rw [← HGQ.out]; rfl, HO1.out, HO2.out, HVR.out, HU.out, HB3.out, HK3.out⟩
 ·rintro a' w' ⟨gs, cy, out, ds, u7, u8, u9, u10, u11, u12, u13, u14, u15, u16, u17, u18, u19, u20, u21, u22, u23, u24, rfl, hO2, hO1, hEQ, hQ, hg1, hg0, hU, hB3, hK3⟩
  have hst := STEP.out out cy gs hO2.out hO1.out hEQ.out hQ.out hg1
  by_cases hneg : cy < 0
  ·have hq1 := hst.2.2.1 hneg
   have HQ1 := Lib.hid hq1
   have hgp : 0 ≤ gs - 1 := by have := HQ0.out; omega
   have e1 : IntKind.i64.wrap (gs - 1) = gs - 1 := IntWalk.i64_in _ (by omega)
   have hr : Rd w' b m ys := HY.out.kept hK3.out (fun hm x hx => by have := HA.out x hx; simpa using this)
   have HR3 := Lib.hid hr
   have hcy3 : -3 ≤ cy := hst.1
   have HHO1 := Lib.hid (show out.length = m + 1 from hO1.out)
   clear hq1 hr hst
   go_wp2_with fail
   refine (addTimes_any g off (m + 1) c ds out _ _ _ ys 1 _ hB3.out (by rw [hU.out.len]; exact HLc.out) hO1.out (fun i hi => hU.out.new i (by rw [hO1.out]; exact hi)) hO2.out (by omega) (by omega) HR3.out HYL.out (by omega) (fun _ => HA.out) (by omega)).mono ?_
   rintro e w4 ⟨out2, ds2, cy2, rfl, p1, p2, p3, p4, p5, p6, _, _⟩
   have heq2 : val out2 + pw (m + 1) * (cy + cy2) = X - (gs - 1) * V := by
    rw [ap_pw, p1] at p3
    have h9 := hEQ.out
    rw [Int.mul_add, Int.sub_mul, Int.one_mul, HVE.out]
    rw [HVE.out] at h9
    omega
   have hst2 := STEP.out out2 (cy + cy2) (gs - 1) p2 p1 heq2 HQ1.out (by omega)
   obtain ⟨cy3, hcy⟩ : ∃ cy3, cy3 = cy + cy2 := ⟨_, rfl⟩
   rw [← hcy] at heq2 hst2
   have e2 : IntKind.i64.wrap (cy + cy2) = cy3 := by rw [hcy]; exact IntWalk.i64_in _ (by omega)
   have P1 := Lib.hid p1
   have P2 := Lib.hid p2
   have HEQ2 := Lib.hid heq2
   have HU2 := Lib.hid (hU.out.again p4 (by rw [p1, hO1.out]))
   have HB4 := Lib.hid p5
   have HK4 : Hid (Kept [g] w w4) := hK3.out.trans p6 (fun x hx _ => hx)
   clear p1 p2 p3 p4 p5 p6 heq2 hst2 hcy
   go_wp2_with fail
   go_step3
   exact ⟨rfl, ⟨gs - 1, cy3, out2, ds2, _, _, _, _, _, _, _, _, _, _, _, _, _, _, _, _, _, _, rfl, P2.out, P1.out, HEQ2.out, HQ1.out, by omega, hgp, HU2.out, HB4.out, HK4.out⟩, by simp [intOf]; omega⟩
  ·obtain ⟨hgq, hvr⟩ := hst.2.2.2 (by omega)
   have HGQ := Lib.hid hgq
   have HVR := Lib.hid hvr
   have hcd : decide (cy < 0) = false := decide_eq_false hneg
   clear hgq hvr hst
   go_wp2
   simp only [Exit.jump]
   go_ret
   exact ⟨out, ds, by rw [← HGQ.out]; rfl, hO1.out, hO2.out, HVR.out, hU.out, hB3.out, hK3.out⟩

end Go.Proofs.YtfafjijoeanbhaaGreat
namespace Go.Proofs.YtfafjijoeanbhaaGreat
open Go.RowKit

/-- A call that answers a code and two slices in memory of its own, apart from each other. -/
def DivR (w : World) (code : Int) (qs rs : List Int) (e : Ending) (w' : World) : Prop :=
 ∃ a c a' c', e = .returned (.agg #[.int .i64 code, .slice a qs.length c, .slice a' rs.length c']) ∧ Sl w' a qs.length c qs ∧ Sl w' a' rs.length c' rs ∧ Fr w.heap.size a qs.length ∧ Fr w.heap.size a' rs.length ∧
  (0 < qs.length → 0 < rs.length → ∀ x y, a = some x → a' = some y → x.block ≠ y.block) ∧ Kept [] w w'

def divCode (xs ys : List Int) : Int := if fault2 xs ys = 0 then (if ys.length = 0 then 6 else 0) else fault2 xs ys
def divQuot (xs ys : List Int) : List Int := if fault2 xs ys = 0 ∧ ys.length ≠ 0 then digits (val xs / val ys) else []
def divRest (xs ys : List Int) : List Int := if fault2 xs ys = 0 ∧ ys.length ≠ 0 then digits (val xs % val ys) else []

theorem cells3 {w : World} {g : Nat} {x y z : Value} (u v t : Value) (h0 : w.cell? ⟨g, 0, none⟩ = some x) (h1 : w.cell? ⟨g, 1, none⟩ = some y) (h2 : w.cell? ⟨g, 2, none⟩ = some z) :
  (((w.setCell ⟨g, 0, none⟩ u).setCell ⟨g, 1, none⟩ v).setCell ⟨g, 2, none⟩ t).cell? ⟨g, 0, none⟩ = some u ∧ (((w.setCell ⟨g, 0, none⟩ u).setCell ⟨g, 1, none⟩ v).setCell ⟨g, 2, none⟩ t).cell? ⟨g, 1, none⟩ = some v ∧ (((w.setCell ⟨g, 0, none⟩ u).setCell ⟨g, 1, none⟩ v).setCell ⟨g, 2, none⟩ t).cell? ⟨g, 2, none⟩ = some t := by
 obtain ⟨_, e2, e3⟩ := cells2 u v h0 h1
 have e4 : ((w.setCell ⟨g, 0, none⟩ u).setCell ⟨g, 1, none⟩ v).cell? ⟨g, 2, none⟩ = some z := by
  rw [World.cell?_setCell_other _ _ _ _ (by simp), World.cell?_setCell_other _ _ _ _ (by simp)]; exact h2
 exact ⟨by rw [World.cell?_setCell_other _ _ _ _ (by simp)]; exact e2, by rw [World.cell?_setCell_other _ _ _ _ (by simp)]; exact e3, World.cell?_setCell_same _ _ _ e4⟩
theorem resCellsD {w w1 : World} {L : List Nat} (hK : Kept L (w.alloc (.cells #[.int .i64 0, .slice none 0 0, .slice none 0 0] 180)) w1) (hL : w.heap.size ∉ L) :
  w1.cell? ⟨w.heap.size, 0, none⟩ = some (.int .i64 0) ∧ w1.cell? ⟨w.heap.size, 1, none⟩ = some (.slice none 0 0) ∧ w1.cell? ⟨w.heap.size, 2, none⟩ = some (.slice none 0 0) ∧ w1.frozen? ⟨w.heap.size, 0, none⟩ = false ∧ w1.frozen? ⟨w.heap.size, 1, none⟩ = false ∧ w1.frozen? ⟨w.heap.size, 2, none⟩ = false ∧ w.heap.size + 1 ≤ w1.heap.size :=
 ⟨hK.cell (p := ⟨w.heap.size, 0, none⟩) (by simp) hL, hK.cell (p := ⟨w.heap.size, 1, none⟩) (by simp) hL, hK.cell (p := ⟨w.heap.size, 2, none⟩) (by simp) hL, hK.free (p := ⟨w.heap.size, 0, none⟩) (by simp) (by simp) hL, hK.free (p := ⟨w.heap.size, 1, none⟩) (by simp) (by simp) hL, hK.free (p := ⟨w.heap.size, 2, none⟩) (by simp) (by simp) hL,
  by have := hK.size; simpa using this⟩
theorem divR_fin {w w1 : World} {a a' : Option Addr} {c c' : Nat} {qs rs : List Int} (code : Int) (hK : Kept [] (w.alloc (.cells #[.int .i64 0, .slice none 0 0, .slice none 0 0] 180)) w1) (hS : Sl w1 a qs.length c qs) (hS' : Sl w1 a' rs.length c' rs) (hF : Fr (w.heap.size + 1) a qs.length) (hF' : Fr (w.heap.size + 1) a' rs.length)
  (hd : 0 < qs.length → 0 < rs.length → ∀ x y, a = some x → a' = some y → x.block ≠ y.block) :
  DivR w code qs rs (.returned (.agg #[.int .i64 code, .slice a qs.length c, .slice a' rs.length c'])) (((w1.setCell ⟨w.heap.size, 0, none⟩ (.int .i64 code)).setCell ⟨w.heap.size, 1, none⟩ (.slice a qs.length c)).setCell ⟨w.heap.size, 2, none⟩ (.slice a' rs.length c')) :=
 ⟨a, c, a', c', rfl, hS.kept ((((Kept.refl [w.heap.size] w1).setCell _ _ (by simp)).setCell _ _ (by simp)).setCell _ _ (by simp)) (fun hn y hy => by have := hF hn y hy; simp; omega),
  hS'.kept ((((Kept.refl [w.heap.size] w1).setCell _ _ (by simp)).setCell _ _ (by simp)).setCell _ _ (by simp)) (fun hn y hy => by have := hF' hn y hy; simp; omega), hF.mono (by omega), hF'.mono (by omega), hd,
  (((((Kept.refl [] w).alloc _).trans0 hK).setCell _ _ (by simp)).setCell _ _ (by simp)).setCell _ _ (by simp)⟩

/-- What stands when the division is done. -/
theorem div_end {w w3 : World} {g1 g2 n : Nat} {R Q xs ys : List Int} (hK : Kept [] (w.alloc (.cells #[.int .i64 0, .slice none 0 0, .slice none 0 0] 180)) w3) (hR : Blk w3 g1 R) (hQ : Blk w3 g2 Q) (hRl : R.length = n + 1) (hQl : Q.length = n) (hn : n ≤ 40)
  (hv : val Q = val xs / val ys ∧ val R = val xs % val ys) (hg1 : w.heap.size + 1 ≤ g1) (hg2 : w.heap.size + 1 ≤ g2) (hne : g1 ≠ g2)
  (hq : digits (val Q) = Q.take (digits (val Q)).length) (hql : (digits (val Q)).length ≤ n) (hr : digits (val R) = R.take (digits (val R)).length) (hrl : (digits (val R)).length ≤ n + 1) :
  DivR w 0 (digits (val xs / val ys)) (digits (val xs % val ys)) (.returned (.agg #[.int .i64 0, .slice (some ⟨g2, 0, none⟩) (digits (val xs / val ys)).length n, .slice (some ⟨g1, 0, none⟩) (digits (val xs % val ys)).length (n + 1)]))
   (((w3.setCell ⟨w.heap.size, 0, none⟩ (.int .i64 0)).setCell ⟨w.heap.size, 1, none⟩ (.slice (some ⟨g2, 0, none⟩) (digits (val xs / val ys)).length n)).setCell ⟨w.heap.size, 2, none⟩ (.slice (some ⟨g1, 0, none⟩) (digits (val xs % val ys)).length (n + 1))) := by
 rw [← hv.1, ← hv.2]
 have s1 := Sl.ofBlk hQ (by omega)
 have s2 := Sl.ofBlk hR (by omega)
 rw [hQl] at s1
 rw [hRl] at s2
 have p1 := s1.front _ hql
 have p2 := s2.front _ hrl
 rw [← hq] at p1
 rw [← hr] at p2
 exact divR_fin 0 hK p1 p2 (fun _ x hx => by cases hx; exact hg2) (fun _ x hx => by cases hx; exact hg1) (fun _ _ x y hx hy => by cases hx; cases hy; exact fun e => hne e.symm)

set_option maxHeartbeats 4000000 in
set_option maxRecDepth 100000 in
theorem DivNats_any (a b : Option Addr) (n c m c' : Nat) (xs ys : List Int) (w : World) (h : Rd w a n xs) (h' : Rd w b m ys) :
  Calls Tryz.prog 202 #[.slice a n c, .slice b m c'] w (DivR w (divCode xs ys) (divQuot xs ys) (divRest xs ys)) := by
 have k0 : Kept [] w (w.alloc (.cells #[.int .i64 0, .slice none 0 0, .slice none 0 0] 180)) := (Kept.refl [] w).alloc _
 have HK0 := Lib.hid k0
 have HR := Lib.hid h
 have HR' := Lib.hid h'
 have HL := Lib.hid h.1
 have HL' := Lib.hid h'.1
 clear h h' k0
 by_cases hz : fault2 xs ys = 0
 ·have hz' := Lib.hid hz
  have hx := Lib.hid (natFault_zero (fault2_zero hz).1)
  have hy := Lib.hid (natFault_zero (fault2_zero hz).2)
  have hn40 : n ≤ 40 := by have := hx.out.len; rw [HL.out] at this; exact this
  have hm40 : m ≤ 40 := by have := hy.out.len; rw [HL'.out] at this; exact this
  have hxl : Hid (AllLimbs xs) := hx.out.limb
  have hyl : Hid (AllLimbs ys) := hy.out.limb
  by_cases hm0 : m = 0
  ·have e1 : divCode xs ys = 6 := by unfold divCode; rw [if_pos hz, if_pos (by rw [HL'.out]; exact hm0)]
   have e2 : divQuot xs ys = [] := by unfold divQuot; rw [if_neg (fun h => h.2 (by rw [HL'.out]; exact hm0))]
   have e3 : divRest xs ys = [] := by unfold divRest; rw [if_neg (fun h => h.2 (by rw [HL'.out]; exact hm0))]
   rw [e1, e2, e3]
   clear e1 e2 e3 hz
   subst hm0
   go_enter Tryz.func202, Tryz.ntmps202
   go_wp2_with fail
   refine (firstNatFault_at _ _ _ _ _ _ _ _ _ _ (by simp) (HR.out.kept0 HK0.out) (HR'.out.kept0 HK0.out)).mono ?_
   rintro e w1 ⟨rfl, hq⟩
   rw [hz'.out]
   obtain ⟨hc0, hc1, hc2, hf0, hf1, hf2, hsz⟩ := resCellsD hq (by simp)
   obtain ⟨ea, eb, ec⟩ := cells3 (.int .i64 6) (.slice none 0 0) (.slice none 0 0) hc0 hc1 hc2
   have HQ := Lib.hid hq
   clear hq
   go_wp2_with fail
   exact bodyPost_ret (v := .agg #[.int .i64 6, .slice none 0 0, .slice none 0 0]) (by simp [results, Tryz.results202, go_sem, ea, eb, ec]) rfl (divR_fin (qs := []) (rs := []) 6 HQ.out (Sl.nil _) (Sl.nil _) (fun h => by simp at h) (fun h => by simp at h) (fun h => by simp at h))
  have e1 : divCode xs ys = 0 := by unfold divCode; rw [if_pos hz, if_neg (by rw [HL'.out]; exact hm0)]
  have e2 : divQuot xs ys = digits (val xs / val ys) := by unfold divQuot; rw [if_pos ⟨hz, by rw [HL'.out]; exact hm0⟩]
  have e3 : divRest xs ys = digits (val xs % val ys) := by unfold divRest; rw [if_pos ⟨hz, by rw [HL'.out]; exact hm0⟩]
  rw [e1, e2, e3]
  have hmz : ((m : Int) == 0) = false := by rw [beq_eq_false_iff_ne]; omega
  have hm1 : 0 < m := by omega
  have htop : Hid (ys.getD (m - 1) 0 ≠ 0) := by have := hy.out.top (by rw [HL'.out]; exact hm1); rw [HL'.out] at this; exact this
  have hV0 : Hid (0 < val ys) := (canon_nonneg hy.out.canon).2 (fun e => by have h9 := HL'.out; rw [e] at h9; simp at h9; omega)
  have hbb := Lib.hid (show ∀ x, b = some x → x.block < w.heap.size from fun x hx => by obtain ⟨g9, off9, he, hc⟩ := HR'.out.2.2 0 hm1; rw [hx] at he; cases he; have := World.block_lt_of_cell? _ _ hc; simpa using this)
  clear e1 e2 e3 hz hm0
  obtain ⟨i0, hi, hz0, hz1, hz2⟩ := info_parts Tryz.info64
  have hmk1 := fun (w : World) => run_make_row (P := Tryz.prog) 22 2 i0 (.int .i64 0) Tryz.underlying22 hi hz0 hz1 rfl .i64 .i64 (n + 1) (by rw [hz2]; omega) (by omega) w
  have hmk2 := fun (w : World) => run_make_row (P := Tryz.prog) 22 2 i0 (.int .i64 0) Tryz.underlying22 hi hz0 hz1 rfl .i64 .i64 n (by rw [hz2]; omega) (by omega) w
  have ec : ((n + 1 : Nat) : Int) = (n : Int) + 1 := by omega
  rw [ec, made_zeros] at hmk1
  rw [made_zeros] at hmk2
  clear ec hi hz0 hz1 hz2
  go_enter Tryz.func202, Tryz.ntmps202
  go_wp2_with fail
  refine (firstNatFault_at _ _ _ _ _ _ _ _ _ _ (by simp) (HR.out.kept0 HK0.out) (HR'.out.kept0 HK0.out)).mono ?_
  rintro e w1 ⟨rfl, hq⟩
  rw [hz'.out]
  have hsz1 : w.heap.size + 1 ≤ w1.heap.size := by have := hq.size; simpa using this
  have HQ := Lib.hid (HK0.out.trans0 hq)
  have HQ1 := Lib.hid hq
  clear hq
  go_wp2_with (with_reducible refine copy1 rfl (.tmp 25) (.tmp 26) rfl w1.heap.size (n + 1) (n + 1) _ _ _ rfl rfl (List.replicate (n + 1) 0) xs ?_ ?_ ?_ ?_ ?_)
  ·exact heap_alloc_new w1 _
  ·exact (HR.out.kept0 HQ.out).kept0 ((Kept.refl [] w1).alloc _)
  ·omega
  ·simp
  intro w2 hb2 hk2
  rw [over_zeros, HL.out] at hb2
  have hl1 : w1.heap.size < w2.heap.size := hb2.lt
  have HB2 := Lib.hid hb2
  have HK2 := Lib.hid ((HQ.out.alloc (.cells (ints (List.replicate (n + 1) 0)) 2)).trans1 hk2 (fun h9 => by have := HQ.out.size; omega))
  have HK21 := Lib.hid ((HQ1.out.alloc (.cells (ints (List.replicate (n + 1) 0)) 2)).trans1 hk2 (fun h9 => by have := HQ1.out.size; omega))
  have hsz2 := HQ.out.size
  clear hb2 hk2
  have hB3 : Blk (w2.alloc (.cells (ints (List.replicate n 0)) 2)) w2.heap.size (List.replicate n 0) := Blk.new w2 _
  have HB3 := Lib.hid hB3
  have HB23 := Lib.hid (HB2.out.alloc (.cells (ints (List.replicate n 0)) 2))
  have HK3 := Lib.hid (HK21.out.alloc (.cells (ints (List.replicate n 0)) 2))
  have HKw3 := Lib.hid (HK2.out.alloc (.cells (ints (List.replicate n 0)) 2))
  clear hB3
  by_cases hnm : m ≤ n
  ·have hst := DivAt.start n hxl.out hyl.out (by rw [HL'.out]; exact hm1) (by rw [HL'.out]; exact htop.out) (by rw [HL.out, HL'.out]; exact hnm)
   rw [HL.out, HL'.out] at hst
   have HST := Lib.hid hst
   clear hst
   have es : IntKind.i64.wrap ((n : Int) - (m : Int)) = (n : Int) - (m : Int) := IntWalk.i64_in _ (by omega)
   go_wp2_with fail
   clear hmk1 hmk2
   go_loopw [8] (fun i wr => ∃ (k : Nat) (R Q : List Int), k + m ≤ n + 1 ∧ i = .int .i64 ((k : Int) - 1) ∧ Hid (DivAt xs ys n k R Q) ∧ Hid (Blk wr w1.heap.size R) ∧ Hid (Blk wr w2.heap.size Q) ∧ Hid (Kept [] w wr) ∧ Hid (Kept [] (w.alloc (.cells #[.int .i64 0, .slice none 0 0, .slice none 0 0] 180)) wr)) (fun i _ => (intOf i + 1).toNat)
   case atStart => exact ⟨n - m + 1, _, _, by omega, by congr 1; omega, HST.out, HB23.out, HB3.out, HKw3.out, HK3.out⟩
   case round =>
    obtain ⟨k, R, Q, hk, rfl, hD, hBR, hBQ, hK, hK1⟩ := hrel
    by_cases hlt : 0 < k
    ·obtain ⟨j, rfl⟩ : ∃ j, k = j + 1 := ⟨k - 1, by omega⟩
     have ej : (((j + 1 : Nat) : Int) - 1) = (j : Int) := by omega
     rw [ej]
     have hRl := hD.out.length (by rw [HL.out, HL'.out]; omega)
     have hQl := hD.out.limbs.2.2
     rw [HL.out] at hRl
     obtain ⟨ss, s1, s2, s3, s4, s5⟩ := hD.out.window (by rw [HL.out, HL'.out]; omega) (by omega) hV0.out
     rw [HL'.out] at s1 s3 s5
     have S1 := Lib.hid s1
     have S2 := Lib.hid s2
     have S3 := Lib.hid s3
     have S4 := Lib.hid s4
     have S5 := Lib.hid s5
     have HRL := Lib.hid hRl
     have HQL := Lib.hid hQl
     have HBR := Lib.hid hBR.out
     have HBQ := Lib.hid hBQ.out
     have HKA := Lib.hid hK.out
     have HKB := Lib.hid hK1.out
     have hj1 : j + m ≤ n := by omega
     have hj2 : j < n := by omega
     clear hRl hQl s1 s2 s3 s4 s5 hD hBR hBQ hK hK1 ej hk hlt
     go_wp2_with fail
     rw [show j + m + 1 - j = m + 1 by omega]
     refine (takeQuotLimb_any w1.heap.size j (n + 1 - j) R ss _ _ _ ys _ HBR.out (by rw [HRL.out]; omega) S1.out S3.out S2.out (by omega) (by omega) hm1 (by omega) (by omega) (HR'.out.kept0 HKA.out) hyl.out htop.out (fun x hx => by have := hbb.out x hx; omega) S4.out).mono ?_
     rintro e w3 ⟨out, ds, rfl, p1, p2, p3, p4, p5, p6⟩
     have hD2 : Hid (DivAt xs ys n j ds (Q.set j (val ss / val ys))) := S5.out out ds hyl.out p2 p1 p3 p4
     have hbq := p6.blk HBQ.out (by simp; omega)
     have hcell := hbq.cell (j := j) (by rw [HQL.out]; exact hj2)
     have hfro := hbq.frozen j
     have HQ2 := Lib.hid (hbq.set j (val ss / val ys))
     have HR2 := Lib.hid (p5.other ⟨w2.heap.size, j, none⟩ (.int .i64 (val ss / val ys)) (by simp; omega))
     have HKA2 := Lib.hid ((HKA.out.trans1 p6 (fun h9 => by omega)).setCell ⟨w2.heap.size, j, none⟩ (.int .i64 (val ss / val ys)) (fun h9 => by simp at h9; omega))
     have HKB2 := Lib.hid ((HKB.out.trans1 p6 (fun h9 => by simp at h9; omega)).setCell ⟨w2.heap.size, j, none⟩ (.int .i64 (val ss / val ys)) (fun h9 => by simp at h9; omega))
     generalize val ss / val ys = qv at *
     clear p1 p2 p3 p4 p5 p6 hbq
     go_wp2
     go_roundw
     case rel => exact ⟨j, ds, _, by omega, rfl, hD2, HR2.out, HQ2.out, HKA2.out, HKB2.out⟩
     case measure => simp [intOf]
    ·obtain rfl : k = 0 := by omega
     have hRl := hD.out.length (by rw [HL.out, HL'.out]; omega)
     obtain ⟨hRa, hQa, hQl⟩ := hD.out.limbs
     rw [HL.out] at hRl
     have hvv := hD.out.done
     have HQa := Lib.hid hQa
     have HRa := Lib.hid hRa
     have HQl := Lib.hid hQl
     have HRl := Lib.hid hRl
     have HVV := Lib.hid hvv
     have sq : Sl wr (some ⟨w2.heap.size, 0, none⟩) n n Q := by have h9 := Sl.ofBlk hBQ.out (by rw [hQl]; omega); rw [hQl] at h9; exact h9
     have sr : Sl wr (some ⟨w1.heap.size, 0, none⟩) (n + 1) (n + 1) R := by have h9 := Sl.ofBlk hBR.out (by rw [hRl]; omega); rw [hRl] at h9; exact h9
     have SQ := Lib.hid sq
     have SR := Lib.hid sr
     have HBR := Lib.hid hBR.out
     have HBQ := Lib.hid hBQ.out
     have HKB := Lib.hid hK1.out
     clear hQa hRa hQl hRl hvv sq sr hD hBR hBQ hK hK1
     go_wp2_with fail
     refine (trimLimbs_any _ _ _ _ _ SQ.out.rd (Nat.le_refl _) (by omega) HQa.out).mono ?_
     rintro e w4 ⟨rfl, t1, t2, rfl⟩
     rw [HVV.out.1] at t1 t2 ⊢
     have T1 := Lib.hid t1
     have T2 := Lib.hid t2
     clear t1 t2
     go_wp2_with fail
     refine (trimLimbs_any _ _ _ _ _ SR.out.rd (Nat.le_refl _) (by omega) HRa.out).mono ?_
     rintro e w4 ⟨rfl, t1, t2, rfl⟩
     rw [HVV.out.2] at t1 t2 ⊢
     have T3 := Lib.hid t1
     have T4 := Lib.hid t2
     clear t1 t2
     obtain ⟨hc0, hc1, hc2, hf0, hf1, hf2, hsz⟩ := resCellsD HKB.out (by simp)
     obtain ⟨ea, eb, ec⟩ := cells3 (.int .i64 0) (.slice (some ⟨w2.heap.size, 0, none⟩) (digits (val xs / val ys)).length n) (.slice (some ⟨w1.heap.size, 0, none⟩) (digits (val xs % val ys)).length (n + 1)) hc0 hc1 hc2
     go_wp2_with fail
     exact bodyPost_ret (v := .agg #[.int .i64 0, .slice (some ⟨w2.heap.size, 0, none⟩) (digits (val xs / val ys)).length n, .slice (some ⟨w1.heap.size, 0, none⟩) (digits (val xs % val ys)).length (n + 1)]) (by simp [results, Tryz.results202, go_sem, ea, eb, ec]) rfl (div_end HKB.out HBR.out HBQ.out HRl.out HQl.out hn40 HVV.out hsz1 (by omega) (by omega) (by rw [HVV.out.1]; exact T1.out) (by rw [HVV.out.1]; exact T2.out) (by rw [HVV.out.2]; exact T3.out) (by rw [HVV.out.2]; exact T4.out))
  ·have hlt : val xs < val ys := val_lt_len hx.out hy.out (by rw [HL.out, HL'.out]; omega)
   have hx0 : 0 ≤ val xs := val_nonneg hx.out
   have hvv : val (List.replicate n (0 : Int)) = val xs / val ys ∧ val (xs ++ List.replicate (n + 1 - n) 0) = val xs % val ys := by
    rw [val_zeros, val_pad, Int.ediv_eq_zero_of_lt hx0 hlt, Int.emod_eq_of_lt hx0 hlt]; exact ⟨rfl, rfl⟩
   have es : IntKind.i64.wrap ((n : Int) - (m : Int)) = (n : Int) - (m : Int) := IntWalk.i64_in _ (by omega)
   have eneg : ¬ (0 : Int) ≤ (n : Int) - (m : Int) := by omega
   have HVV := Lib.hid hvv
   clear hlt hx0 hvv
   go_wp2_with fail
   clear hmk1 hmk2
   go_loopw [8] (fun i wr => i = .int .i64 ((n : Int) - (m : Int)) ∧ Hid (Blk wr w1.heap.size (xs ++ List.replicate (n + 1 - n) 0)) ∧ Hid (Blk wr w2.heap.size (List.replicate n 0)) ∧ Hid (Kept [] (w.alloc (.cells #[.int .i64 0, .slice none 0 0, .slice none 0 0] 180)) wr)) (fun _ _ => 0)
   case atStart => exact ⟨rfl, HB23.out, HB3.out, HK3.out⟩
   case round =>
    obtain ⟨rfl, hBR, hBQ, hK1⟩ := hrel
    obtain ⟨Q, hQe⟩ : ∃ Q, Q = List.replicate n (0 : Int) := ⟨_, rfl⟩
    obtain ⟨R, hRe⟩ : ∃ R, R = xs ++ List.replicate (n + 1 - n) (0 : Int) := ⟨_, rfl⟩
    rw [← hQe] at hBQ HVV
    rw [← hRe] at hBR HVV
    have hvv := HVV.out
    have hQl : Q.length = n := by rw [hQe]; simp
    have hRl : R.length = n + 1 := by rw [hRe]; simp [HL.out]
    have hQa : AllLimbs Q := by rw [hQe]; exact AllLimbs.zeros _
    have hRa : AllLimbs R := by rw [hRe]; exact hxl.out.append (AllLimbs.zeros _)
    clear hQe hRe HVV
    have HQa := Lib.hid hQa
    have HRa := Lib.hid hRa
    have HQl := Lib.hid hQl
    have HRl := Lib.hid hRl
    have HVV := Lib.hid hvv
    have sq : Sl wr (some ⟨w2.heap.size, 0, none⟩) n n Q := by have h9 := Sl.ofBlk hBQ.out (by rw [hQl]; omega); rw [hQl] at h9; exact h9
    have sr : Sl wr (some ⟨w1.heap.size, 0, none⟩) (n + 1) (n + 1) R := by have h9 := Sl.ofBlk hBR.out (by rw [hRl]; omega); rw [hRl] at h9; exact h9
    have SQ := Lib.hid sq
    have SR := Lib.hid sr
    have HBR := Lib.hid hBR.out
    have HBQ := Lib.hid hBQ.out
    have HKB := Lib.hid hK1.out
    clear hQa hRa hQl hRl hvv sq sr hBR hBQ hK1
    go_wp2_with fail
    refine (trimLimbs_any _ _ _ _ _ SQ.out.rd (Nat.le_refl _) (by omega) HQa.out).mono ?_
    rintro e w4 ⟨rfl, t1, t2, rfl⟩
    rw [HVV.out.1] at t1 t2 ⊢
    have T1 := Lib.hid t1
    have T2 := Lib.hid t2
    clear t1 t2
    go_wp2_with fail
    refine (trimLimbs_any _ _ _ _ _ SR.out.rd (Nat.le_refl _) (by omega) HRa.out).mono ?_
    rintro e w4 ⟨rfl, t1, t2, rfl⟩
    rw [HVV.out.2] at t1 t2 ⊢
    have T3 := Lib.hid t1
    have T4 := Lib.hid t2
    clear t1 t2
    obtain ⟨hc0, hc1, hc2, hf0, hf1, hf2, hsz⟩ := resCellsD HKB.out (by simp)
    obtain ⟨ea, eb, ec⟩ := cells3 (.int .i64 0) (.slice (some ⟨w2.heap.size, 0, none⟩) (digits (val xs / val ys)).length n) (.slice (some ⟨w1.heap.size, 0, none⟩) (digits (val xs % val ys)).length (n + 1)) hc0 hc1 hc2
    go_wp2_with fail
    exact bodyPost_ret (v := .agg #[.int .i64 0, .slice (some ⟨w2.heap.size, 0, none⟩) (digits (val xs / val ys)).length n, .slice (some ⟨w1.heap.size, 0, none⟩) (digits (val xs % val ys)).length (n + 1)]) (by simp [results, Tryz.results202, go_sem, ea, eb, ec]) rfl (div_end HKB.out HBR.out HBQ.out HRl.out HQl.out hn40 HVV.out hsz1 (by omega) (by omega) (by rw [HVV.out.1]; exact T1.out) (by rw [HVV.out.1]; exact T2.out) (by rw [HVV.out.2]; exact T3.out) (by rw [HVV.out.2]; exact T4.out))
 ·have e1 : divCode xs ys = fault2 xs ys := if_neg hz
  have e2 : divQuot xs ys = [] := if_neg (fun h => hz h.1)
  have e3 : divRest xs ys = [] := if_neg (fun h => hz h.1)
  rw [e1, e2, e3]
  clear e1 e2 e3
  go_enter Tryz.func202, Tryz.ntmps202
  go_wp2_with fail
  refine (firstNatFault_at _ _ _ _ _ _ _ _ _ _ (by simp) (HR.out.kept0 HK0.out) (HR'.out.kept0 HK0.out)).mono ?_
  rintro e w1 ⟨rfl, hq⟩
  generalize hf : fault2 xs ys = f at *
  have hne : (f == 0) = false := by rw [beq_eq_false_iff_ne]; exact hz
  obtain ⟨hc0, hc1, hc2, hf0, hf1, hf2, hsz⟩ := resCellsD hq (by simp)
  obtain ⟨ea, eb, ec⟩ := cells3 (.int .i64 f) (.slice none 0 0) (.slice none 0 0) hc0 hc1 hc2
  have HQ := Lib.hid hq
  have HF := Lib.hid hf
  clear hf hz hq
  go_wp2_with fail
  exact bodyPost_ret (v := .agg #[.int .i64 f, .slice none 0 0, .slice none 0 0]) (by simp [results, Tryz.results202, go_sem, ea, eb, ec]) rfl (divR_fin (qs := []) (rs := []) f HQ.out (Sl.nil _) (Sl.nil _) (fun h => by simp at h) (fun h => by simp at h) (fun h => by simp at h))

end Go.Proofs.YtfafjijoeanbhaaGreat
