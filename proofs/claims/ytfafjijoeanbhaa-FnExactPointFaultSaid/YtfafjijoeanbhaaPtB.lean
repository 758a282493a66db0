/-
  Contracts over two points: the same place, the first fault, IsSamePlace, the program's and the model's. No condition.
-/
import Derived.Test.YtfafjijoeanbhaaPtA
namespace Go.Proofs.Ytfafjijoeanbhaa
open Go.RowKit

def poleP (y : Int) : Bool := (y == -90000000000) || (y == 90000000000)
def seamP (x : Int) : Bool := (x == -180000000000) || (x == 180000000000)
/-- That two points without a fault are the same place. -/
def samePt (x y x' y' : Int) : Bool := (y == y') && (poleP y || (x == x') || (seamP x && seamP x'))

set_option maxHeartbeats 2000000 in
theorem isPole_at (x y : Int) (w : World) : Calls Try.prog 31 #[.agg #[.int .i64 x, .int .i64 y]] w (fun e w' => e = .returned (.bool (poleP y)) ∧ w' = w.alloc (.cells #[.int .i64 x, .int .i64 y] 25)) := by
  have hv : Hid (poleP y = ((y == -90000000000) || (y == 90000000000))) := rfl
  obtain ⟨b1, h1⟩ : ∃ b, (y == -90000000000) = b := ⟨_, rfl⟩
  obtain ⟨b2, h2⟩ : ∃ b, (y == 90000000000) = b := ⟨_, rfl⟩
  rw [hv.out, h1, h2]
  clear hv
  cases b1 <;> cases b2 <;>
    (go_enter Try.func31, Try.ntmps31
     go_wp2
     go_ret
     exact ⟨rfl, rfl⟩)

set_option maxHeartbeats 2000000 in
theorem isSeam_at (x y : Int) (w : World) : Calls Try.prog 32 #[.agg #[.int .i64 x, .int .i64 y]] w (fun e w' => e = .returned (.bool (seamP x)) ∧ w' = w.alloc (.cells #[.int .i64 x, .int .i64 y] 25)) := by
  have hv : Hid (seamP x = ((x == -180000000000) || (x == 180000000000))) := rfl
  obtain ⟨b1, h1⟩ : ∃ b, (x == -180000000000) = b := ⟨_, rfl⟩
  obtain ⟨b2, h2⟩ : ∃ b, (x == 180000000000) = b := ⟨_, rfl⟩
  rw [hv.out, h1, h2]
  clear hv
  cases b1 <;> cases b2 <;>
    (go_enter Try.func32, Try.ntmps32
     go_wp2
     go_ret
     exact ⟨rfl, rfl⟩)

set_option maxHeartbeats 8000000 in
theorem isAt_any (x y x' y' : Int) (w : World) : Calls Try.prog 20 #[.agg #[.int .i64 x, .int .i64 y], .agg #[.int .i64 x', .int .i64 y']] w (Ans w (.bool (samePt x y x' y'))) := by
  obtain ⟨b1, h1⟩ : ∃ b, (y == y') = b := ⟨_, rfl⟩
  obtain ⟨b2, h2⟩ : ∃ b, poleP y = b := ⟨_, rfl⟩
  obtain ⟨b3, h3⟩ : ∃ b, (x == x') = b := ⟨_, rfl⟩
  obtain ⟨b4, h4⟩ : ∃ b, seamP x = b := ⟨_, rfl⟩
  obtain ⟨b5, h5⟩ : ∃ b, seamP x' = b := ⟨_, rfl⟩
  rw [show samePt x y x' y' = (b1 && (b2 || b3 || (b4 && b5))) by unfold samePt; rw [h1, h2, h3, h4, h5]]
  have H2 := Lib.hid h2
  have H4 := Lib.hid h4
  have H5 := Lib.hid h5
  clear h2 h4 h5
  cases b1
  · go_enter Try.func20, Try.ntmps20
    go_wp2
    go_ret
    exact ⟨rfl, ((Kept.refl _ _).alloc _).alloc _⟩
  · cases b2 <;> cases b3 <;> cases b4 <;> cases b5 <;>
    (go_enter Try.func20, Try.ntmps20
     go_wp2_with (first
       | (go_at_call 31; refine (isPole_at _ _ _).mono ?_; rintro e w1 ⟨rfl, rfl⟩; rw [H2.out])
       | (go_at_call 32; refine (isSeam_at _ _ _).mono ?_; rintro e w1 ⟨rfl, rfl⟩; first | rw [H4.out] | rw [H5.out]))
     go_ret
     exact ⟨rfl, by repeat (first | exact Kept.refl _ _ | refine Kept.alloc ?_ _)⟩)

set_option maxHeartbeats 8000000 in
theorem l5Same_any (x y x' y' : Int) (w : World) (hr : -180000000000 ≤ x' ∧ x' ≤ 180000000000) : Calls Try.prog 18 #[.agg #[.int .i64 x, .int .i64 y], .agg #[.int .i64 x', .int .i64 y']] w (Ans w (.bool (samePt x y x' y'))) := by
  have hw : IntKind.i64.wrap (-x') = -x' := IntWalk.i64_in _ (by omega)
  clear hr
  obtain ⟨b1, h1⟩ : ∃ b, (y == y') = b := ⟨_, rfl⟩
  cases b1
  · have hv : Hid (samePt x y x' y' = false) := by unfold samePt; rw [h1]; rfl
    go_enter Try.func18, Try.ntmps18
    go_wp2
    go_ret
    exact ⟨by rw [hv.out]; rfl, ((Kept.refl _ _).alloc _).alloc _⟩
  · obtain ⟨b3, h3⟩ : ∃ b, (x == x') = b := ⟨_, rfl⟩
    obtain ⟨c1, k1⟩ : ∃ b, (y == 90000000000) = b := ⟨_, rfl⟩
    obtain ⟨c2, k2⟩ : ∃ b, (y == -90000000000) = b := ⟨_, rfl⟩
    obtain ⟨c3, k3⟩ : ∃ b, (x == -x') = b := ⟨_, rfl⟩
    obtain ⟨c4, k4⟩ : ∃ b, (x == 180000000000) = b := ⟨_, rfl⟩
    obtain ⟨c5, k5⟩ : ∃ b, (x' == 180000000000) = b := ⟨_, rfl⟩
    have hv0 : samePt x y x' y' = ((c1 || c2) || b3 || (c3 && (c4 || c5))) := by
      unfold samePt poleP seamP
      rw [h1, h3, k1, k2, Bool.true_and, Bool.or_comm c2 c1]
      cases b3
      · congr 1
        rw [← k3, ← k4, ← k5, Bool.eq_iff_iff]
        simp only [Bool.and_eq_true, Bool.or_eq_true, beq_iff_eq]
        have : x ≠ x' := by simpa using h3
        omega
      · simp
    rw [hv0]
    clear hv0
    cases c1
    · cases c2
      · cases b3
        · cases c3
          · (go_enter Try.func18, Try.ntmps18; go_wp2; go_ret; exact ⟨rfl, ((Kept.refl _ _).alloc _).alloc _⟩)
          · cases c4
            · cases c5
              · (go_enter Try.func18, Try.ntmps18; go_wp2; go_ret; exact ⟨rfl, ((Kept.refl _ _).alloc _).alloc _⟩)
              · (go_enter Try.func18, Try.ntmps18; go_wp2; go_ret; exact ⟨rfl, ((Kept.refl _ _).alloc _).alloc _⟩)
            · (go_enter Try.func18, Try.ntmps18; go_wp2; go_ret; exact ⟨rfl, ((Kept.refl _ _).alloc _).alloc _⟩)
        · (go_enter Try.func18, Try.ntmps18; go_wp2; go_ret; exact ⟨rfl, ((Kept.refl _ _).alloc _).alloc _⟩)
      · (go_enter Try.func18, Try.ntmps18; go_wp2; go_ret; exact ⟨rfl, ((Kept.refl _ _).alloc _).alloc _⟩)
    · (go_enter Try.func18, Try.ntmps18; go_wp2; go_ret; exact ⟨rfl, ((Kept.refl _ _).alloc _).alloc _⟩)

/-- The first fault of two points. -/
def ptFault2 (x y x' y' : Int) : Int := if ptFault x y = 0 then ptFault x' y' else ptFault x y
theorem ptFault2_first {x y x' y' : Int} (h : ptFault x y ≠ 0) : ptFault2 x y x' y' = ptFault x y := if_neg h
theorem ptFault2_second {x y x' y' : Int} (h : ptFault x y = 0) : ptFault2 x y x' y' = ptFault x' y' := if_pos h
theorem ptFault_range {x y : Int} (h : ptFault x y = 0) : InPt x y := by
  unfold ptFault at h
  by_cases hi : InPt x y
  · exact hi
  · rw [if_neg hi] at h; omega

set_option maxHeartbeats 1000000 in
theorem firstPointFault_two (g : Nat) (x y x' y' : Int) (w : World) (hg : g = w.heap.size) :
    Calls Try.prog 19 #[.func (.func 8) #[] #[], .slice (some ⟨g, 0, none⟩) 2 2] (w.alloc (.cells #[.int .i64 x, .int .i64 y, .int .i64 x', .int .i64 y'] 25)) (Ans w (.int .i64 (ptFault2 x y x' y'))) := by
  subst hg
  have k0 : Kept [] w (w.alloc (.cells #[.int .i64 x, .int .i64 y, .int .i64 x', .int .i64 y'] 25)) := (Kept.refl [] w).alloc _
  have HK0 := Lib.hid k0
  clear k0
  go_enter Try.func19, Try.ntmps19
  go_wp2
  go_loopw [10] (fun i wr => Hid (Kept [] (w.alloc (.cells #[.int .i64 x, .int .i64 y, .int .i64 x', .int .i64 y'] 25)) wr) ∧ ((i = .int .i64 0) ∨ (i = .int .i64 1 ∧ Hid (ptFault x y = 0)) ∨ (i = .int .i64 2 ∧ Hid (ptFault x y = 0) ∧ Hid (ptFault x' y' = 0)))) (fun i _ => 2 - (intOf i).toNat)
  case atStart => exact ⟨Kept.refl [] _, Or.inl rfl⟩
  case round =>
    obtain ⟨hK, hrel⟩ := hrel
    obtain ⟨c0, _, _⟩ := hK.out.top (g := w.heap.size) (by simp) (by simp) 0 rfl
    obtain ⟨c1, _, _⟩ := hK.out.top (g := w.heap.size) (by simp) (by simp) 1 rfl
    obtain ⟨c2, _, _⟩ := hK.out.top (g := w.heap.size) (by simp) (by simp) 2 rfl
    obtain ⟨c3, _, _⟩ := hK.out.top (g := w.heap.size) (by simp) (by simp) 3 rfl
    rcases hrel with rfl | ⟨rfl, hx⟩ | ⟨rfl, hx, hy⟩
    · have hk1 : Kept [] wr (wr.alloc (.cells #[.int .i64 x, .int .i64 y] 25)) := (Kept.refl [] wr).alloc _
      have HK1 := Lib.hid hk1
      clear hk1
      by_cases hz : ptFault x y = 0
      · have hz' := Lib.hid hz
        clear hz
        go_wp2_with (refine (PointFault_any _ _ _).mono ?_; rintro e w1 ⟨rfl, hq⟩; rw [hz'.out])
        have hK2 := Lib.hid ((hK.out.trans0 HK1.out).trans0 hq)
        clear hK hq
        go_roundw
        case rel => exact ⟨hK2, Or.inr (Or.inl ⟨rfl, hz'⟩)⟩
        case measure => simp [intOf]
      · have hv : Hid (ptFault2 x y x' y' = ptFault x y) := ptFault2_first hz
        generalize hf : ptFault x y = f at *
        have hne : (f == 0) = false := by rw [beq_eq_false_iff_ne]; exact hz
        have HF := Lib.hid hf
        clear hf hz
        go_wp2_with (refine (PointFault_any _ _ _).mono ?_; rintro e w1 ⟨rfl, hq⟩; rw [HF.out])
        have hK2 := Lib.hid ((HK0.out.trans0 hK.out).trans0 (HK1.out.trans0 hq))
        clear hK hq
        go_ret
        exact ⟨by rw [hv.out]; rfl, hK2.out⟩
    · have hk1 : Kept [] wr (wr.alloc (.cells #[.int .i64 x', .int .i64 y'] 25)) := (Kept.refl [] wr).alloc _
      have HK1 := Lib.hid hk1
      clear hk1
      by_cases hz : ptFault x' y' = 0
      · have hz' := Lib.hid hz
        clear hz
        go_wp2_with (refine (PointFault_any _ _ _).mono ?_; rintro e w1 ⟨rfl, hq⟩; rw [hz'.out])
        have hK2 := Lib.hid ((hK.out.trans0 HK1.out).trans0 hq)
        clear hK hq
        go_roundw
        case rel => exact ⟨hK2, Or.inr (Or.inr ⟨rfl, hx, hz'⟩)⟩
        case measure => simp [intOf]
      · have hv : Hid (ptFault2 x y x' y' = ptFault x' y') := ptFault2_second hx.out
        generalize hf : ptFault x' y' = f at *
        have hne : (f == 0) = false := by rw [beq_eq_false_iff_ne]; exact hz
        have HF := Lib.hid hf
        clear hf hz
        go_wp2_with (refine (PointFault_any _ _ _).mono ?_; rintro e w1 ⟨rfl, hq⟩; rw [HF.out])
        have hK2 := Lib.hid ((HK0.out.trans0 hK.out).trans0 (HK1.out.trans0 hq))
        clear hK hq
        go_ret
        exact ⟨by rw [hv.out]; rfl, hK2.out⟩
    · have hv : Hid (ptFault2 x y x' y' = 0) := (ptFault2_second hx.out).trans hy.out
      go_wp2
      go_ret
      exact ⟨by rw [hv.out]; rfl, HK0.out.trans0 hK.out⟩

def sameP (x y x' y' : Int) : Bool := (ptFault2 x y x' y' == 0) && samePt x y x' y'

set_option maxHeartbeats 4000000 in
theorem IsSamePlace_any (x y x' y' : Int) (w : World) : Calls Try.prog 10 #[.agg #[.int .i64 x, .int .i64 y], .agg #[.int .i64 x', .int .i64 y']] w (Ans w (.bool (sameP x y x' y'))) := by
  obtain ⟨f, hf⟩ : ∃ f, ptFault2 x y x' y' = f := ⟨_, rfl⟩
  obtain ⟨s, hs⟩ : ∃ s, samePt x y x' y' = s := ⟨_, rfl⟩
  obtain ⟨b, hb⟩ : ∃ b, (f == 0) = b := ⟨_, rfl⟩
  rw [show sameP x y x' y' = (b && s) by unfold sameP; rw [hf, hs, hb]]
  have HF := Lib.hid hf
  have HS := Lib.hid hs
  clear hf hs
  cases b
  · go_enter Try.func10, Try.ntmps10
    go_wp2_with (refine (firstPointFault_two _ _ _ _ _ _ (by simp)).mono ?_; rintro e w1 ⟨rfl, hq⟩; rw [HF.out])
    go_ret
    exact ⟨rfl, (((Kept.refl _ _).alloc _).alloc _).trans0 hq⟩
  · go_enter Try.func10, Try.ntmps10
    go_wp2_with (first
      | (refine (firstPointFault_two _ _ _ _ _ _ (by simp)).mono ?_; rintro e w1 ⟨rfl, hq⟩; rw [HF.out]
         have c0 := (hq.peel.top (g := w.heap.size) (by simp) (by simp) 0 (v := .int .i64 x) rfl).1
         have c1 := (hq.peel.top (g := w.heap.size) (by simp) (by simp) 1 (v := .int .i64 y) rfl).1
         have d0 := (hq.top (g := w.heap.size + 1) (by simp) (by simp) 0 (v := .int .i64 x') rfl).1
         have d1 := (hq.top (g := w.heap.size + 1) (by simp) (by simp) 1 (v := .int .i64 y') rfl).1)
      | (refine (isAt_any _ _ _ _ _).mono ?_; rintro e w2 ⟨rfl, hq2⟩; rw [HS.out]))
    go_ret
    exact ⟨by cases s <;> rfl, ((((Kept.refl _ _).alloc _).alloc _).trans0 hq).trans0 hq2⟩

set_option maxHeartbeats 4000000 in
set_option maxRecDepth 20000 in
theorem sIsSamePlace_any (x y x' y' : Int) (w : World) : Calls Try.prog 9 #[.agg #[.int .i64 x, .int .i64 y], .agg #[.int .i64 x', .int .i64 y']] w (Ans w (.bool (sameP x y x' y'))) := by
  by_cases h1 : ptFault x y = 0
  · by_cases h2 : ptFault x' y' = 0
    · obtain ⟨s, hs⟩ : ∃ s, samePt x y x' y' = s := ⟨_, rfl⟩
      rw [show sameP x y x' y' = s by unfold sameP; rw [ptFault2_second h1, h2, hs]; rfl]
      have H1 := Lib.hid h1
      have H2 := Lib.hid h2
      have HS := Lib.hid hs
      clear h1 h2 hs
      go_enter Try.func9, Try.ntmps9
      go_wp2_with fail
      refine (sPointFault_any _ _ _).mono ?_
      rintro e w1 ⟨rfl, hq⟩
      rw [H1.out]
      have c0 := (hq.peel.top (g := w.heap.size) (by simp) (by simp) 0 (v := .int .i64 x) rfl).1
      have c1 := (hq.peel.top (g := w.heap.size) (by simp) (by simp) 1 (v := .int .i64 y) rfl).1
      have d0 := (hq.top (g := w.heap.size + 1) (by simp) (by simp) 0 (v := .int .i64 x') rfl).1
      have d1 := (hq.top (g := w.heap.size + 1) (by simp) (by simp) 1 (v := .int .i64 y') rfl).1
      go_wp2_with fail
      refine (sPointFault_any _ _ _).mono ?_
      rintro e w2 ⟨rfl, hq2⟩
      rw [H2.out]
      replace c0 := hq2.cell c0 (by simp)
      replace c1 := hq2.cell c1 (by simp)
      replace d0 := hq2.cell d0 (by simp)
      replace d1 := hq2.cell d1 (by simp)
      go_wp2_with fail
      refine (l5Same_any _ _ _ _ _ (ptFault_range H2.out).1).mono ?_
      rintro e w3 ⟨rfl, hq3⟩
      rw [HS.out]
      go_wp2_with fail
      go_ret
      exact ⟨by cases s <;> rfl, (((((Kept.refl _ _).alloc _).alloc _).trans0 hq).trans0 hq2).trans0 hq3⟩
    · obtain ⟨f, hf⟩ : ∃ f, ptFault x' y' = f := ⟨_, rfl⟩
      rw [hf] at h2
      have hb : (f == 0) = false := by simpa using h2
      rw [show sameP x y x' y' = false by unfold sameP; rw [ptFault2_second h1, hf, hb]; rfl]
      have H1 := Lib.hid h1
      have H2 := Lib.hid hf
      clear h1 h2 hf
      go_enter Try.func9, Try.ntmps9
      go_wp2_with fail
      refine (sPointFault_any _ _ _).mono ?_
      rintro e w1 ⟨rfl, hq⟩
      rw [H1.out]
      have c0 := (hq.peel.top (g := w.heap.size) (by simp) (by simp) 0 (v := .int .i64 x) rfl).1
      have c1 := (hq.peel.top (g := w.heap.size) (by simp) (by simp) 1 (v := .int .i64 y) rfl).1
      have d0 := (hq.top (g := w.heap.size + 1) (by simp) (by simp) 0 (v := .int .i64 x') rfl).1
      have d1 := (hq.top (g := w.heap.size + 1) (by simp) (by simp) 1 (v := .int .i64 y') rfl).1
      go_wp2_with fail
      refine (sPointFault_any _ _ _).mono ?_
      rintro e w2 ⟨rfl, hq2⟩
      rw [H2.out]
      go_wp2_with fail
      go_ret
      exact ⟨rfl, ((((Kept.refl _ _).alloc _).alloc _).trans0 hq).trans0 hq2⟩
  · obtain ⟨f, hf⟩ : ∃ f, ptFault x y = f := ⟨_, rfl⟩
    have hne : ptFault2 x y x' y' = f := (ptFault2_first h1).trans hf
    rw [hf] at h1
    have hb : (f == 0) = false := by simpa using h1
    rw [show sameP x y x' y' = false by unfold sameP; rw [hne, hb]; rfl]
    have H1 := Lib.hid hf
    clear h1 hf hne
    go_enter Try.func9, Try.ntmps9
    go_wp2_with fail
    refine (sPointFault_any _ _ _).mono ?_
    rintro e w1 ⟨rfl, hq⟩
    rw [H1.out]
    go_wp2_with fail
    go_ret
    exact ⟨rfl, (((Kept.refl _ _).alloc _).alloc _).trans0 hq⟩

end Go.Proofs.Ytfafjijoeanbhaa
