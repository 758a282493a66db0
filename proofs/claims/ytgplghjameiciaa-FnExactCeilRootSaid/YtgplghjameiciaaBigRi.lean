/-
  Contract of CeilRoot. Condition: the limbs lie in a block of numbers.
-/
import Derived.Test.YtgplghjameiciaaBigRd
namespace Go.Proofs.Ytgplghjameiciaa
open Go.RowKit

theorem rootB_ways (p : Bool) (xs : List Int) : (∃ f, f ≠ 0 ∧ ∀ g, rootB g p xs = noBig f) ∨ (p = false ∧ Nat40 xs ∧ ∀ g, rootB g p xs = ⟨0, false, digits (g (val xs))⟩) := by
  by_cases hz : bigFault p xs = 0
  · cases p
    · exact .inr ⟨rfl, (bigFault_zero hz).n40, fun g => by unfold rootB; rw [if_pos hz, if_neg Bool.false_ne_true]⟩
    · exact .inl ⟨3, by decide, fun g => by unfold rootB; rw [if_pos hz, if_pos rfl]⟩
  · exact .inl ⟨_, hz, fun g => by unfold rootB; rw [if_neg hz]⟩

theorem BigOf_one (w : World) : Calls Try.prog 95 #[.int .i64 1] w (fun e w' => ∃ a c, e = .returned (.agg #[.bool false, .slice a 1 c]) ∧ Sl w' a 1 c [1] ∧ Kept [] w w') := by
  refine (BigOf_any 1 w (by omega) (by omega)).mono ?_
  have hm : mag 1 = [1] := by rw [mag_no (by omega), digits_pos (by omega), digits_zero (by omega)]; rfl
  rintro e w' ⟨a, c, rfl, hs, _, hk⟩
  rw [hm] at hs ⊢
  exact ⟨a, c, by rw [isNeg_no (by omega)]; rfl, hs, hk⟩
theorem addB_one {X : Int} (h0 : 0 ≤ X) (hn : Nat40 (digits X)) (hl : (digits (X + 1)).length ≤ 40) : addB false (digits X) false [1] = ⟨0, false, digits (X + 1)⟩ := by
  have h1n : Nat40 [1] := ⟨by simp, fun i hi => by have : i = 0 := (by simpa using hi); subst this; simp, fun _ => by simp⟩
  have h1 : bigFault false [1] = 0 := bigFault_ok (nat40_fault h1n) (fun h => by cases h)
  have h2 : bigFault false (digits X) = 0 := bigFault_ok (nat40_fault hn) (fun h => by cases h)
  have h3 : sv false (digits X) + sv false [1] = X + 1 := by
    show val (digits X) + val [1] = X + 1
    rw [val_digits' h0]; rfl
  unfold addB
  rw [twoB_zero (by unfold bigFault2; rw [if_pos h2]; exact h1), h3]
  unfold fitB
  rw [mag_no (by omega), if_neg (by omega), isNeg_no (by omega)]
theorem bigR_alloc {w w1 : World} {r : BV} {e : Ending} {o : Obj} (h : BigR w r e w1) : BigR w r e (w1.alloc o) := by
  obtain ⟨a, c, rfl, hs, hf, hk⟩ := h
  exact ⟨a, c, rfl, hs.kept0 ((Kept.refl [] _).alloc _), hf, hk.alloc _⟩

set_option maxHeartbeats 2000000 in
theorem CeilRoot_any (p : Bool) (a : Option Addr) (n c : Nat) (xs : List Int) (w : World) (h : Sl w a n c xs) :
    Calls Try.prog 57 #[.agg #[.bool p, .slice a n c]] w (BigR w (rootB csq p xs)) := by
  have HS := Lib.hid h
  clear h
  have k0 : Kept [] w ((w.alloc (.cells #[.bool p, .slice a n c] 40)).alloc (.cells #[.int .i64 0, .bool false, .slice none 0 0] 42)) := ((Kept.refl [] w).alloc _).alloc _
  have K0 := Lib.hid k0
  clear k0
  rcases rootB_ways p xs with ⟨f, hf, hr⟩ | ⟨rfl, hx, hr⟩
  · rw [hr csq]
    have HR := Lib.hid (hr isq)
    obtain ⟨r, hrr⟩ : ∃ r, r = noBig f := ⟨_, rfl⟩
    rw [← hrr] at HR ⊢
    have hne : (r.code != 0) = true := by rw [hrr]; simpa [noBig] using hf
    clear hf hr hrr
    go_enter Try.func57, Try.ntmps57
    go_wp2_with fail
    refine (FloorRoot_any _ _ _ _ _ _ (HS.out.kept0 K0.out)).mono ?_
    rintro e w1 ⟨a1, c1, rfl, hs1, hf1, hk⟩
    rw [HR.out] at hs1 hf1 ⊢
    obtain ⟨rc0, rf0, hsz⟩ := hk.top (g := w.heap.size + 1) (by simp) (by simp) 0 (v := .int .i64 0) rfl
    obtain ⟨rc1, rf1, hsz⟩ := hk.top (g := w.heap.size + 1) (by simp) (by simp) 1 (v := .bool false) rfl
    obtain ⟨rc2, rf2, hsz⟩ := hk.top (g := w.heap.size + 1) (by simp) (by simp) 2 (v := .slice none 0 0) rfl
    have HK := Lib.hid (K0.out.trans0 hk)
    have HS1 := Lib.hid hs1
    have HF1 := Lib.hid hf1
    clear hk hs1 hf1
    obtain ⟨ea, eb, ec⟩ := cells3' (.int .i64 r.code) (.bool r.neg) (.slice a1 r.limbs.length c1) rc0 rc1 rc2
    have ea' := alloc_cell (o := .cells #[.int .i64 r.code, .bool r.neg, .slice a1 r.limbs.length c1] 42) ea
    have eb' := alloc_cell (o := .cells #[.int .i64 r.code, .bool r.neg, .slice a1 r.limbs.length c1] 42) eb
    have ec' := alloc_cell (o := .cells #[.int .i64 r.code, .bool r.neg, .slice a1 r.limbs.length c1] 42) ec
    go_wp2_with fail
    exact bodyPost_ret (v := .agg #[.int .i64 r.code, .bool r.neg, .slice a1 r.limbs.length c1]) (by simp [results, Try.results57, go_sem, ea', eb', ec']) rfl (bigR_alloc (bigR_fin2 (r := r) HS1.out (HF1.out.mono (by simp)) HK.out))
  · have HX := Lib.hid hx
    have HR := Lib.hid (hr isq)
    rw [hr csq]
    clear hx hr
    go_enter Try.func57, Try.ntmps57
    go_wp2_with fail
    refine (FloorRoot_any _ _ _ _ _ _ (HS.out.kept0 K0.out)).mono ?_
    rintro e w1 ⟨a1, c1, rfl, hs1, hf1, hk⟩
    rw [HR.out] at hs1 hf1 ⊢
    obtain ⟨rc0, rf0, hsz⟩ := hk.top (g := w.heap.size + 1) (by simp) (by simp) 0 (v := .int .i64 0) rfl
    obtain ⟨rc1, rf1, hsz⟩ := hk.top (g := w.heap.size + 1) (by simp) (by simp) 1 (v := .bool false) rfl
    obtain ⟨rc2, rf2, hsz⟩ := hk.top (g := w.heap.size + 1) (by simp) (by simp) 2 (v := .slice none 0 0) rfl
    have ac0 := (hk.peel.top (g := w.heap.size) (by simp) (by simp) 0 (v := .bool false) rfl).1
    have ac1 := (hk.peel.top (g := w.heap.size) (by simp) (by simp) 1 (v := .slice a n c) rfl).1
    have HK := Lib.hid (K0.out.trans0 hk)
    have HS1 := Lib.hid hs1
    have HF1 := Lib.hid hf1
    clear hk hs1 hf1
    obtain ⟨X, hX⟩ : ∃ X, X = isq (val xs) := ⟨_, rfl⟩
    rw [← hX] at HS1 HF1 ⊢
    have HXX := Lib.hid hX
    clear hX
    simp only at HS1 HF1 ⊢
    have hX0 : 0 ≤ X := by rw [HXX.out]; exact (isq_le (canon_nonneg HX.out.canon).1).1
    have hXl : (digits X).length ≤ 40 := by rw [HXX.out]; exact isq_len HX.out
    have hsl : X * X ≤ val xs := by rw [HXX.out]; exact (isq_root (canon_nonneg HX.out.canon).1).low
    have hXX : 0 ≤ X * X := Int.mul_nonneg hX0 hX0
    have hql : (digits (X * X)).length ≤ 40 := by
      have := digits_len_mono hsl
      rw [digits_val HX.out.canon] at this
      have := HX.out.len
      omega
    have hnx : Nat40 (digits X) := nat40_of_canon (canon_digits' _) hXl
    have hz2 : fault2 (digits X) (digits X) = 0 := by rw [fault2_second (nat40_fault hnx)]; exact nat40_fault hnx
    have HZ2 := Lib.hid hz2
    have hfc : fitCode (X * X) = 0 := by unfold fitCode; rw [if_neg (by omega)]
    have hfl : fitList (X * X) = digits (X * X) := by unfold fitList; rw [if_neg (by omega)]
    have HFC := Lib.hid hfc
    have HFL := Lib.hid hfl
    have hzq : fault2 (digits (X * X)) xs = 0 := by rw [fault2_second (nat40_fault (nat40_of_canon (canon_digits' _) hql))]; exact nat40_fault HX.out
    have HZQ := Lib.hid hzq
    have HNX := Lib.hid hnx
    clear hz2 hfc hfl hzq hnx
    go_wp2_with fail
    have KA := Lib.hid ((Kept.refl [] w1).alloc (.cells #[.int .i64 0, .bool false, .slice a1 (digits X).length c1] 42))
    refine (MulNats_any _ _ _ _ _ _ _ _ _ (HS1.out.kept0 KA.out).rd (HS1.out.kept0 KA.out).rd).mono ?_
    rw [if_pos HZ2.out, if_pos HZ2.out, val_digits' hX0, HFC.out, HFL.out]
    rintro e w2 ⟨a2, c2, rfl, hs2, hf2, hk2⟩
    have hb := Kept.refl [] (w1.alloc (.cells #[.int .i64 0, .bool false, .slice a1 (digits X).length c1] 42))
    have bc0 := hk2.cell (hb.top (g := w1.heap.size) (by simp) (by simp) 0 (v := .int .i64 0) rfl).1 (by simp)
    have bc1 := hk2.cell (hb.top (g := w1.heap.size) (by simp) (by simp) 1 (v := .bool false) rfl).1 (by simp)
    have bc2 := hk2.cell (hb.top (g := w1.heap.size) (by simp) (by simp) 2 (v := .slice a1 (digits X).length c1) rfl).1 (by simp)
    have hk12 := KA.out.trans0 hk2
    have rf0 := hk12.free' rc0 rf0 (by simp)
    have rf1 := hk12.free' rc1 rf1 (by simp)
    have rf2 := hk12.free' rc2 rf2 (by simp)
    have rc0 := hk12.cell rc0 (by simp)
    have rc1 := hk12.cell rc1 (by simp)
    have rc2 := hk12.cell rc2 (by simp)
    have ac0 := hk12.cell ac0 (by simp)
    have ac1 := hk12.cell ac1 (by simp)
    have HK2 := Lib.hid (HK.out.trans0 hk12)
    have HSX := Lib.hid (HS1.out.kept0 hk12)
    have HS2 := Lib.hid hs2
    have z12 := hk12.size
    have z2 := hk2.size
    simp only [World.size_alloc] at z2
    clear hs2 hf2 hk2 hk12 hb KA HS1
    have ac1' := alloc_cell (o := .cells #[.int .i64 0, .slice a2 (digits (X * X)).length c2] 24) ac1
    go_wp2_with fail
    clear ac1'
    have KB := Lib.hid ((Kept.refl [] w2).alloc (.cells #[.int .i64 0, .slice a2 (digits (X * X)).length c2] 24))
    refine (CompareNats_any _ _ _ _ _ _ _ _ _ (HS2.out.kept0 KB.out).rd (HS.out.kept0 (HK2.out.trans0 KB.out)).rd).mono ?_
    rw [if_pos HZQ.out, val_digits' hXX]
    rintro e w3 ⟨rfl, hk3⟩
    have hk13 := KB.out.trans0 hk3
    have rf0 := hk13.free' rc0 rf0 (by simp)
    have rf1 := hk13.free' rc1 rf1 (by simp)
    have rf2 := hk13.free' rc2 rf2 (by simp)
    have rc0 := hk13.cell rc0 (by simp)
    have rc1 := hk13.cell rc1 (by simp)
    have rc2 := hk13.cell rc2 (by simp)
    have bc0 := hk13.cell bc0 (by simp)
    have bc1 := hk13.cell bc1 (by simp)
    have bc2 := hk13.cell bc2 (by simp)
    have HK3 := Lib.hid (HK2.out.trans0 hk13)
    have HSX := Lib.hid (HSX.out.kept0 hk13)
    have z3 := hk13.size
    clear hk3 hk13 KB HS2
    by_cases hlt : X * X < val xs
    · have hc : cmpV (X * X) (val xs) = -1 := cmpV_lt hlt
      have hcs : csq (val xs) = X + 1 := by unfold csq; rw [← HXX.out, if_pos hlt]
      rw [hc]
      have HCS := Lib.hid hcs
      clear hc hcs
      go_wp2_with fail
      have hv1 : (digits (X + 1)).length ≤ 40 := by
        rw [← HCS.out]
        have := digits_len_mono (csq_le (canon_nonneg HX.out.canon).1).2
        rw [digits_val HX.out.canon] at this
        have := HX.out.len
        omega
      have HA := Lib.hid (addB_one hX0 HNX.out hv1)
      clear hv1
      go_region_held3 (fun w' => w'.cell? ⟨w1.heap.size, 0, none⟩ = some (.int .i64 0) ∧ w'.cell? ⟨w1.heap.size, 1, none⟩ = some (.bool false) ∧ w'.cell? ⟨w1.heap.size, 2, none⟩ = some (.slice a1 (digits X).length c1) ∧ Hid (Kept [w.heap.size + 1] w3 w'))
        ((go_split_ands; (try refine ⟨?_, ?_, ?_, ?_⟩) <;> with_reducible first | exact Lib.hid ((Kept.refl _ _).drew) | exact drew_cell (by assumption) | exact Kept.set3 (by assumption) | exact cell_set3 (by assumption) (by simp <;> omega) | exact Lib.hid (Kept.trans0 (Hid.out (by assumption)) (by assumption)) | exact Kept.cell (by assumption) (by assumption) (by simp)))
        (first
          | (go_at_call 95; go_split_ands; refine (BigOf_one _).mono ?_; rintro e w5 ⟨a5, x5, rfl, hs5, hk5⟩)
          | (go_at_call 38; go_split_ands; refine (AddBigs_any _ _ _ _ _ _ _ _ _ _ _ ((HSX.out.kept0 (Kept.refl [] _).drew).kept0 hk5) hs5).mono ?_; rw [HA.out]; rintro e w6 ⟨a6, x6, rfl, hs6, hf6, hk6⟩; have hk7 := ((Kept.refl [] w3).drew.trans0 hk5).trans0 hk6; have g0 := hk7.cell (p := ⟨w.heap.size + 1, 0, none⟩) rc0 (by simp); have g1 := hk7.cell (p := ⟨w.heap.size + 1, 1, none⟩) rc1 (by simp); have g2 := hk7.cell (p := ⟨w.heap.size + 1, 2, none⟩) rc2 (by simp); have e0 := hk7.free' (p := ⟨w.heap.size + 1, 0, none⟩) rc0 rf0 (by simp); have e1 := hk7.free' (p := ⟨w.heap.size + 1, 1, none⟩) rc1 rf1 (by simp); have e2 := hk7.free' (p := ⟨w.heap.size + 1, 2, none⟩) rc2 rf2 (by simp)))
      have HK6 := Lib.hid (HK3.out.trans0 hk7)
      have HS6 := Lib.hid hs6
      have hz5 := hk5.size
      simp only [World.size_drew] at hz5
      have HF6 := Lib.hid (hf6.mono (B' := w.heap.size + 1 + 1) (by omega))
      obtain ⟨ea, eb, ec⟩ := cells3' (.int .i64 0) (.bool false) (.slice a6 (digits (X + 1)).length x6) g0 g1 g2
      clear hs5 hk5 hs6 hf6 hk6 hk7
      go_wp2_with fail
      exact bodyPost_ret (v := .agg #[.int .i64 0, .bool false, .slice a6 (digits (X + 1)).length x6]) (by simp [results, Try.results57, go_sem, ea, eb, ec]) rfl (by rw [HCS.out]; exact bigR_fin2 (r := ⟨0, false, digits (X + 1)⟩) HS6.out HF6.out HK6.out)
    · have hc : cmpV (X * X) (val xs) = 0 := cmpV_eq (by omega)
      have hcs : csq (val xs) = X := by unfold csq; rw [← HXX.out, if_neg hlt]
      rw [hc]
      have HCS := Lib.hid hcs
      clear hc hcs
      obtain ⟨ea, eb, ec⟩ := cells3' (.int .i64 0) (.bool false) (.slice a1 (digits X).length c1) rc0 rc1 rc2
      go_wp2_with fail
      exact bodyPost_ret (v := .agg #[.int .i64 0, .bool false, .slice a1 (digits X).length c1]) (by simp [results, Try.results57, go_sem, ea, eb, ec]) rfl (by rw [HCS.out]; exact bigR_fin2 (r := ⟨0, false, digits X⟩) HSX.out (HF1.out.mono (by simp)) HK3.out)

end Go.Proofs.Ytgplghjameiciaa
