/-
  Contract of the model's StoreFault. Condition: the slice reads as named shapes.
-/
import Derived.Test.YtbljpeefekhoeabStoA
namespace Go.Proofs.Ytbljpeefekhoeab
open Go.RowKit

set_option maxHeartbeats 2000000 in
theorem sStoreFault_any (a : Option Addr) (n c : Nat) (L : List Sh) (w : World) (h : RdSt w a n L) :
    Calls Try.prog 19 #[.agg #[.slice a n c]] w (Ans w (.int .i64 (storeC L))) := by
  have hmax := h.2.1
  have HR := Lib.hid h
  have HN := Lib.hid h.1
  clear h
  by_cases hbig : 10 < n
  · have hv := Lib.hid (storeC_many (L := L) (by rw [HN.out]; exact hbig))
    have hbig' : (10 : Int) < n := by omega
    go_enter Try.func19, Try.ntmps19
    go_wp2_with fail
    go_ret
    exact ⟨by rw [hv.out]; rfl, (Kept.refl _ _).alloc _⟩
  have hbig' : ¬ (10 : Int) < n := by omega
  have hnb : Hid (¬ 10 < L.length) := by show ¬ _; rw [HN.out]; exact hbig
  have hbox := Lib.hid ((Kept.refl [] w).alloc (.cells #[.slice a n c] 26))
  obtain ⟨w1, hw1⟩ : ∃ w1, w.alloc (.cells #[.slice a n c] 26) = w1 := ⟨_, rfl⟩
  have B0 : Hid (w1.cell? ⟨w.heap.size, 0, none⟩ = some (.slice a n c)) := by
    rw [← hw1]
    exact ((Kept.refl [] _).top rfl (by simp) 0 (v := .slice a n c) rfl).1
  rw [hw1] at hbox
  have hR2 := Lib.hid (HR.out.kept0 hbox.out)
  have HW1 := Lib.hid hw1
  clear hbig hw1
  go_enter Try.func19, Try.ntmps19
  go_wp2_with fail
  rw [HW1.out]
  go_loopw [3] (fun i wr => ∃ k : Nat, k ≤ n ∧ i = .int .i64 k ∧ Hid (OkTo L k) ∧ Hid (Kept [] w1 wr)) (fun i _ => n - (intOf i).toNat)
  case atStart => exact ⟨0, Nat.zero_le _, rfl, fun i hi => by omega, Kept.refl _ _⟩
  case round =>
    obtain ⟨k, hk, rfl, hO, hK⟩ := hrel
    have b1 := hK.out.cell B0.out (by simp)
    by_cases hlt : k < n
    · obtain ⟨g, off, p, c', rfl, hc0, hc1, hc2, hrd, hl⟩ := hR2.out.2.2 k hlt
      have d0 := hK.out.cell hc0 (by simp)
      have D1 := Lib.hid (And.intro hc1 hc2)
      have HRd := Lib.hid (hrd.kept0 hK.out)
      clear hc0 hc1 hc2 hrd
      obtain ⟨s, hs⟩ : ∃ s, L.getD k sh0 = s := ⟨_, rfl⟩
      rw [hs] at d0 D1 HRd hl
      have HS := Lib.hid hs
      obtain ⟨nm, q, m, xs⟩ := s
      simp only at d0 D1 HRd hl
      have HZ := Lib.hid (show (strB nm).size ≤ 9223372036854775807 by rw [strB_size]; exact hl)
      clear hs hl
      obtain ⟨b, hb⟩ : ∃ b, isNm nm = b := ⟨_, rfl⟩
      have HB := Lib.hid (show isNm (strB nm).data.toList = b from hb)
      generalize strB nm = S at *
      cases b
      · have hv : Hid (firstS L = 5) := by
          have := firstS_at (L := L) (k := k) hO.out (by rw [HN.out]; exact hlt) (by rw [HS.out, namedC_no hb]; omega)
          rw [HS.out, namedC_no hb] at this; exact this
        have hv2 := Lib.hid (storeC_first hnb.out (by rw [hv.out]; omega))
        clear hb
        go_wp2_with fail
        refine (sIsName_any _ _ HZ.out).mono ?_
        rintro e w2 ⟨rfl, h2⟩
        rw [HB.out]
        have hK2 := Lib.hid (hK.out.trans0 h2)
        clear hK h2
        go_wp2_with fail
        go_ret
        exact ⟨by rw [hv2.out, hv.out]; rfl, hbox.out.trans0 hK2.out⟩
      · have hnc := namedC_yes (s := ⟨nm, q, m, xs⟩) hb
        clear hb
        obtain ⟨f, hf⟩ : ∃ f, shapeC q xs m = f := ⟨_, rfl⟩
        have HF := Lib.hid hf
        have HNC := Lib.hid (show namedC ⟨nm, q, m, xs⟩ = f by rw [hnc]; exact hf)
        clear hf hnc
        go_wp2_with fail
        refine (sIsName_any _ _ HZ.out).mono ?_
        rintro e w2 ⟨rfl, h2⟩
        rw [HB.out]
        have hK2 := Lib.hid (hK.out.trans0 h2)
        have d1 := hK2.out.cell D1.out.1 (by simp)
        have d2 := hK2.out.cell D1.out.2 (by simp)
        have b2 := hK2.out.cell B0.out (by simp)
        have HRd2 := Lib.hid (HRd.out.kept0 h2)
        clear hK h2
        by_cases hz : f = 0
        · subst hz
          have hO2 := Lib.hid (hO.out.more (by rw [HS.out]; exact HNC.out))
          go_wp2_with fail
          refine (sShapeFault_any _ _ _ _ _ _ HRd2.out).mono ?_
          rintro e w3 ⟨rfl, h3⟩
          rw [HF.out]
          have hK3 := Lib.hid (hK2.out.trans0 h3)
          clear hK2 h3
          go_wp2_with fail
          go_roundw
          case rel => exact ⟨k + 1, by omega, by go_num, hO2, hK3⟩
          case measure => simp [intOf]; omega
        · have hv : Hid (firstS L = f) := by
            have := firstS_at (L := L) (k := k) hO.out (by rw [HN.out]; exact hlt) (by rw [HS.out, HNC.out]; exact hz)
            rw [HS.out, HNC.out] at this; exact this
          have hv2 := Lib.hid (storeC_first hnb.out (by rw [hv.out]; exact hz))
          have hne : (f == 0) = false := by rw [beq_eq_false_iff_ne]; exact hz
          clear hz
          go_wp2_with fail
          refine (sShapeFault_any _ _ _ _ _ _ HRd2.out).mono ?_
          rintro e w3 ⟨rfl, h3⟩
          rw [HF.out]
          have hK3 := Lib.hid (hK2.out.trans0 h3)
          clear hK2 h3
          go_wp2_with fail
          go_ret
          exact ⟨by rw [hv2.out, hv.out]; rfl, hbox.out.trans0 hK3.out⟩
    · obtain rfl : k = n := by omega
      have hf' : Hid (firstS L = 0) := firstS_all (by rw [HN.out]; exact hO.out)
      have hKa := Lib.hid hK.out
      clear hK hO hlt
      go_wp2_with fail
      go_loopw [5] (fun i wq => ∃ j : Nat, (j ≤ k ∨ j = 1) ∧ i = .int .i64 j ∧ Hid (RiseTo L j) ∧ 1 ≤ j ∧ Hid (Kept [] w1 wq)) (fun i _ => k + 1 - (intOf i).toNat)
      case atStart => exact ⟨1, .inr rfl, rfl, RiseTo.start L, Nat.le_refl _, hKa⟩
      case round =>
        obtain ⟨j, hj, rfl, hO, hj1, hK⟩ := hrel
        have b1 := hK.out.cell B0.out (by simp)
        by_cases hlt : j < k
        · obtain ⟨g, off, p, c', rfl, hc0, _, _, _, _⟩ := hR2.out.2.2 (j - 1) (by omega)
          obtain ⟨g', off', p', c'', he, hd0, _, _, _, _⟩ := hR2.out.2.2 j hlt
          simp at he
          obtain ⟨rfl, rfl⟩ := he
          have d0 := hK.out.cell hc0 (by simp)
          have d1 := hK.out.cell hd0 (by simp)
          clear hc0 hd0
          obtain ⟨x, hx⟩ : ∃ x, (L.getD (j - 1) sh0).nm = x := ⟨_, rfl⟩
          obtain ⟨y, hy⟩ : ∃ y, (L.getD j sh0).nm = y := ⟨_, rfl⟩
          rw [hx] at d0
          rw [hy] at d1
          have HX := Lib.hid (And.intro hx hy)
          have hlt0 : (j : Int) < k := by omega
          have e1 : IntKind.i64.wrap ((j : Int) - 1) = (j : Int) - 1 := IntWalk.i64_in _ (by omega)
          have hlt1 : j - 1 < k := by omega
          have hlt2 : (j : Int) - 1 < k := by omega
          have hnn : (1 : Int) ≤ j := by omega
          have h0n : 0 < j := by omega
          have HY := Lib.hid (show L.getD j sh0 = L.getD (j - 1 + 1) sh0 by rw [show j - 1 + 1 = j by omega])
          clear hx hy
          by_cases hxy : x < y
          · have hls : (Op.bytesLess (strB y).toList (strB x).toList || (strB y).toList == (strB x).toList) = false := by
              rw [less_str, same_str, Bool.or_eq_false_iff]
              exact ⟨decide_eq_false (fun h => List.lt_irrefl _ (List.lt_trans hxy h)), decide_eq_false (fun h => by subst h; exact List.lt_irrefl _ hxy)⟩
            have hO2 : Hid (RiseTo L (j + 1)) := by
              have h1 := hO.out
              rw [show j = j - 1 + 1 by omega] at h1
              have h2 := h1.more (by rw [← HY.out, HX.out.1, HX.out.2]; exact hxy)
              rw [show j - 1 + 1 = j by omega] at h2
              exact h2
            clear hxy hO
            go_wp2_with fail
            go_quiet (fail)
            have hK2 := Lib.hid (hK.out.drewN nq)
            clear hK
            go_wp2_with fail
            go_roundw
            case rel => exact ⟨j + 1, by omega, by go_num, hO2, by omega, hK2⟩
            case measure => simp [intOf]; omega
          · have hls : (Op.bytesLess (strB y).toList (strB x).toList || (strB y).toList == (strB x).toList) = true := by
              rw [less_str, same_str, Bool.or_eq_true, decide_eq_true_eq, decide_eq_true_eq]
              rcases List.le_iff_lt_or_eq.1 (List.not_lt.1 hxy) with h | h
              · exact .inl h
              · exact .inr h
            have hv : Hid (storeC L = 1) := storeC_form (k := j - 1) hnb.out hf'.out (by rw [HN.out]; omega) (by rw [← HY.out, HX.out.1, HX.out.2]; exact hxy)
            clear hxy
            go_wp2_with fail
            go_quiet (fail)
            have hK2 := Lib.hid (hK.out.drewN nq)
            clear hK
            go_wp2_with fail
            go_ret
            exact ⟨by rw [hv.out]; rfl, hbox.out.trans0 hK2.out⟩
        · have hv : Hid (storeC L = 0) := storeC_yes hnb.out hf'.out (by
            rw [HN.out]
            rcases hj with h | h
            · rw [show k = j by omega]; exact hO.out
            · intro i hi; omega)
          go_wp2_with fail
          go_ret
          exact ⟨by rw [hv.out]; rfl, hbox.out.trans0 hK.out⟩

end Go.Proofs.Ytbljpeefekhoeab
