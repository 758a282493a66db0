/-
  Contracts of namedFault, of firstFault over named shapes and of StoreFault, the program's. Condition: the slice reads as named shapes.
-/
import Derived.Test.YtbljpeefekhoeabNmA
import Derived.Test.YtbljpeefekhoeabShpB
namespace Go.Proofs.Ytbljpeefekhoeab
open Go.RowKit

theorem boxN {w w1 : World} {s : ByteArray} {k : Int} {a : Option Addr} {n c : Nat} {T : TypeId} (hk : Kept [] (w.alloc (.cells #[.string s, .int .i64 k, .slice a n c] T)) w1) :
    w1.cell? ⟨w.heap.size, 0, none⟩ = some (.string s) ∧ w1.cell? ⟨w.heap.size, 1, none⟩ = some (.int .i64 k) ∧ w1.cell? ⟨w.heap.size, 2, none⟩ = some (.slice a n c) :=
  ⟨(hk.top rfl (by simp) 0 (v := .string s) rfl).1, (hk.top rfl (by simp) 1 (v := .int .i64 k) rfl).1, (hk.top rfl (by simp) 2 (v := .slice a n c) rfl).1⟩

set_option maxHeartbeats 1000000 in
theorem namedFault_any (s : Sh) (a : Option Addr) (c : Nat) (w : World) (h : Rd w a (s.n * 2) s.xs) (hs : s.nm.length ≤ 9223372036854775807) :
    Calls Try.prog 29 #[.agg #[.string (strB s.nm), .int .i64 s.k, .slice a s.n c]] w (Ans w (.int .i64 (namedC s))) := by
  obtain ⟨nm, k, n, xs⟩ := s
  simp only at h hs ⊢
  have HR := Lib.hid h
  have HS := Lib.hid (show (strB nm).size ≤ 9223372036854775807 by rw [strB_size]; exact hs)
  clear h hs
  obtain ⟨b, hb⟩ : ∃ b, isNm nm = b := ⟨_, rfl⟩
  cases b
  · have hv := Lib.hid (namedC_no (s := ⟨nm, k, n, xs⟩) hb)
    have HB := Lib.hid (show isNm (strB nm).data.toList = false from hb)
    generalize strB nm = S at *
    clear hb
    go_enter Try.func29, Try.ntmps29
    go_wp2_with fail
    refine (IsName_any _ _ HS.out).mono ?_
    rintro e w1 ⟨rfl, h1⟩
    rw [HB.out]
    go_wp2_with fail
    go_ret
    exact ⟨by rw [hv.out]; rfl, h1.peel⟩
  · have hv := Lib.hid (namedC_yes (s := ⟨nm, k, n, xs⟩) hb)
    have HB := Lib.hid (show isNm (strB nm).data.toList = true from hb)
    generalize strB nm = S at *
    clear hb
    go_enter Try.func29, Try.ntmps29
    go_wp2_with fail
    refine (IsName_any _ _ HS.out).mono ?_
    rintro e w1 ⟨rfl, h1⟩
    rw [HB.out]
    have K1 := Lib.hid h1
    obtain ⟨c0, c1, c2⟩ := boxN h1
    clear h1
    go_wp2_with fail
    refine (ShapeFault_any _ _ _ _ _ _ (HR.out.kept0 K1.out.peel)).mono ?_
    rintro e w2 ⟨rfl, h2⟩
    have K2 := Lib.hid (K1.out.trans0 h2)
    clear h2
    go_wp2_with fail
    go_ret
    exact ⟨by rw [hv.out]; rfl, K2.out.peel⟩

set_option maxHeartbeats 1000000 in
theorem firstNamed_any (a : Option Addr) (n c : Nat) (L : List Sh) (w : World) (h : RdSt w a n L) :
    Calls Try.prog 44 #[.func (.func 29) #[] #[], .slice a n c] w (Ans w (.int .i64 (firstS L))) := by
  have hmax := h.2.1
  have HR := Lib.hid h
  have HN := Lib.hid h.1
  clear h
  go_enter Try.func44, Try.ntmps44
  go_wp2
  go_loopw [10] (fun i wr => ∃ k : Nat, k ≤ n ∧ i = .int .i64 k ∧ Hid (OkTo L k) ∧ Hid (Kept [] w wr)) (fun i _ => n - (intOf i).toNat)
  case atStart => exact ⟨0, Nat.zero_le _, rfl, fun i hi => by omega, Kept.refl [] w⟩
  case round =>
    obtain ⟨k, hk, rfl, hO, hK⟩ := hrel
    by_cases hlt : k < n
    · obtain ⟨g, off, p, c', rfl, hc0, hc1, hc2, hrd, hl⟩ := HR.out.2.2 k hlt
      have d0 := hK.out.cell hc0 (by simp)
      have d1 := hK.out.cell hc1 (by simp)
      have d2 := hK.out.cell hc2 (by simp)
      have HRd := Lib.hid (hrd.kept0 hK.out)
      have HL := Lib.hid hl
      clear hc0 hc1 hc2 hrd hl
      obtain ⟨s, hs⟩ : ∃ s, L.getD k sh0 = s := ⟨_, rfl⟩
      rw [hs] at d0 d1 d2 HRd HL
      have HS := Lib.hid hs
      clear hs
      have HK1 := Lib.hid (hK.out.trans0 ((Kept.refl [] wr).alloc (.cells #[.string (strB s.nm), .int .i64 s.k, .slice p s.n c'] 49)))
      have HRd2 := Lib.hid (HRd.out.kept0 ((Kept.refl [] wr).alloc (.cells #[.string (strB s.nm), .int .i64 s.k, .slice p s.n c'] 49)))
      by_cases hz : namedC s = 0
      · have hz' := Lib.hid hz
        have hO2 := Lib.hid (hO.out.more (show namedC (L.getD k sh0) = 0 by rw [HS.out]; exact hz))
        clear hz
        go_wp2_with fail
        refine (namedFault_any s _ _ _ HRd2.out HL.out).mono ?_
        rintro e w1 ⟨rfl, hq⟩
        rw [hz'.out]
        have hK2 := Lib.hid (HK1.out.trans0 hq)
        clear hK hq
        go_wp2_with fail
        go_roundw
        case rel => exact ⟨k + 1, by omega, by go_num, hO2, hK2⟩
        case measure => simp [intOf]; omega
      · have hv : Hid (firstS L = namedC s) := by
          have := firstS_at (L := L) (k := k) hO.out (by rw [HN.out]; exact hlt) (by rw [HS.out]; exact hz)
          rw [HS.out] at this; exact this
        generalize hf : namedC s = f at *
        have hne : (f == 0) = false := by rw [beq_eq_false_iff_ne]; exact hz
        have HF := Lib.hid hf
        clear hf hz
        go_wp2_with fail
        refine (namedFault_any s _ _ _ HRd2.out HL.out).mono ?_
        rintro e w1 ⟨rfl, hq⟩
        rw [HF.out]
        have hK2 := Lib.hid (HK1.out.trans0 hq)
        clear hK hq
        go_wp2_with fail
        go_ret
        exact ⟨by rw [hv.out]; rfl, hK2.out⟩
    · obtain rfl : k = n := by omega
      have hv : Hid (firstS L = 0) := firstS_all (by rw [HN.out]; exact hO.out)
      go_wp2_with fail
      go_ret
      exact ⟨by rw [hv.out]; rfl, hK.out⟩

set_option maxHeartbeats 1000000 in
theorem StoreFault_any (a : Option Addr) (n c : Nat) (L : List Sh) (w : World) (h : RdSt w a n L) :
    Calls Try.prog 18 #[.agg #[.slice a n c]] w (Ans w (.int .i64 (storeC L))) := by
  have hmax := h.2.1
  have HR := Lib.hid h
  have HN := Lib.hid h.1
  clear h
  by_cases hbig : 10 < n
  · have hv := Lib.hid (storeC_many (L := L) (by rw [HN.out]; exact hbig))
    have hbig' : (10 : Int) < n := by omega
    go_enter Try.func18, Try.ntmps18
    go_wp2_with fail
    go_ret
    exact ⟨by rw [hv.out]; rfl, (Kept.refl _ _).alloc _⟩
  have hbig' : ¬ (10 : Int) < n := by omega
  have hnb : Hid (¬ 10 < L.length) := by show ¬ _; rw [HN.out]; exact hbig
  have hbox := Lib.hid ((Kept.refl [] w).alloc (.cells #[.slice a n c] 26))
  have hR2 : Hid (RdSt (w.alloc (.cells #[.slice a n c] 26)) a n L) := HR.out.kept0 hbox.out
  by_cases hf : firstS L = 0
  · have hf' := Lib.hid hf
    clear hf hbig
    go_enter Try.func18, Try.ntmps18
    go_wp2_with fail
    refine (firstNamed_any _ _ _ _ _ hR2.out).mono ?_
    rintro e w1 ⟨rfl, h1⟩
    rw [hf'.out]
    have K1 := Lib.hid (hbox.out.trans0 h1)
    have b0 := (h1.top rfl (by simp) 0 (v := .slice a n c) rfl).1
    have B0 := Lib.hid b0
    clear h1 hbox hR2
    go_wp2_with fail
    go_loopw [4] (fun i wr => ∃ k : Nat, (k ≤ n ∨ k = 1) ∧ i = .int .i64 k ∧ Hid (RiseTo L k) ∧ 1 ≤ k ∧ Hid (Kept [] w1 wr)) (fun i _ => n + 1 - (intOf i).toNat)
    case atStart => exact ⟨1, .inr rfl, rfl, RiseTo.start L, Nat.le_refl _, Kept.refl _ _⟩
    case round =>
      obtain ⟨k, hk, rfl, hO, hk1, hK⟩ := hrel
      have b1 := hK.out.cell B0.out (by simp)
      by_cases hlt : k < n
      · obtain ⟨g, off, p, c', rfl, hc0, _, _, _, _⟩ := HR.out.2.2 (k - 1) (by omega)
        obtain ⟨g', off', p', c'', he, hd0, _, _, _, _⟩ := HR.out.2.2 k hlt
        simp at he
        obtain ⟨rfl, rfl⟩ := he
        have d0 := (hK.out.trans0 (Kept.refl [] wr)).cell (K1.out.cell hc0 (by simp)) (by simp)
        have d1 := hK.out.cell (K1.out.cell hd0 (by simp)) (by simp)
        clear hc0 hd0
        obtain ⟨x, hx⟩ : ∃ x, (L.getD (k - 1) sh0).nm = x := ⟨_, rfl⟩
        obtain ⟨y, hy⟩ : ∃ y, (L.getD k sh0).nm = y := ⟨_, rfl⟩
        rw [hx] at d0
        rw [hy] at d1
        have HX := Lib.hid (And.intro hx hy)
        have hlt0 : (k : Int) < n := by omega
        have e1 : IntKind.i64.wrap ((k : Int) - 1) = (k : Int) - 1 := IntWalk.i64_in _ (by omega)
        have hlt1 : k - 1 < n := by omega
        have hlt2 : (k : Int) - 1 < n := by omega
        have hnn : (1 : Int) ≤ k := by omega
        have h0n : 0 < k := by omega
        have HY := Lib.hid (show L.getD k sh0 = L.getD (k - 1 + 1) sh0 by rw [show k - 1 + 1 = k by omega])
        clear hx hy
        by_cases hxy : x < y
        · have hls : Op.bytesLess (strB x).toList (strB y).toList = true := by rw [less_str]; exact decide_eq_true hxy
          have hO2 : Hid (RiseTo L (k + 1)) := by
            have h1 := hO.out
            rw [show k = k - 1 + 1 by omega] at h1
            have h2 := h1.more (by rw [← HY.out, HX.out.1, HX.out.2]; exact hxy)
            rw [show k - 1 + 1 = k by omega] at h2
            exact h2
          clear hxy hO
          go_wp2_with fail
          go_quiet (fail)
          have hK2 := Lib.hid (hK.out.drewN nq)
          clear hK
          go_wp2_with fail
          go_roundw
          case rel => exact ⟨k + 1, by omega, by go_num, hO2, by omega, hK2⟩
          case measure => simp [intOf]; omega
        · have hls : Op.bytesLess (strB x).toList (strB y).toList = false := by rw [less_str]; exact decide_eq_false hxy
          have hv : Hid (storeC L = 1) := storeC_form (k := k - 1) hnb.out hf'.out (by rw [HN.out]; omega) (by rw [← HY.out, HX.out.1, HX.out.2]; exact hxy)
          clear hxy
          go_wp2_with fail
          go_quiet (fail)
          have hK2 := Lib.hid (hK.out.drewN nq)
          clear hK
          go_wp2_with fail
          go_ret
          exact ⟨by rw [hv.out]; rfl, K1.out.trans0 hK2.out⟩
      · have hv : Hid (storeC L = 0) := storeC_yes hnb.out hf'.out (by
          rw [HN.out]
          rcases hk with h | h
          · rw [show n = k by omega]; exact hO.out
          · intro i hi; omega)
        go_wp2_with fail
        go_ret
        exact ⟨by rw [hv.out]; rfl, K1.out.trans0 hK.out⟩
  · have hv := Lib.hid (storeC_first hnb.out hf)
    generalize hg : firstS L = f at *
    have hne : (f == 0) = false := by rw [beq_eq_false_iff_ne]; exact hf
    have HF := Lib.hid hg
    clear hg hf hbig
    go_enter Try.func18, Try.ntmps18
    go_wp2_with fail
    refine (firstNamed_any _ _ _ _ _ hR2.out).mono ?_
    rintro e w1 ⟨rfl, h1⟩
    rw [HF.out]
    go_wp2_with fail
    go_ret
    exact ⟨by rw [hv.out]; rfl, h1.peel⟩

end Go.Proofs.Ytbljpeefekhoeab
