/-
  Contracts of NamesIn, the program's and the model's. Condition: the slice reads as named shapes.
-/
import Derived.Test.YtbljpeefekhoeadStoA
import Derived.Test.YtbljpeefekhoeadStoB
namespace Go.Proofs.Ytbljpeefekhoead
open Go.RowKit

/-- That a kind is a set's. -/
def isSetK (k : Int) : Bool := k == 1 || k == 2
/-- How many of the first k named shapes are sets. -/
def setsTo (L : List Sh) : Nat → Nat
  | 0 => 0
  | k + 1 => setsTo L k + if isSetK (L.getD k sh0).k = true then 1 else 0
theorem setsTo_le (L : List Sh) : ∀ k, setsTo L k ≤ k
  | 0 => Nat.le_refl _
  | k + 1 => by have := setsTo_le L k; unfold setsTo; split <;> omega
theorem setsTo_yes {L : List Sh} {k : Nat} (h : isSetK (L.getD k sh0).k = true) : setsTo L (k + 1) = setsTo L k + 1 := by rw [setsTo, if_pos h]
theorem setsTo_no {L : List Sh} {k : Nat} (h : isSetK (L.getD k sh0).k = false) : setsTo L (k + 1) = setsTo L k := by rw [setsTo, if_neg (by rw [h]; simp)]; rfl
def namesV (L : List Sh) : Int := if storeC L = 0 then (setsTo L L.length : Int) else 0
theorem namesV_ok {L : List Sh} (h : storeC L = 0) : namesV L = (setsTo L L.length : Int) := if_pos h
theorem namesV_no {L : List Sh} (h : storeC L ≠ 0) : namesV L = 0 := if_neg h

set_option maxHeartbeats 1000000 in
theorem isSet_any (k : Int) (p : Option Addr) (m c : Nat) (w : World) : Calls Try.prog 15 #[.agg #[.int .i64 k, .slice p m c]] w (Ans w (.bool (isSetK k))) := by
  by_cases h1 : k = 1
  · subst h1
    go_enter Try.func15, Try.ntmps15
    go_wp2_with fail
    go_ret
    exact ⟨rfl, (Kept.refl _ _).alloc _⟩
  · have e1 : (k == 1) = false := by rw [beq_eq_false_iff_ne]; exact h1
    by_cases h2 : k = 2
    · subst h2
      clear h1
      go_enter Try.func15, Try.ntmps15
      go_wp2_with fail
      go_ret
      exact ⟨rfl, (Kept.refl _ _).alloc _⟩
    · have e2 : (k == 2) = false := by rw [beq_eq_false_iff_ne]; exact h2
      have hv : Hid (isSetK k = false) := by show isSetK k = false; unfold isSetK; rw [e1, e2]; rfl
      go_enter Try.func15, Try.ntmps15
      go_wp2_with fail
      go_ret
      exact ⟨by rw [hv.out]; rfl, (Kept.refl _ _).alloc _⟩

set_option maxHeartbeats 1000000 in
theorem l9Set_any (k : Int) (g off : Nat) (w : World) (h : w.cell? ⟨g, off, none⟩ = some (.int .i64 k)) : Calls Try.prog 12 #[.pointer (some ⟨g, off, none⟩)] w (Ans w (.bool (isSetK k))) := by
  by_cases h1 : k = 1
  · subst h1
    go_enter Try.func12, Try.ntmps12
    go_wp2_with fail
    go_ret
    exact ⟨rfl, Kept.refl _ _⟩
  · have e1 : (k == 1) = false := by rw [beq_eq_false_iff_ne]; exact h1
    by_cases h2 : k = 2
    · subst h2
      clear h1
      go_enter Try.func12, Try.ntmps12
      go_wp2_with fail
      go_ret
      exact ⟨rfl, Kept.refl _ _⟩
    · have e2 : (k == 2) = false := by rw [beq_eq_false_iff_ne]; exact h2
      have hv : Hid (isSetK k = false) := by show isSetK k = false; unfold isSetK; rw [e1, e2]; rfl
      go_enter Try.func12, Try.ntmps12
      go_wp2_with fail
      go_ret
      exact ⟨by rw [hv.out]; rfl, Kept.refl _ _⟩

theorem boxNI {w w1 : World} {a : Option Addr} {n c : Nat} (hk : Kept [] ((w.alloc (.cells #[.slice a n c] 31)).alloc (.cells #[.int .i64 0, .int .i64 0] 27)) w1) :
    w1.cell? ⟨w.heap.size, 0, none⟩ = some (.slice a n c) ∧
    (w1.cell? ⟨w.heap.size + 1, 0, none⟩ = some (.int .i64 0) ∧ w1.cell? ⟨w.heap.size + 1, 1, none⟩ = some (.int .i64 0) ∧ w1.frozen? ⟨w.heap.size + 1, 0, none⟩ = false ∧ w1.frozen? ⟨w.heap.size + 1, 1, none⟩ = false ∧ w.heap.size + 2 ≤ w1.heap.size) ∧ Kept [] w w1 :=
  ⟨(hk.peel.top (g := w.heap.size) (by simp) (by simp) 0 (v := .slice a n c) rfl).1,
   ⟨(hk.top (g := w.heap.size + 1) (by simp) (by simp) 0 (v := .int .i64 0) rfl).1, (hk.top (g := w.heap.size + 1) (by simp) (by simp) 1 (v := .int .i64 0) rfl).1,
   (hk.top (g := w.heap.size + 1) (by simp) (by simp) 0 (v := .int .i64 0) rfl).2.1, (hk.top (g := w.heap.size + 1) (by simp) (by simp) 1 (v := .int .i64 0) rfl).2.1, by have := hk.size; simpa using this⟩, hk.peel.peel⟩
/-- A box with an IntResult that is still empty. -/
structure IRB (w : World) (R : Nat) : Prop where
  d0 : w.cell? ⟨R, 0, none⟩ = some (.int .i64 0)
  d1 : w.cell? ⟨R, 1, none⟩ = some (.int .i64 0)
  e0 : w.frozen? ⟨R, 0, none⟩ = false
  e1 : w.frozen? ⟨R, 1, none⟩ = false
theorem IRB.kept {w w' : World} {R : Nat} (h : IRB w R) (k : Kept [] w w') : IRB w' R :=
  ⟨k.cell h.d0 (by simp), k.cell h.d1 (by simp), k.free h.e0 (World.block_lt_of_cell? w _ h.d0) (by simp), k.free h.e1 (World.block_lt_of_cell? w _ h.d1) (by simp)⟩

set_option maxHeartbeats 1000000 in
theorem NamesIn_any (a : Option Addr) (n c : Nat) (L : List Sh) (w : World) (h : RdSt w a n L) :
    Calls Try.prog 7 #[.agg #[.slice a n c]] w (Ans w (.agg #[.int .i64 (storeC L), .int .i64 (namesV L)])) := by
  have hmax := h.2.1
  have HR := Lib.hid h
  have HN := Lib.hid h.1
  have K0 := Lib.hid (((Kept.refl [] w).alloc (.cells #[.slice a n c] 31)).alloc (.cells #[.int .i64 0, .int .i64 0] 27))
  clear h
  by_cases hc : storeC L = 0
  · have hv := Lib.hid (namesV_ok hc)
    have HC := Lib.hid hc
    have h10 : n ≤ 10 := by have := (storeC_ok hc).1; rw [HN.out] at this; exact this
    clear hc
    go_enter Try.func7, Try.ntmps7
    go_wp2_with fail
    refine (StoreFault_any _ _ _ L _ (HR.out.kept0 K0.out)).mono ?_
    rintro e w1 ⟨rfl, k1⟩
    rw [HC.out]
    obtain ⟨c0, ⟨d0, d1, e0, e1, z1⟩, K⟩ := boxNI k1
    have K1 := Lib.hid K
    have R1 : Hid (IRB w1 (w.heap.size + 1)) := Lib.hid ⟨d0, d1, e0, e1⟩
    have HR1 := Lib.hid (HR.out.kept0 K)
    clear k1 K d0 d1 e0 e1 HR K0
    go_wp2_with fail
    go_loopw [4, 16] (fun s i wr => ∃ k : Nat, k ≤ n ∧ i = .int .i64 k ∧ s = .int .i64 (setsTo L k : Nat) ∧ Hid (Kept [] w1 wr)) (fun _ i _ => n - (intOf i).toNat)
    case atStart => exact ⟨0, Nat.zero_le _, rfl, rfl, Kept.refl _ _⟩
    case round =>
      obtain ⟨k, hk, rfl, rfl, hK⟩ := hrel
      have hle := setsTo_le L k
      have b0 := hK.out.cell c0 (by simp)
      by_cases hlt : k < n
      · obtain ⟨g, off, p, c', rfl, hc0, hc1, hc2, _, _⟩ := HR1.out.2.2 k hlt
        have d0 := hK.out.cell hc0 (by simp)
        have d1 := hK.out.cell hc1 (by simp)
        have d2 := hK.out.cell hc2 (by simp)
        clear hc0 hc1 hc2
        generalize (L.getD k sh0).nm = nm at d0
        generalize (L.getD k sh0).n = m at d2
        obtain ⟨q, hq⟩ : ∃ q, (L.getD k sh0).k = q := ⟨_, rfl⟩
        rw [hq] at d1
        obtain ⟨b, hb⟩ : ∃ b, isSetK q = b := ⟨_, rfl⟩
        have HB := Lib.hid hb
        obtain ⟨S, hS⟩ : ∃ S, setsTo L k = S := ⟨_, rfl⟩
        obtain ⟨S', hS'⟩ : ∃ S', setsTo L (k + 1) = S' := ⟨_, rfl⟩
        have hSS : b = true ∧ S' = S + 1 ∨ b = false ∧ S' = S := by
          cases b
          · exact .inr ⟨rfl, by rw [← hS', ← hS]; exact setsTo_no (by rw [hq]; exact hb)⟩
          · exact .inl ⟨rfl, by rw [← hS', ← hS]; exact setsTo_yes (by rw [hq]; exact hb)⟩
        have HS' := Lib.hid hS'
        rw [hS] at hle ⊢
        clear hq hb hS hS'
        rcases hSS with ⟨rfl, rfl⟩ | ⟨rfl, rfl⟩
        · have e1 : IntKind.i64.wrap ((S : Int) + 1) = (S : Int) + 1 := IntWalk.i64_in _ (by omega)
          go_wp2_with fail
          refine (isSet_any _ _ _ _ _).mono ?_
          rintro e w2 ⟨rfl, k2⟩
          rw [HB.out]
          have hK2 := Lib.hid (hK.out.trans0 k2.peel)
          clear hK k2
          go_wp2_with fail
          go_roundw
          case rel => exact ⟨k + 1, by omega, by go_num, by rw [HS'.out]; simp, hK2⟩
          case measure => simp [intOf]; omega
        · go_wp2_with fail
          refine (isSet_any _ _ _ _ _).mono ?_
          rintro e w2 ⟨rfl, k2⟩
          rw [HB.out]
          have hK2 := Lib.hid (hK.out.trans0 k2.peel)
          clear hK k2
          go_wp2_with fail
          go_roundw
          case rel => exact ⟨k + 1, by omega, by go_num, by rw [HS'.out], hK2⟩
          case measure => simp [intOf]; omega
      · obtain rfl : k = n := by omega
        have HS := Lib.hid (show namesV L = (setsTo L k : Nat) by rw [hv.out, HN.out])
        have K2 := Lib.hid (K1.out.trans0 hK.out)
        have R2 := R1.out.kept hK.out
        have d0 := R2.d0
        have d1 := R2.d1
        have e0 := R2.e0
        have e1 := R2.e1
        generalize setsTo L k = S at HS
        go_wp2_with fail
        obtain ⟨_, s0, s1⟩ := cells2 (.int .i64 0) (.int .i64 (S : Nat)) d0 d1
        refine bodyPost_ret (v := .agg #[.int .i64 0, .int .i64 (S : Nat)]) (by simp [results, Try.results7, go_sem, s0, s1]) rfl ⟨by rw [HS.out, HC.out], ?_⟩
        exact (K2.out.setCell _ _ (by simp)).setCell _ _ (by simp)
  · have hv := Lib.hid (namesV_no hc)
    generalize hg : storeC L = f at *
    have hne : (f == 0) = false := by rw [beq_eq_false_iff_ne]; exact hc
    have HF := Lib.hid hg
    clear hg hc
    go_enter Try.func7, Try.ntmps7
    go_wp2_with fail
    refine (StoreFault_any _ _ _ L _ (HR.out.kept0 K0.out)).mono ?_
    rintro e w1 ⟨rfl, k1⟩
    rw [HF.out]
    obtain ⟨c0, ⟨d0, d1, e0, e1, z1⟩, K⟩ := boxNI k1
    have K1 := Lib.hid K
    clear k1 K
    go_wp2_with fail
    obtain ⟨_, s0, s1⟩ := cells2 (.int .i64 f) (.int .i64 0) d0 d1
    refine bodyPost_ret (v := .agg #[.int .i64 f, .int .i64 0]) (by simp [results, Try.results7, go_sem, s0, s1]) rfl ⟨by rw [hv.out], ?_⟩
    exact (K1.out.setCell _ _ (by simp)).setCell _ _ (by simp)

set_option maxHeartbeats 1000000 in
theorem sNamesIn_any (a : Option Addr) (n c : Nat) (L : List Sh) (w : World) (h : RdSt w a n L) :
    Calls Try.prog 5 #[.agg #[.slice a n c]] w (Ans w (.agg #[.int .i64 (storeC L), .int .i64 (namesV L)])) := by
  have hmax := h.2.1
  have HR := Lib.hid h
  have HN := Lib.hid h.1
  have K0 := Lib.hid (((Kept.refl [] w).alloc (.cells #[.slice a n c] 31)).alloc (.cells #[.int .i64 0, .int .i64 0] 27))
  clear h
  by_cases hc : storeC L = 0
  · have hv := Lib.hid (namesV_ok hc)
    have HC := Lib.hid hc
    have h10 : n ≤ 10 := by have := (storeC_ok hc).1; rw [HN.out] at this; exact this
    clear hc
    go_enter Try.func5, Try.ntmps5
    go_wp2_with fail
    refine (sStoreFault_any _ _ _ L _ (HR.out.kept0 K0.out)).mono ?_
    rintro e w1 ⟨rfl, k1⟩
    rw [HC.out]
    obtain ⟨c0, ⟨d0, d1, e0, e1, z1⟩, K⟩ := boxNI k1
    have K1 := Lib.hid K
    have R1 : Hid (IRB w1 (w.heap.size + 1)) := Lib.hid ⟨d0, d1, e0, e1⟩
    have HR1 := Lib.hid (HR.out.kept0 K)
    clear k1 K d0 d1 e0 e1 HR K0
    go_wp2_with fail
    go_loopw [4, 5] (fun s i wr => ∃ k : Nat, k ≤ n ∧ i = .int .i64 k ∧ s = .int .i64 (setsTo L k : Nat) ∧ Hid (Kept [] w1 wr)) (fun _ i _ => n - (intOf i).toNat)
    case atStart => exact ⟨0, Nat.zero_le _, rfl, rfl, Kept.refl _ _⟩
    case round =>
      obtain ⟨k, hk, rfl, rfl, hK⟩ := hrel
      have hle := setsTo_le L k
      have b0 := hK.out.cell c0 (by simp)
      by_cases hlt : k < n
      · obtain ⟨g, off, p, c', rfl, hc0, hc1, hc2, _, _⟩ := HR1.out.2.2 k hlt
        have d1 := hK.out.cell hc1 (by simp)
        clear hc0 hc1 hc2
        obtain ⟨q, hq⟩ : ∃ q, (L.getD k sh0).k = q := ⟨_, rfl⟩
        rw [hq] at d1
        obtain ⟨b, hb⟩ : ∃ b, isSetK q = b := ⟨_, rfl⟩
        have HB := Lib.hid hb
        obtain ⟨S, hS⟩ : ∃ S, setsTo L k = S := ⟨_, rfl⟩
        obtain ⟨S', hS'⟩ : ∃ S', setsTo L (k + 1) = S' := ⟨_, rfl⟩
        have hSS : b = true ∧ S' = S + 1 ∨ b = false ∧ S' = S := by
          cases b
          · exact .inr ⟨rfl, by rw [← hS', ← hS]; exact setsTo_no (by rw [hq]; exact hb)⟩
          · exact .inl ⟨rfl, by rw [← hS', ← hS]; exact setsTo_yes (by rw [hq]; exact hb)⟩
        have HS' := Lib.hid hS'
        rw [hS] at hle ⊢
        clear hq hb hS hS'
        rcases hSS with ⟨rfl, rfl⟩ | ⟨rfl, rfl⟩
        · have e1 : IntKind.i64.wrap ((S : Int) + 1) = (S : Int) + 1 := IntWalk.i64_in _ (by omega)
          go_wp2_with fail
          refine (l9Set_any _ _ _ _ d1).mono ?_
          rintro e w2 ⟨rfl, k2⟩
          rw [HB.out]
          have hK2 := Lib.hid (hK.out.trans0 k2)
          clear hK k2
          go_wp2_with fail
          go_roundw
          case rel => exact ⟨k + 1, by omega, by go_num, by rw [HS'.out]; simp, hK2⟩
          case measure => simp [intOf]; omega
        · go_wp2_with fail
          refine (l9Set_any _ _ _ _ d1).mono ?_
          rintro e w2 ⟨rfl, k2⟩
          rw [HB.out]
          have hK2 := Lib.hid (hK.out.trans0 k2)
          clear hK k2
          go_wp2_with fail
          go_roundw
          case rel => exact ⟨k + 1, by omega, by go_num, by rw [HS'.out], hK2⟩
          case measure => simp [intOf]; omega
      · obtain rfl : k = n := by omega
        have HS := Lib.hid (show namesV L = (setsTo L k : Nat) by rw [hv.out, HN.out])
        have K2 := Lib.hid (K1.out.trans0 hK.out)
        have R2 := R1.out.kept hK.out
        have d0 := R2.d0
        have d1 := R2.d1
        have e0 := R2.e0
        have e1 := R2.e1
        generalize setsTo L k = S at HS
        go_wp2_with fail
        obtain ⟨_, s0, s1⟩ := cells2 (.int .i64 0) (.int .i64 (S : Nat)) d0 d1
        refine bodyPost_ret (v := .agg #[.int .i64 0, .int .i64 (S : Nat)]) (by simp [results, Try.results5, go_sem, s0, s1]) rfl ⟨by rw [HS.out, HC.out], ?_⟩
        exact (K2.out.setCell _ _ (by simp)).setCell _ _ (by simp)
  · have hv := Lib.hid (namesV_no hc)
    generalize hg : storeC L = f at *
    have hne : (f == 0) = false := by rw [beq_eq_false_iff_ne]; exact hc
    have HF := Lib.hid hg
    clear hg hc
    go_enter Try.func5, Try.ntmps5
    go_wp2_with fail
    refine (sStoreFault_any _ _ _ L _ (HR.out.kept0 K0.out)).mono ?_
    rintro e w1 ⟨rfl, k1⟩
    rw [HF.out]
    obtain ⟨c0, ⟨d0, d1, e0, e1, z1⟩, K⟩ := boxNI k1
    have K1 := Lib.hid K
    clear k1 K
    go_wp2_with fail
    obtain ⟨_, s0, s1⟩ := cells2 (.int .i64 f) (.int .i64 0) d0 d1
    refine bodyPost_ret (v := .agg #[.int .i64 f, .int .i64 0]) (by simp [results, Try.results5, go_sem, s0, s1]) rfl ⟨by rw [hv.out], ?_⟩
    exact (K1.out.setCell _ _ (by simp)).setCell _ _ (by simp)

end Go.Proofs.Ytbljpeefekhoead
