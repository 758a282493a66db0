/-
  Contracts of SameStores, the program's and the model's. Condition: the slices read as named shapes.
-/
import Derived.Deep.RegionHeld3
import Derived.Deep.DrawnRows
import Derived.Deep.DeepCutAuto
import Derived.Test.YtbljpeefekhoeabStoP
import Derived.Test.YtbljpeefekhoeabShpC
namespace Go.Proofs.Ytbljpeefekhoeab
open Go.RowKit

def sameSh (s t : Sh) : Bool := decide (s.nm = t.nm) && sameShp s.k s.xs s.n t.k t.xs t.n
/-- The first k are the same. -/
def SameTo (L M : List Sh) (k : Nat) : Prop := ∀ i, i < k → sameSh (L.getD i sh0) (M.getD i sh0) = true
theorem SameTo.more {L M : List Sh} {k : Nat} (h : SameTo L M k) (hd : sameSh (L.getD k sh0) (M.getD k sh0) = true) : SameTo L M (k + 1) := by
  intro i hi
  by_cases he : i < k
  · exact h i he
  · obtain rfl : i = k := by omega
    exact hd
instance (L M : List Sh) (k : Nat) : Decidable (SameTo L M k) := by unfold SameTo; exact inferInstance
def sameSto (L M : List Sh) : Bool := decide (L.length = M.length ∧ SameTo L M L.length)
theorem sameSto_len {L M : List Sh} (h : L.length ≠ M.length) : sameSto L M = false := decide_eq_false (fun x => h x.1)
theorem sameSto_at {L M : List Sh} {k : Nat} (hk : k < L.length) (h : sameSh (L.getD k sh0) (M.getD k sh0) = false) : sameSto L M = false := decide_eq_false (fun x => by have := x.2 k hk; rw [h] at this; cases this)
theorem sameSto_all {L M : List Sh} (h : L.length = M.length) (hs : SameTo L M L.length) : sameSto L M = true := decide_eq_true ⟨h, hs⟩

theorem box2N {w w1 : World} {s t : ByteArray} {k l : Int} {a b : Option Addr} {n c m d : Nat} {T : TypeId} (hk : Kept [] ((w.alloc (.cells #[.string s, .int .i64 k, .slice a n c] T)).alloc (.cells #[.string t, .int .i64 l, .slice b m d] T)) w1) :
    (w1.cell? ⟨w.heap.size, 0, none⟩ = some (.string s) ∧ w1.cell? ⟨w.heap.size, 1, none⟩ = some (.int .i64 k) ∧ w1.cell? ⟨w.heap.size, 2, none⟩ = some (.slice a n c)) ∧ w1.cell? ⟨w.heap.size + 1, 0, none⟩ = some (.string t) ∧ w1.cell? ⟨w.heap.size + 1, 1, none⟩ = some (.int .i64 l) ∧ w1.cell? ⟨w.heap.size + 1, 2, none⟩ = some (.slice b m d) :=
  ⟨⟨(hk.peel.top rfl (by simp) 0 (v := .string s) rfl).1, (hk.peel.top rfl (by simp) 1 (v := .int .i64 k) rfl).1, (hk.peel.top rfl (by simp) 2 (v := .slice a n c) rfl).1⟩, (hk.top (g := w.heap.size + 1) (by simp) (by simp) 0 (v := .string t) rfl).1, (hk.top (g := w.heap.size + 1) (by simp) (by simp) 1 (v := .int .i64 l) rfl).1, (hk.top (g := w.heap.size + 1) (by simp) (by simp) 2 (v := .slice b m d) rfl).1⟩

set_option maxHeartbeats 1000000 in
theorem isSameNamed_any (s t : Sh) (a b : Option Addr) (c d : Nat) (w : World) (h : Rd w a (s.n * 2) s.xs) (h' : Rd w b (t.n * 2) t.xs) :
    Calls Try.prog 41 #[.agg #[.string (strB s.nm), .int .i64 s.k, .slice a s.n c], .agg #[.string (strB t.nm), .int .i64 t.k, .slice b t.n d]] w (Ans w (.bool (sameSh s t))) := by
  have HR := Lib.hid h
  have HR' := Lib.hid h'
  clear h h'
  obtain ⟨nm, k, n, xs⟩ := s
  obtain ⟨mm, l, m, ys⟩ := t
  simp only at HR HR' ⊢
  by_cases hn : nm = mm
  · subst hn
    have hv : Hid (sameSh ⟨nm, k, n, xs⟩ ⟨nm, l, m, ys⟩ = sameShp k xs n l ys m) := by unfold sameSh; rw [decide_eq_true rfl, Bool.true_and]; rfl
    generalize strB nm = S at *
    go_enter Try.func41, Try.ntmps41
    go_wp2_with fail
    refine (SameShapes_any _ _ _ _ _ _ _ _ _ _ _ (HR.out.kept0 (((Kept.refl _ _).alloc _).alloc _)) (HR'.out.kept0 (((Kept.refl _ _).alloc _).alloc _))).mono ?_
    rintro e w1 ⟨rfl, h1⟩
    have K1 := Lib.hid h1.peel.peel
    clear h1
    go_wp2_with fail
    go_ret
    exact ⟨by rw [hv.out]; rfl, K1.out⟩
  · have hv : Hid (sameSh ⟨nm, k, n, xs⟩ ⟨mm, l, m, ys⟩ = false) := by unfold sameSh; rw [decide_eq_false hn, Bool.false_and]; rfl
    have hs : ((strB nm).toList == (strB mm).toList) = false := by rw [same_str]; exact decide_eq_false hn
    clear hn
    go_enter Try.func41, Try.ntmps41
    go_wp2_with fail
    go_ret
    exact ⟨by rw [hv.out]; rfl, ((Kept.refl _ _).alloc _).alloc _⟩

set_option maxHeartbeats 1000000 in
theorem equalNamed_any (a : Option Addr) (n c : Nat) (L : List Sh) (b : Option Addr) (m d : Nat) (M : List Sh) (w : World) (h : RdSt w a n L) (h' : RdSt w b m M) :
    Calls Try.prog 40 #[.slice a n c, .slice b m d, .func (.func 41) #[] #[]] w (Ans w (.bool (sameSto L M))) := by
  have hmax := h.2.1
  have hmax' := h'.2.1
  have HR := Lib.hid h
  have HR' := Lib.hid h'
  clear h h'
  by_cases hnm : n = m
  · subst hnm
    go_enter Try.func40, Try.ntmps40
    go_wp2
    go_loopw [17] (fun i wr => ∃ k : Nat, k ≤ n ∧ i = .int .i64 k ∧ Hid (SameTo L M k) ∧ Hid (Kept [] w wr)) (fun i _ => n - (intOf i).toNat)
    case atStart => exact ⟨0, Nat.zero_le _, rfl, fun i hi => by omega, Kept.refl [] w⟩
    case round =>
      obtain ⟨k, hk, rfl, hO, hK⟩ := hrel
      by_cases hlt : k < n
      · obtain ⟨g, off, p, c1, rfl, hc0, hc1, hc2, hrd, _⟩ := HR.out.2.2 k hlt
        obtain ⟨g', off', p', c1', rfl, hd0, hd1, hd2, hrd', _⟩ := HR'.out.2.2 k hlt
        have d0 := hK.out.cell hc0 (by simp)
        have d1 := hK.out.cell hc1 (by simp)
        have d2 := hK.out.cell hc2 (by simp)
        have e0 := hK.out.cell hd0 (by simp)
        have e1 := hK.out.cell hd1 (by simp)
        have e2 := hK.out.cell hd2 (by simp)
        have HRd := Lib.hid (hrd.kept0 hK.out)
        have HRd' := Lib.hid (hrd'.kept0 hK.out)
        clear hc0 hc1 hc2 hrd hd0 hd1 hd2 hrd'
        obtain ⟨s, hs⟩ : ∃ s, L.getD k sh0 = s := ⟨_, rfl⟩
        obtain ⟨t, ht⟩ : ∃ t, M.getD k sh0 = t := ⟨_, rfl⟩
        rw [hs] at d0 d1 d2 HRd
        rw [ht] at e0 e1 e2 HRd'
        have HST := Lib.hid (And.intro hs ht)
        clear hs ht
        have k1 := (Kept.refl [] wr).alloc (.cells #[.string (strB s.nm), .int .i64 s.k, .slice p s.n c1] 49)
        have f0 := k1.cell e0 (by simp)
        have f1 := k1.cell e1 (by simp)
        have f2 := k1.cell e2 (by simp)
        clear k1
        have k2 := Lib.hid (((Kept.refl [] wr).alloc (.cells #[.string (strB s.nm), .int .i64 s.k, .slice p s.n c1] 49)).alloc (.cells #[.string (strB t.nm), .int .i64 t.k, .slice p' t.n c1'] 49))
        obtain ⟨v, hv⟩ : ∃ v, sameSh s t = v := ⟨_, rfl⟩
        have HV := Lib.hid hv
        clear hv
        cases v
        · have hv2 : Hid (sameSto L M = false) := sameSto_at (k := k) (by rw [HR.out.1]; exact hlt) (by rw [HST.out.1, HST.out.2]; exact HV.out)
          go_wp2_with fail
          refine (isSameNamed_any s t _ _ _ _ _ (HRd.out.kept0 k2.out) (HRd'.out.kept0 k2.out)).mono ?_
          rintro e w1 ⟨rfl, h1⟩
          rw [HV.out]
          have hK2 := Lib.hid ((hK.out.trans0 k2.out).trans0 h1)
          clear hK h1
          go_wp2_with fail
          go_ret
          exact ⟨by rw [hv2.out]; rfl, hK2.out⟩
        · have hO2 := Lib.hid (hO.out.more (by rw [HST.out.1, HST.out.2]; exact HV.out))
          go_wp2_with fail
          refine (isSameNamed_any s t _ _ _ _ _ (HRd.out.kept0 k2.out) (HRd'.out.kept0 k2.out)).mono ?_
          rintro e w1 ⟨rfl, h1⟩
          rw [HV.out]
          have hK2 := Lib.hid ((hK.out.trans0 k2.out).trans0 h1)
          clear hK h1
          go_wp2_with fail
          go_roundw
          case rel => exact ⟨k + 1, by omega, by go_num, hO2, hK2⟩
          case measure => simp [intOf]; omega
      · obtain rfl : k = n := by omega
        have hv := Lib.hid (sameSto_all (L := L) (M := M) (by rw [HR.out.1, HR'.out.1]) (by rw [HR.out.1]; exact hO.out))
        go_wp2
        go_ret
        exact ⟨by rw [hv.out]; rfl, hK.out⟩
  · have hv := Lib.hid (sameSto_len (L := L) (M := M) (by rw [HR.out.1, HR'.out.1]; exact hnm))
    go_enter Try.func40, Try.ntmps40
    go_wp2
    go_ret
    exact ⟨by rw [hv.out]; rfl, Kept.refl _ _⟩

set_option maxHeartbeats 1000000 in
theorem SameStores_any (a : Option Addr) (n c : Nat) (L : List Sh) (b : Option Addr) (m d : Nat) (M : List Sh) (w : World) (h : RdSt w a n L) (h' : RdSt w b m M) :
    Calls Try.prog 13 #[.agg #[.slice a n c], .agg #[.slice b m d]] w (Ans w (.bool (sameSto L M))) := by
  have HR := Lib.hid h
  have HR' := Lib.hid h'
  clear h h'
  go_enter Try.func13, Try.ntmps13
  go_wp2_with fail
  refine (equalNamed_any _ _ _ _ _ _ _ _ _ (HR.out.kept0 (((Kept.refl _ _).alloc _).alloc _)) (HR'.out.kept0 (((Kept.refl _ _).alloc _).alloc _))).mono ?_
  rintro e w1 ⟨rfl, h1⟩
  have K1 := Lib.hid h1.peel.peel
  clear h1
  obtain ⟨v, hv⟩ : ∃ v, sameSto L M = v := ⟨_, rfl⟩
  have HV := Lib.hid hv
  rw [hv]
  clear hv
  go_wp2_with fail
  go_ret
  exact ⟨by rw [HV.out]; rfl, K1.out⟩

set_option maxHeartbeats 1000000 in
theorem sSameStores_any (a : Option Addr) (n c : Nat) (L : List Sh) (b : Option Addr) (m d : Nat) (M : List Sh) (w : World) (h : RdSt w a n L) (h' : RdSt w b m M) :
    Calls Try.prog 17 #[.agg #[.slice a n c], .agg #[.slice b m d]] w (Ans w (.bool (sameSto L M))) := by
  have hmax := h.2.1
  have hmax' := h'.2.1
  have HR := Lib.hid h
  have HR' := Lib.hid h'
  clear h h'
  by_cases hnm : n = m
  · subst hnm
    have hbox := Lib.hid (((Kept.refl [] w).alloc (.cells #[.slice a n c] 26)).alloc (.cells #[.slice b n d] 26))
    have B0 : Hid (((w.alloc (.cells #[.slice a n c] 26)).alloc (.cells #[.slice b n d] 26)).cell? ⟨w.heap.size, 0, none⟩ = some (.slice a n c) ∧ ((w.alloc (.cells #[.slice a n c] 26)).alloc (.cells #[.slice b n d] 26)).cell? ⟨w.heap.size + 1, 0, none⟩ = some (.slice b n d)) :=
      ⟨((Kept.refl [] _).peel.top rfl (by simp) 0 (v := .slice a n c) rfl).1, ((Kept.refl [] _).top (g := w.heap.size + 1) (by simp) (by simp) 0 (v := .slice b n d) rfl).1⟩
    obtain ⟨w0, hw0⟩ : ∃ w0, (w.alloc (.cells #[.slice a n c] 26)).alloc (.cells #[.slice b n d] 26) = w0 := ⟨_, rfl⟩
    rw [hw0] at hbox B0
    have HW0 := Lib.hid hw0
    clear hw0
    go_enter Try.func17, Try.ntmps17
    go_wp2_with fail
    rw [HW0.out]
    go_loopw [5] (fun i wr => ∃ k : Nat, k ≤ n ∧ i = .int .i64 k ∧ Hid (SameTo L M k) ∧ Hid (Kept [] w0 wr)) (fun i _ => n - (intOf i).toNat)
    case atStart => exact ⟨0, Nat.zero_le _, rfl, fun i hi => by omega, Kept.refl [] w0⟩
    case round =>
      obtain ⟨k, hk, rfl, hO, hK⟩ := hrel
      have b0 := hK.out.cell B0.out.1 (by simp)
      have b1 := hK.out.cell B0.out.2 (by simp)
      by_cases hlt : k < n
      · obtain ⟨g, off, p, c1, rfl, hc0, hc1, hc2, hrd, _⟩ := HR.out.2.2 k hlt
        obtain ⟨g', off', p', c1', rfl, hd0, hd1, hd2, hrd', _⟩ := HR'.out.2.2 k hlt
        have kk := hbox.out.trans0 hK.out
        have d0 := kk.cell hc0 (by simp)
        have d1 := kk.cell hc1 (by simp)
        have d2 := kk.cell hc2 (by simp)
        have e0 := kk.cell hd0 (by simp)
        have e1 := kk.cell hd1 (by simp)
        have e2 := kk.cell hd2 (by simp)
        have HRd := Lib.hid (hrd.kept0 kk)
        have HRd' := Lib.hid (hrd'.kept0 kk)
        clear hc0 hc1 hc2 hrd hd0 hd1 hd2 hrd' kk
        obtain ⟨s, hs⟩ : ∃ s, L.getD k sh0 = s := ⟨_, rfl⟩
        obtain ⟨t, ht⟩ : ∃ t, M.getD k sh0 = t := ⟨_, rfl⟩
        rw [hs] at d0 d1 d2 HRd
        rw [ht] at e0 e1 e2 HRd'
        have HST := Lib.hid (And.intro hs ht)
        clear hs ht
        obtain ⟨nm, q, m1, xs⟩ := s
        obtain ⟨mm, l, m2, ys⟩ := t
        simp only at d0 d1 d2 e0 e1 e2 HRd HRd'
        by_cases hn : nm = mm
        · subst hn
          have hv : sameSh ⟨nm, q, m1, xs⟩ ⟨nm, l, m2, ys⟩ = sameShp q xs m1 l ys m2 := by unfold sameSh; rw [decide_eq_true rfl, Bool.true_and]
          obtain ⟨v, hvv⟩ : ∃ v, sameShp q xs m1 l ys m2 = v := ⟨_, rfl⟩
          have HVV := Lib.hid hvv
          rw [hvv] at hv
          generalize strB nm = S at *
          have HV := Lib.hid hv
          have hgd : (S.toList == S.toList) = true := by simp
          clear hv hvv
          go_wp2_with fail
          go_region_held3 (fun w' => w'.cell? ⟨w.heap.size, 0, none⟩ = some (.slice (some ⟨g, off, none⟩) n c) ∧ w'.cell? ⟨w.heap.size + 1, 0, none⟩ = some (.slice (some ⟨g', off', none⟩) n d) ∧ w'.cell? ⟨g, off + k * 3, none⟩ = some (.string S) ∧ w'.cell? ⟨g, off + k * 3 + 1, none⟩ = some (.int .i64 q) ∧ w'.cell? ⟨g, off + k * 3 + 2, none⟩ = some (.slice p m1 c1) ∧ w'.cell? ⟨g', off' + k * 3, none⟩ = some (.string S) ∧ w'.cell? ⟨g', off' + k * 3 + 1, none⟩ = some (.int .i64 l) ∧ w'.cell? ⟨g', off' + k * 3 + 2, none⟩ = some (.slice p' m2 c1') ∧ Hid (Kept [] wr w'))
            ((go_split_ands; (try refine ⟨?_, ?_, ?_, ?_, ?_, ?_, ?_, ?_, ?_⟩) <;> with_reducible first | exact Lib.hid ((Kept.refl _ _).drew) | exact drew_pt (by assumption) | exact Kept.allocH (by assumption) | exact alloc_cell (by assumption) | exact Lib.hid (Kept.trans0 (Hid.out (by assumption)) (by assumption)) | exact Kept.cell (by assumption) (by assumption) (by simp)))
            (first | (go_at_call 22; go_split_ands; refine (sSameShapes_any _ _ _ _ _ _ _ _ _ _ _ (HRd.out.kept0 (Kept.refl [] _).drew) (HRd'.out.kept0 (Kept.refl [] _).drew)).mono ?_; rintro e v1 ⟨rfl, hk1⟩; rw [HVV.out]))
          have hK2 := Lib.hid (hK.out.trans0 ((Kept.refl [] wr).drew.trans0 hk1))
          clear hK hk1
          cases v
          · have hv2 : Hid (sameSto L M = false) := sameSto_at (k := k) (by rw [HR.out.1]; exact hlt) (by rw [HST.out.1, HST.out.2]; exact HV.out)
            go_wp2_with fail
            go_ret
            exact ⟨by rw [hv2.out]; rfl, hbox.out.trans0 hK2.out⟩
          · have hO2 := Lib.hid (hO.out.more (by rw [HST.out.1, HST.out.2]; exact HV.out))
            go_wp2_with fail
            go_roundw
            case rel => exact ⟨k + 1, by omega, by go_num, hO2, hK2⟩
            case measure => simp [intOf]; omega
        · have hs : ((strB nm).toList == (strB mm).toList) = false := by rw [same_str]; exact decide_eq_false hn
          have hv2 : Hid (sameSto L M = false) := sameSto_at (k := k) (by rw [HR.out.1]; exact hlt) (by rw [HST.out.1, HST.out.2]; unfold sameSh; rw [decide_eq_false hn, Bool.false_and])
          clear hn
          go_wp2_with fail
          go_quiet (fail)
          have hK2 := Lib.hid (hK.out.drewN nq)
          clear hK
          go_wp2_with fail
          go_ret
          exact ⟨by rw [hv2.out]; rfl, hbox.out.trans0 hK2.out⟩
      · obtain rfl : k = n := by omega
        have hv := Lib.hid (sameSto_all (L := L) (M := M) (by rw [HR.out.1, HR'.out.1]) (by rw [HR.out.1]; exact hO.out))
        go_wp2_with fail
        go_ret
        exact ⟨by rw [hv.out]; rfl, hbox.out.trans0 hK.out⟩
  · have hv := Lib.hid (sameSto_len (L := L) (M := M) (by rw [HR.out.1, HR'.out.1]; exact hnm))
    go_enter Try.func17, Try.ntmps17
    go_wp2
    go_ret
    exact ⟨by rw [hv.out]; rfl, ((Kept.refl _ _).alloc _).alloc _⟩

end Go.Proofs.Ytbljpeefekhoeab
