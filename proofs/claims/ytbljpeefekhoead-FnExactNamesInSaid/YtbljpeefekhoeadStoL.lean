/-
  The laws' helpers over stores: how much a store is, a store made anew. Condition: the argument reads as named shapes.
-/
import Derived.Test.YtbljpeefekhoeadStoP
import Derived.Test.YtbljpeefekhoeadShpL
namespace Go.Proofs.Ytbljpeefekhoead
open Go.RowKit

/-- How much the first named shapes are. -/
def szAt (L : List Sh) : Nat → Nat
  | 0 => 0
  | i + 1 => szAt L i + ((L.getD i sh0).nm.length + (L.getD i sh0).n)
theorem szAt_mono (L : List Sh) {i j : Nat} (h : i ≤ j) : szAt L i ≤ szAt L j := by
  induction j with
  | zero => rw [show i = 0 by omega]; exact Nat.le_refl _
  | succ j ih =>
    by_cases he : i = j + 1
    · subst he; exact Nat.le_refl _
    · exact Nat.le_trans (ih (by omega)) (Nat.le_add_right _ _)
theorem szAt_one (L : List Sh) {i n : Nat} (h : i < n) : (L.getD i sh0).nm.length + (L.getD i sh0).n ≤ szAt L n := by
  have := szAt_mono L (show i + 1 ≤ n by omega)
  simp only [szAt] at this
  omega

/-- An argument's slice of named shapes; points are told only where they are not too many. -/
def ArgSt (w : World) (a : Option Addr) (n : Nat) (L : List Sh) : Prop :=
  L.length = n ∧ n ≤ 9223372036854775807 ∧ (n ≤ 1048576 → ∀ i, i < n → ∃ g off p c, a = some ⟨g, off, none⟩ ∧ w.cell? ⟨g, off + i * 3, none⟩ = some (.string (strB (L.getD i sh0).nm)) ∧ w.cell? ⟨g, off + i * 3 + 1, none⟩ = some (.int .i64 (L.getD i sh0).k) ∧
    w.cell? ⟨g, off + i * 3 + 2, none⟩ = some (.slice p (L.getD i sh0).n c) ∧ (L.getD i sh0).nm.length ≤ 9223372036854775807 ∧ (L.getD i sh0).n ≤ 9223372036854775807 ∧ ((L.getD i sh0).n ≤ 1048576 → Rd w p ((L.getD i sh0).n * 2) (L.getD i sh0).xs))
theorem ArgSt.rd {w : World} {a : Option Addr} {n : Nat} {L : List Sh} (h : ArgSt w a n L) (hn : n + szAt L n ≤ 1048576) : RdSt w a n L :=
  ⟨h.1, by omega, fun i hi => by
    obtain ⟨g, off, p, c, ha, h1, h2, h3, h4, h5, h6⟩ := h.2.2 (by omega) i hi
    have := szAt_one L hi
    exact ⟨g, off, p, c, ha, h1, h2, h3, h6 (by omega), h4⟩⟩
theorem ArgSt.kept0 {w w' : World} {a : Option Addr} {n : Nat} {L : List Sh} (h : ArgSt w a n L) (k : Kept [] w w') : ArgSt w' a n L :=
  ⟨h.1, h.2.1, fun hn i hi => by
    obtain ⟨g, off, p, c, ha, h1, h2, h3, h4, h5, h6⟩ := h.2.2 hn i hi
    exact ⟨g, off, p, c, ha, k.cell h1 (by simp), k.cell h2 (by simp), k.cell h3 (by simp), h4, h5, fun hz => (h6 hz).kept0 k⟩⟩

def leftS (left : Int) (x : Nat) : Int := if (x : Int) ≤ left then left - x else -1
theorem leftS_yes {left : Int} {x : Nat} (h : (x : Int) ≤ left) : leftS left x = left - x := if_pos h
theorem leftS_no {left : Int} {x : Nat} (h : ¬ (x : Int) ≤ left) : leftS left x = -1 := if_neg h

theorem kept_box {w w1 : World} {o : Obj} (h : Kept [] (w.alloc o) w1) : Kept [] w w1 := h.peel

set_option maxHeartbeats 1000000 in
theorem szNamed_any (nm : ByteArray) (k : Int) (a : Option Addr) (n c : Nat) (L : Int) (w : World) (h0 : 0 ≤ L) (hL : L ≤ 1048576) (hnm : nm.size ≤ 9223372036854775807) (hn : n ≤ 9223372036854775807) :
    Calls Try.prog 17 #[.agg #[.string nm, .int .i64 k, .slice a n c], .int .i64 L] w (Ans w (.int .i64 (leftS L (nm.size + n)))) := by
  by_cases h1 : (nm.size : Int) ≤ L
  · have q1 : (0 : Int) ≤ L - nm.size := by omega
    have q2 : ¬ L - (nm.size : Int) < 0 := by omega
    have q3 : L - (nm.size : Int) ≤ 1048576 := by omega
    have q4 : IntKind.i64.wrap (L - (nm.size : Int)) = L - nm.size := IntWalk.i64_in _ (by omega)
    by_cases h2 : (n : Int) ≤ L - nm.size
    · have hv : Hid (leftS L (nm.size + n) = L - nm.size - n) := by
        show _ = _
        rw [leftS_yes (by omega)]; omega
      obtain ⟨M, hM⟩ : ∃ M, L - (nm.size : Int) = M := ⟨_, rfl⟩
      rw [hM] at hv q1 q2 q3 h2
      have hM2 : ¬ M - (n : Int) < 0 := by omega
      have Q := Lib.hid (And.intro h2 q3)
      clear h1 h2 q3
      go_enter Try.func17, Try.ntmps17
      go_wp2_with fail
      refine (szShape_yes _ _ _ _ _ _ Q.out.1 Q.out.2).mono ?_
      rintro e w1 ⟨rfl, hk⟩
      have HK := Lib.hid hk.peel
      clear hk
      go_wp2_with fail
      go_ret
      exact ⟨by rw [hv.out]; rfl, HK.out⟩
    · have hv : Hid (leftS L (nm.size + n) = -1) := leftS_no (by omega)
      obtain ⟨M, hM⟩ : ∃ M, L - (nm.size : Int) = M := ⟨_, rfl⟩
      rw [hM] at q1 q2 q3 h2
      have Q := Lib.hid (And.intro (show M < (n : Int) by omega) hn)
      have Q2 := Lib.hid q1
      clear h1 h2 q3
      go_enter Try.func17, Try.ntmps17
      go_wp2_with fail
      refine (szShape_no _ _ _ _ _ _ Q.out.1 Q2.out Q.out.2).mono ?_
      rintro e w1 ⟨rfl, hk⟩
      have HK := Lib.hid hk.peel
      clear hk
      go_wp2_with fail
      go_ret
      exact ⟨by rw [hv.out]; rfl, HK.out⟩
  · have hv : Hid (leftS L (nm.size + n) = -1) := leftS_no (by omega)
    have q2 : L - (nm.size : Int) < 0 := by omega
    have q4 : IntKind.i64.wrap (L - (nm.size : Int)) = L - nm.size := IntWalk.i64_in _ (by omega)
    go_enter Try.func17, Try.ntmps17
    go_wp2_with fail
    go_ret
    exact ⟨by rw [hv.out]; rfl, (Kept.refl _ _).alloc _⟩

set_option maxHeartbeats 1000000 in
theorem szNamedS_any (a : Option Addr) (n c : Nat) (L : List Sh) (M : Int) (w : World) (h : ArgSt w a n L) (h0 : 0 ≤ M) (hM : M ≤ 1048576) :
    Calls Try.prog 10 #[.slice a n c, .int .i64 M] w (Ans w (.int .i64 (leftS M (n + szAt L n)))) := by
  have hmax := h.2.1
  by_cases h1 : (n : Int) ≤ M
  · have HR := Lib.hid (And.intro h.1 (h.2.2 (by omega)))
    clear h
    obtain ⟨N, hN⟩ : ∃ N, M - (n : Int) = N := ⟨_, rfl⟩
    have q1 : 0 ≤ N := by omega
    have q2 : ¬ N < 0 := by omega
    have q4 : IntKind.i64.wrap (M - (n : Int)) = M - n := IntWalk.i64_in _ (by omega)
    have HN := Lib.hid (show N ≤ 1048576 by omega)
    have HNM := Lib.hid hN
    go_enter Try.func10, Try.ntmps10
    go_wp2
    go_loopw [1, 5] (fun l i wr => ∃ j : Nat, j ≤ n ∧ l = .int .i64 (N - szAt L j) ∧ i = .int .i64 j ∧ Hid ((szAt L j : Int) ≤ N) ∧ Hid (Kept [] w wr)) (fun _ i _ => n - (intOf i).toNat)
    case atStart => exact ⟨0, Nat.zero_le _, by simp [szAt], rfl, by show _ ≤ _; simp [szAt]; exact q1, Kept.refl _ _⟩
    case round =>
      obtain ⟨j, hj, rfl, rfl, hS, hK⟩ := hrel
      by_cases hlt : j < n
      · obtain ⟨g, off, p, c', rfl, hc0, hc1, hc2, hl1, hl2, _⟩ := HR.out.2 j hlt
        have d0 := hK.out.cell hc0 (by simp)
        have d1 := hK.out.cell hc1 (by simp)
        have d2 := hK.out.cell hc2 (by simp)
        have hz : szAt L (j + 1) = szAt L j + ((L.getD j sh0).nm.length + (L.getD j sh0).n) := rfl
        have hle := szAt_mono L (show j + 1 ≤ n by omega)
        clear hc0 hc1 hc2
        generalize L.getD j sh0 = s at *
        obtain ⟨nm, k, m, xs⟩ := s
        simp only at d0 d1 d2 hl1 hl2 hz
        have hsz := strB_size nm
        generalize strB nm = S at *
        rw [← hsz] at hl1 hz
        have P := Lib.hid (And.intro hl1 hl2)
        generalize szAt L j = u at *
        obtain ⟨K, hKK⟩ : ∃ K, N - (u : Int) = K := ⟨_, rfl⟩
        have hS' := hS.out
        have HN' := HN.out
        have Q := Lib.hid (show 0 ≤ K ∧ K ≤ 1048576 by omega)
        have HZ := Lib.hid hz
        have HLE := Lib.hid hle
        rw [hKK]
        by_cases hf : ((S.size + m : Nat) : Int) ≤ K
        · have hv := Lib.hid (leftS_yes hf)
          have hS2 : Hid ((szAt L (j + 1) : Int) ≤ N) := by show _ ≤ _; omega
          have hK9 : K - ((S.size + m : Nat) : Int) = N - szAt L (j + 1) := by omega
          have HK9 := Lib.hid hK9
          have hnn : ¬ N - (szAt L (j + 1) : Int) < 0 := by omega
          clear hf hl1 hl2 hz hle hKK hS' HN' hK9 hsz
          go_wp2_with fail
          refine (szNamed_any _ _ _ _ _ _ _ Q.out.1 Q.out.2 P.out.1 P.out.2).mono ?_
          rintro e w1 ⟨rfl, h1⟩
          rw [hv.out, HK9.out]
          have hK2 := Lib.hid (hK.out.trans0 h1)
          clear h1 hK
          go_wp2_with fail
          go_roundw
          case rel => exact ⟨j + 1, by omega, rfl, by go_num, hS2, hK2⟩
          case measure => simp [intOf]; omega
        · have hv := Lib.hid (leftS_no hf)
          have hv2 : Hid (leftS M (n + szAt L n) = -1) := leftS_no (by have := HNM.out; omega)
          clear hf hl1 hl2 hz hle hKK hS' HN' hsz
          go_wp2_with fail
          refine (szNamed_any _ _ _ _ _ _ _ Q.out.1 Q.out.2 P.out.1 P.out.2).mono ?_
          rintro e w1 ⟨rfl, h1⟩
          rw [hv.out]
          have hK2 := Lib.hid (hK.out.trans0 h1)
          clear h1 hK
          go_wp2_with fail
          go_ret
          exact ⟨by rw [hv2.out]; rfl, hK2.out⟩
      · obtain rfl : j = n := by omega
        have hv2 : Hid (leftS M (j + szAt L j) = N - szAt L j) := by
          have := HNM.out
          have := hS.out
          show _ = _
          rw [leftS_yes (by omega)]; omega
        go_wp2
        go_ret
        exact ⟨by rw [hv2.out]; rfl, hK.out⟩
  · have hv : Hid (leftS M (n + szAt L n) = -1) := leftS_no (by omega)
    have q2 : M - (n : Int) < 0 := by omega
    have q4 : IntKind.i64.wrap (M - (n : Int)) = M - n := IntWalk.i64_in _ (by omega)
    clear h
    go_enter Try.func10, Try.ntmps10
    go_wp2
    go_ret
    exact ⟨by rw [hv.out]; rfl, Kept.refl _ _⟩

set_option maxHeartbeats 1000000 in
theorem szStore_any (a : Option Addr) (n c : Nat) (L : List Sh) (M : Int) (w : World) (h : ArgSt w a n L) (h0 : 0 ≤ M) (hM : M ≤ 1048576) :
    Calls Try.prog 4 #[.agg #[.slice a n c], .int .i64 M] w (Ans w (.int .i64 (leftS M (n + szAt L n)))) := by
  have H := Lib.hid (And.intro h0 hM)
  have HA := Lib.hid (h.kept0 ((Kept.refl [] w).alloc (.cells #[.slice a n c] 24)))
  clear h
  generalize hv : leftS M (n + szAt L n) = v
  have HV := Lib.hid hv
  have hvv : v < 0 → v = -1 := by
    intro hneg
    subst hv
    unfold leftS at hneg ⊢
    split
    · rename_i hh; rw [if_pos hh] at hneg; omega
    · rfl
  have HVV := Lib.hid hvv
  clear hv hvv h0 hM
  go_enter Try.func4, Try.ntmps4
  go_wp2_with fail
  refine (szNamedS_any _ _ _ _ _ _ HA.out H.out.1 H.out.2).mono ?_
  rintro e w1 ⟨rfl, h1⟩
  rw [HV.out]
  have K1 := Lib.hid h1.peel
  clear h1
  by_cases hneg : v < 0
  · obtain rfl := HVV.out hneg
    go_wp2_with fail
    go_ret
    exact ⟨rfl, K1.out⟩
  · go_wp2_with fail
    go_ret
    exact ⟨rfl, K1.out⟩

end Go.Proofs.Ytbljpeefekhoead
