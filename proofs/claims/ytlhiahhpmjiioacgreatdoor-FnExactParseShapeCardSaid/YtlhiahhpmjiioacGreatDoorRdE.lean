/-
  Contract of the model's ReadCoord. Condition: the text is no longer than a million and a half.
-/
import Derived.Test.YtlhiahhpmjiioacGreatDoorRdD
namespace Go.Proofs.YtlhiahhpmjiioacGreatDoor
open Go.RowKit

theorem intBoxM {w w1 : World} {T : TypeId} (hk : Kept [] (w.alloc (.cells #[.int .i64 0, .int .i64 0] T)) w1) :
    (w1.cell? ⟨w.heap.size, 0, none⟩ = some (.int .i64 0) ∧ w1.cell? ⟨w.heap.size, 1, none⟩ = some (.int .i64 0)) ∧ w1.frozen? ⟨w.heap.size, 0, none⟩ = false ∧ w1.frozen? ⟨w.heap.size, 1, none⟩ = false :=
  ⟨⟨(hk.top rfl (by simp) 0 (v := .int .i64 0) rfl).1, (hk.top rfl (by simp) 1 (v := .int .i64 0) rfl).1⟩, (hk.top rfl (by simp) 0 (v := .int .i64 0) rfl).2.1, (hk.top rfl (by simp) 1 (v := .int .i64 0) rfl).2.1⟩

theorem strB_from {l : List UInt8} {S : ByteArray} (h : S.data.toList = l) (n : Nat) : S.extract n S.size = strB (l.drop n) := by subst h; exact Lib.extract_from _ _
theorem rc_dec {l r : List UInt8} {b : Bool} (h : takeR 45 l = (b, r)) : (decB 6 9 r = true ∧ rcC l = 0 ∧ rcV l = (if b = true then -decV 6 9 r else decV 6 9 r)) ∨ (decB 6 9 r = false ∧ rcC l = 5 ∧ rcV l = 0) := by
  have hf := fullC_eq l
  rw [h] at hf
  cases hd : decM 6 9 r with
  | none =>
    rw [hd] at hf
    exact .inr ⟨(dec_none hd).2, rc_no hf⟩
  | some v =>
    rw [hd] at hf
    obtain ⟨h1, h2⟩ := dec_some hd
    refine .inl ⟨h2, ?_⟩
    rw [h1]
    exact rc_yes hf
theorem decV_lt (r : List UInt8) : 0 ≤ decV 6 9 r ∧ decV 6 9 r < 1000000000000000 := by
  cases hd : decM 6 9 r with
  | none => rw [(dec_none hd).1]; omega
  | some v =>
    rw [(dec_some hd).1]
    unfold decM at hd
    split at hd
    · split at hd
      · rename_i x _ ho
        have ho := okNum_iff.1 ho
        have h1 := numL_lt ho.2.2 ho.2.1
        simp only [Option.some.injEq] at hd
        have : (10 : Nat) ^ 9 = 1000000000 := by decide
        have h6 : (10 : Nat) ^ 6 = 1000000 := by decide
        rw [this] at hd
        rw [h6] at h1
        omega
      · cases hd
    · split at hd
      · rename_i x y _ ho
        obtain ⟨hx, hy⟩ := Bool.and_eq_true .. ▸ ho
        have ho := okNum_iff.1 hx
        have h1 := numL_lt ho.2.2 ho.2.1
        have hy2 := okNum_iff.1 hy
        have hz := okNum_iff.1 (ok_filled (p := 9) (by omega) hy2.2.1 hy2.2.2)
        have h2 := numL_lt hz.2.2 hz.2.1
        simp only [Option.some.injEq] at hd
        have : (10 : Nat) ^ 9 = 1000000000 := by decide
        have h6 : (10 : Nat) ^ 6 = 1000000 := by decide
        rw [this] at hd h2
        rw [h6] at h1
        omega
      · cases hd
    · cases hd

set_option maxHeartbeats 1000000 in
theorem sReadCoord_any (l : List UInt8) (w : World) (hl : l.length ≤ 1500000) :
    Calls Tryz.prog 39 #[.string (strB l)] w (Ans w (.agg #[.int .i64 (rcC l), .int .i64 (rcV l)])) := by
  obtain ⟨b, r, hr⟩ : ∃ b r, takeR 45 l = (b, r) := ⟨_, _, rfl⟩
  have hd := rc_dec hr
  obtain ⟨S, hS⟩ : ∃ S, strB l = S := ⟨_, rfl⟩
  have hsz : S.size = l.length := by rw [← hS, strB_size]
  have hSz : S.size ≤ 1500000 := by omega
  have hbs : S.data.toList = l := by rw [← hS]; rfl
  have hrl : r.length ≤ 1500000 := by
    have : (takeR 45 l).2.length ≤ l.length := by unfold takeR; split <;> simp
    rw [hr] at this; simp only at this; omega
  have hvb := decV_lt r
  cases b
  · have hrl2 : r = l := by
      have h1 := congrArg Prod.snd hr
      have h2 := congrArg Prod.fst hr
      unfold takeR at h1 h2
      split at h2
      · cases h2
      · rename_i hn; rw [if_neg hn] at h1; exact h1.symm
    have hn : ¬ l.head? = some 45 := by
      intro h; rw [takeR_yes h] at hr; cases hr
    subst hrl2
    have HS := Lib.hid hS
    by_cases h0 : S.size = 0
    · have hp0 : decide (0 < S.size) = false := decide_eq_false (by omega)
      rw [hS]
      clear hS hn hsz
      rcases hd with ⟨hb, hc, hv⟩ | ⟨hb, hc, hv⟩
      · obtain ⟨v, hv2⟩ : ∃ v, decV 6 9 r = v := ⟨_, rfl⟩
        rw [hv2] at hvb hv
        have e1 : IntKind.i64.wrap (-v) = -v := IntWalk.i64_in _ (by omega)
        have HB := Lib.hid hb
        have HV := Lib.hid hv2
        have HC := Lib.hid hc
        have HW := Lib.hid hv
        clear hb hv2 hc hv hr
        go_enter Tryz.func39, Tryz.ntmps39
        go_wp2_with fail
        rw [← HS.out]
        refine (l8Decimal_any _ 6 9 _ (by assumption) (by omega) (by omega) (by omega)).mono ?_
        rintro e w1 ⟨rfl, k1⟩
        rw [HB.out, HV.out]
        obtain ⟨⟨c0, c1⟩, f0, f1⟩ := intBoxM k1
        have K1 := Lib.hid k1
        clear k1
        go_wp2_with fail
        obtain ⟨_, s0, s1⟩ := cells2 (.int .i64 0) (.int .i64 (v)) c0 c1
        refine bodyPost_ret (v := .agg #[.int .i64 0, .int .i64 (v)]) (by simp [results, Tryz.results39, go_sem, s0, s1]) rfl ⟨by rw [HC.out, HW.out]; rfl, ?_⟩
        exact (K1.out.peel.setCell _ _ (by simp)).setCell _ _ (by simp)
      · have HB := Lib.hid hb
        have HC := Lib.hid hc
        have HW := Lib.hid hv
        obtain ⟨v, hv2⟩ : ∃ v, decV 6 9 r = v := ⟨_, rfl⟩
        have HV := Lib.hid hv2
        clear hb hc hv hv2 hr hvb
        go_enter Tryz.func39, Tryz.ntmps39
        go_wp2_with fail
        rw [← HS.out]
        refine (l8Decimal_any _ 6 9 _ (by assumption) (by omega) (by omega) (by omega)).mono ?_
        rintro e w1 ⟨rfl, k1⟩
        rw [HB.out, HV.out]
        obtain ⟨⟨c0, c1⟩, f0, f1⟩ := intBoxM k1
        have K1 := Lib.hid k1
        clear k1
        go_wp2_with fail
        obtain ⟨_, s0, s1⟩ := cells2 (.int .i64 5) (.int .i64 0) c0 c1
        refine bodyPost_ret (v := .agg #[.int .i64 5, .int .i64 0]) (by simp [results, Tryz.results39, go_sem, s0, s1]) rfl ⟨by rw [HC.out, HW.out], ?_⟩
        exact (K1.out.peel.setCell _ _ (by simp)).setCell _ _ (by simp)
    · have hp0 : 0 < S.size := by omega
      have hby := byte_at hbs hp0
      generalize hB0 : S[0] = b0 at hby
      have hb45 : ¬ (b0.toNat : Int) = 45 := by
        intro h
        have : b0 = 45 := UInt8.toNat_inj.1 (by show b0.toNat = 45; omega)
        subst this
        exact hn (by rw [List.head?_eq_getElem?]; exact hby)
      have hb45' : ((b0.toNat : Int) == 45) = false := by rw [beq_eq_false_iff_ne]; exact hb45
      have hp1 : (0 : Int) < S.size := by omega
      rw [hS]
      clear hS hn hsz hby h0
      rcases hd with ⟨hb, hc, hv⟩ | ⟨hb, hc, hv⟩
      · obtain ⟨v, hv2⟩ : ∃ v, decV 6 9 r = v := ⟨_, rfl⟩
        rw [hv2] at hvb hv
        have e1 : IntKind.i64.wrap (-v) = -v := IntWalk.i64_in _ (by omega)
        have HB := Lib.hid hb
        have HV := Lib.hid hv2
        have HC := Lib.hid hc
        have HW := Lib.hid hv
        clear hb hv2 hc hv hr
        go_enter Tryz.func39, Tryz.ntmps39
        go_wp2_with fail
        rw [← HS.out]
        refine (l8Decimal_any _ 6 9 _ (by assumption) (by omega) (by omega) (by omega)).mono ?_
        rintro e w1 ⟨rfl, k1⟩
        rw [HB.out, HV.out]
        obtain ⟨⟨c0, c1⟩, f0, f1⟩ := intBoxM k1
        have K1 := Lib.hid k1
        clear k1
        go_wp2_with fail
        obtain ⟨_, s0, s1⟩ := cells2 (.int .i64 0) (.int .i64 (v)) c0 c1
        refine bodyPost_ret (v := .agg #[.int .i64 0, .int .i64 (v)]) (by simp [results, Tryz.results39, go_sem, s0, s1]) rfl ⟨by rw [HC.out, HW.out]; rfl, ?_⟩
        exact (K1.out.peel.setCell _ _ (by simp)).setCell _ _ (by simp)
      · have HB := Lib.hid hb
        have HC := Lib.hid hc
        have HW := Lib.hid hv
        obtain ⟨v, hv2⟩ : ∃ v, decV 6 9 r = v := ⟨_, rfl⟩
        have HV := Lib.hid hv2
        clear hb hc hv hv2 hr hvb
        go_enter Tryz.func39, Tryz.ntmps39
        go_wp2_with fail
        rw [← HS.out]
        refine (l8Decimal_any _ 6 9 _ (by assumption) (by omega) (by omega) (by omega)).mono ?_
        rintro e w1 ⟨rfl, k1⟩
        rw [HB.out, HV.out]
        obtain ⟨⟨c0, c1⟩, f0, f1⟩ := intBoxM k1
        have K1 := Lib.hid k1
        clear k1
        go_wp2_with fail
        obtain ⟨_, s0, s1⟩ := cells2 (.int .i64 5) (.int .i64 0) c0 c1
        refine bodyPost_ret (v := .agg #[.int .i64 5, .int .i64 0]) (by simp [results, Tryz.results39, go_sem, s0, s1]) rfl ⟨by rw [HC.out, HW.out], ?_⟩
        exact (K1.out.peel.setCell _ _ (by simp)).setCell _ _ (by simp)
  · have hh : l.head? = some 45 ∧ r = l.drop 1 := by
      have h1 := congrArg Prod.snd hr
      have h2 := congrArg Prod.fst hr
      unfold takeR at h1 h2
      split at h2
      · rename_i hn; rw [if_pos hn] at h1; exact ⟨hn, h1.symm⟩
      · cases h2
    have hp0 : 0 < S.size := by
      cases l with
      | nil => cases hh.1
      | cons b l => rw [hsz]; simp
    have hby := byte_at hbs hp0
    generalize hB0 : S[0] = b0 at hby
    have hb45 : (b0.toNat : Int) = 45 := by
      have h1 := hh.1
      rw [List.head?_eq_getElem?, hby] at h1
      have := Option.some.inj h1
      subst this; rfl
    have hx : S.extract 1 S.size = strB r := by rw [hh.2]; exact strB_from hbs 1
    have hp1 : (0 : Int) < S.size := by omega
    have hp2 : (1 : Int) ≤ S.size := by omega
    rw [hS]
    clear hS hsz hby hh hbs
    rcases hd with ⟨hb, hc, hv⟩ | ⟨hb, hc, hv⟩
    · obtain ⟨v, hv2⟩ : ∃ v, decV 6 9 r = v := ⟨_, rfl⟩
      rw [hv2] at hvb hv
      have e1 : IntKind.i64.wrap (-v) = -v := IntWalk.i64_in _ (by omega)
      have HB := Lib.hid hb
      have HV := Lib.hid hv2
      have HC := Lib.hid hc
      have HW := Lib.hid hv
      clear hb hv2 hc hv hr
      go_enter Tryz.func39, Tryz.ntmps39
      go_wp2_with fail
      refine (l8Decimal_any _ 6 9 _ (by assumption) (by omega) (by omega) (by omega)).mono ?_
      rintro e w1 ⟨rfl, k1⟩
      rw [HB.out, HV.out]
      obtain ⟨⟨c0, c1⟩, f0, f1⟩ := intBoxM k1
      have K1 := Lib.hid k1
      clear k1
      go_wp2_with fail
      obtain ⟨_, s0, s1⟩ := cells2 (.int .i64 0) (.int .i64 (-v)) c0 c1
      refine bodyPost_ret (v := .agg #[.int .i64 0, .int .i64 (-v)]) (by simp [results, Tryz.results39, go_sem, s0, s1]) rfl ⟨by rw [HC.out, HW.out]; rfl, ?_⟩
      exact (K1.out.peel.setCell _ _ (by simp)).setCell _ _ (by simp)
    · have HB := Lib.hid hb
      have HC := Lib.hid hc
      have HW := Lib.hid hv
      obtain ⟨v, hv2⟩ : ∃ v, decV 6 9 r = v := ⟨_, rfl⟩
      have HV := Lib.hid hv2
      clear hb hc hv hv2 hr hvb
      go_enter Tryz.func39, Tryz.ntmps39
      go_wp2_with fail
      refine (l8Decimal_any _ 6 9 _ (by assumption) (by omega) (by omega) (by omega)).mono ?_
      rintro e w1 ⟨rfl, k1⟩
      rw [HB.out, HV.out]
      obtain ⟨⟨c0, c1⟩, f0, f1⟩ := intBoxM k1
      have K1 := Lib.hid k1
      clear k1
      go_wp2_with fail
      obtain ⟨_, s0, s1⟩ := cells2 (.int .i64 5) (.int .i64 0) c0 c1
      refine bodyPost_ret (v := .agg #[.int .i64 5, .int .i64 0]) (by simp [results, Tryz.results39, go_sem, s0, s1]) rfl ⟨by rw [HC.out, HW.out], ?_⟩
      exact (K1.out.peel.setCell _ _ (by simp)).setCell _ _ (by simp)

end Go.Proofs.YtlhiahhpmjiioacGreatDoor
