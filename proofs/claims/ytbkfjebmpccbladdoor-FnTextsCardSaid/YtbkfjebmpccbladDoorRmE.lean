/-
  Contract of the model's ReadMetres. Condition: the text is no longer than a million and a half.
-/
import Derived.Test.YtbkfjebmpccbladDoorRdD
import Derived.Test.YtbkfjebmpccbladDoorRmP
namespace Go.Proofs.YtbkfjebmpccbladDoor
open Go.RowKit

theorem intBoxN {w w1 : World} {T : TypeId} (hk : Kept [] (w.alloc (.cells #[.int .i64 0, .int .i64 0] T)) w1) :
    (w1.cell? ⟨w.heap.size, 0, none⟩ = some (.int .i64 0) ∧ w1.cell? ⟨w.heap.size, 1, none⟩ = some (.int .i64 0)) ∧ w1.frozen? ⟨w.heap.size, 0, none⟩ = false ∧ w1.frozen? ⟨w.heap.size, 1, none⟩ = false :=
  ⟨⟨(hk.top rfl (by simp) 0 (v := .int .i64 0) rfl).1, (hk.top rfl (by simp) 1 (v := .int .i64 0) rfl).1⟩, (hk.top rfl (by simp) 0 (v := .int .i64 0) rfl).2.1, (hk.top rfl (by simp) 1 (v := .int .i64 0) rfl).2.1⟩
theorem rm_dec (l : List UInt8) : (decB 10 6 l = true ∧ rmC l = 0 ∧ rmV l = decV 10 6 l) ∨ (decB 10 6 l = false ∧ rmC l = 5 ∧ rmV l = 0) := by
  have hf := fullM_eq l
  cases hd : decM 10 6 l with
  | none =>
    rw [hd] at hf
    exact .inr ⟨(dec_none hd).2, rm_no hf⟩
  | some v =>
    rw [hd] at hf
    obtain ⟨h1, h2⟩ := dec_some hd
    refine .inl ⟨h2, ?_⟩
    rw [h1]
    exact rm_yes hf
theorem l8Decimal_106 (l : List UInt8) (w : World) (hl : l.length ≤ 1500000) :
    Calls Tryd.prog 27 #[.string (strB l), .int .i64 10, .int .i64 6] w (Ans w (.tuple #[.int .i64 (decV 10 6 l), .bool (decB 10 6 l)])) :=
  l8Decimal_any l 10 6 w hl (by decide) (by decide) (by decide)

set_option maxHeartbeats 1000000 in
theorem sReadMetres_any (l : List UInt8) (w : World) (hl : l.length ≤ 1500000) :
    Calls Tryd.prog 12 #[.string (strB l)] w (Ans w (.agg #[.int .i64 (rmC l), .int .i64 (rmV l)])) := by
  rcases rm_dec l with ⟨hb, hc, hv⟩ | ⟨hb, hc, hv⟩
  · obtain ⟨v, hv2⟩ : ∃ v, decV 10 6 l = v := ⟨_, rfl⟩
    rw [hv2] at hv
    have HB := Lib.hid hb
    have HV := Lib.hid hv2
    have HC := Lib.hid hc
    have HW := Lib.hid hv
    clear hb hv2 hc hv
    go_enter Tryd.func12, Tryd.ntmps12
    go_wp2_with fail
    refine (l8Decimal_106 _ _ hl).mono ?_
    rintro e w1 ⟨rfl, k1⟩
    rw [HB.out, HV.out]
    obtain ⟨⟨c0, c1⟩, f0, f1⟩ := intBoxN k1
    have K1 := Lib.hid k1
    clear k1
    go_wp2_with fail
    obtain ⟨_, s0, s1⟩ := cells2 (.int .i64 0) (.int .i64 v) c0 c1
    refine bodyPost_ret (v := .agg #[.int .i64 0, .int .i64 v]) (by simp [results, Tryd.results12, go_sem, s0, s1]) rfl ⟨by rw [HC.out, HW.out], ?_⟩
    exact (K1.out.peel.setCell _ _ (by simp)).setCell _ _ (by simp)
  · have HB := Lib.hid hb
    have HC := Lib.hid hc
    have HW := Lib.hid hv
    obtain ⟨v, hv2⟩ : ∃ v, decV 10 6 l = v := ⟨_, rfl⟩
    have HV := Lib.hid hv2
    clear hb hc hv hv2
    go_enter Tryd.func12, Tryd.ntmps12
    go_wp2_with fail
    refine (l8Decimal_106 _ _ hl).mono ?_
    rintro e w1 ⟨rfl, k1⟩
    rw [HB.out, HV.out]
    obtain ⟨⟨c0, c1⟩, f0, f1⟩ := intBoxN k1
    have K1 := Lib.hid k1
    clear k1
    go_wp2_with fail
    obtain ⟨_, s0, s1⟩ := cells2 (.int .i64 5) (.int .i64 0) c0 c1
    refine bodyPost_ret (v := .agg #[.int .i64 5, .int .i64 0]) (by simp [results, Tryd.results12, go_sem, s0, s1]) rfl ⟨by rw [HC.out, HW.out], ?_⟩
    exact (K1.out.peel.setCell _ _ (by simp)).setCell _ _ (by simp)

end Go.Proofs.YtbkfjebmpccbladDoor
