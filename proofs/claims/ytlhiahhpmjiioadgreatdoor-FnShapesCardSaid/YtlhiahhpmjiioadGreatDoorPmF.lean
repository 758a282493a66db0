/-
  Several of my texts joined: the contracts of the functions that they name, each with the conditions that it states.
-/
import Derived.Test.YtlhiahhpmjiioadGreatDoorPmC
import Derived.Test.YtlhiahhpmjiioadGreatDoorPmD
import Derived.Test.YtlhiahhpmjiioadGreatDoorPsB
import Derived.Test.YtlhiahhpmjiioadGreatDoorPrtC
namespace Go.Proofs.YtlhiahhpmjiioadGreatDoor
open Go.RowKit

/-- What l8Parse answers. -/
def ParP (l : List UInt8) (w : World) (e : Ending) (w' : World) : Prop :=
  (parseM l = none ∧ (∃ k0 : Int, e = .returned (.tuple #[.agg #[.int .i64 k0, .slice none 0 0], .bool false])) ∧ Kept [] w w') ∨
  ∃ k ps v, parseM l = some (k, ps) ∧ ps.length ≤ 2000000 ∧ e = .returned (.tuple #[.agg #[.int .i64 k, v], .bool true]) ∧ OwP w.heap.size w' v ps ∧ Kept [] w w'
theorem nmK_len (k : Int) : (nmK k).length ≤ 10 := by
  unfold nmK
  split
  · decide
  · split
    · decide
    · split <;> decide
theorem nmK_pos (k : Int) : 0 < (nmK k).length := by
  unfold nmK
  split
  · decide
  · split
    · decide
    · split <;> decide
theorem parse_none {l : List UInt8} (h : kindR (stripM l) = none) : parseM l = none := by unfold parseM; rw [h]; rfl
theorem parse_in {l t : List UInt8} {k : Int} (h : kindR (stripM l) = some (k, t)) (hi : innerM t = none) : parseM l = none := by unfold parseM; rw [h]; simp only [Option.bind_some, hi]; rfl
theorem parse_in2 {l t i : List UInt8} (h : kindR (stripM l) = some (4, t)) (hi : innerM t = some i) (hj : innerM i = none) : parseM l = none := by unfold parseM; rw [h]; simp only [Option.bind_some, hi, if_true, hj]; rfl
theorem parse_ring {l t i j : List UInt8} (h : kindR (stripM l) = some (4, t)) (hi : innerM t = some i) (hj : innerM i = some j) : parseM l = (pointsM j).map fun q => (4, q) := by unfold parseM; rw [h]; simp only [Option.bind_some, hi, if_true, hj]
theorem parse_other {l t i : List UInt8} {k : Int} (h : kindR (stripM l) = some (k, t)) (h4 : k ≠ 4) (hi : innerM t = some i) : parseM l = (pointsM i).map fun q => (k, q) := by unfold parseM; rw [h]; simp only [Option.bind_some, hi, if_neg h4]
theorem inner_len {l i : List UInt8} (h : innerM l = some i) : i.length ≤ l.length := by
  obtain ⟨b, b', _, _, e⟩ := inner_some h
  have := congrArg List.length e
  simp only [List.length_append, List.length_cons] at this; omega
theorem innS_some {l i : List UInt8} (h : innerM l = some i) : innS l = strB i := by unfold innS; rw [h]

set_option maxHeartbeats 1000000 in
theorem l8Parse_any (l : List UInt8) (w : World) (hl : l.length ≤ 1500000) :
    Calls Tryz.prog 32 #[.string (strB l)] w (ParP l w) := by
  have hTl := blk_endB_len l
  obtain ⟨T, hT⟩ : ∃ T, stripM l = T := ⟨_, rfl⟩
  have HT := Lib.hid hT
  rw [hT] at hTl
  obtain ⟨S, hS⟩ : ∃ S, strB T = S := ⟨_, rfl⟩
  have hsz : S.size = T.length := by rw [← hS, strB_size]
  have hbs : Hid (S.data.toList = T) := by show _ = _; rw [← hS]; rfl
  have HS := Lib.hid hS
  have HSZ := Lib.hid hsz
  have hSl : S.size ≤ 1500000 := by omega
  clear hT hS hsz
  go_enter Tryz.func32, Tryz.ntmps32
  go_wp2_with fail
  refine (l8Strip_any l _ hl).mono ?_
  rintro e w1 ⟨rfl, k1⟩
  rw [HT.out, HS.out]
  have K1 := Lib.hid k1
  clear k1
  go_wp2_with fail
  go_loopw [5] (fun i wr => ∃ k : Int, i = .int .i64 k ∧ 1 ≤ k ∧ k ≤ 5 ∧ Hid (∀ j : Int, 1 ≤ j → j < k → Lib.hasPrefix T (nmK j) = false) ∧ Hid (Kept [] (w.alloc (.cells #[.int .i64 0, .slice none 0 0] 26)) wr)) (fun i _ => 5 - (intOf i).toNat)
  case atStart => exact ⟨1, rfl, by omega, by omega, fun j h1 h2 => by omega, K1.out⟩
  case round =>
    obtain ⟨k, rfl, hk1, hk5, hF, hK⟩ := hrel
    by_cases h4 : k ≤ 4
    · have hin : inK k = true := decide_eq_true ⟨hk1, h4⟩
      obtain ⟨M, hM⟩ : ∃ M, strB (nmK k) = M := ⟨_, rfl⟩
      have hMs : M.size = (nmK k).length := by rw [← hM, strB_size]
      have hMl := nmK_len k
      have hMp := nmK_pos k
      have hM10 : M.size ≤ 10 := by omega
      have hM0 : 0 < M.size := by omega
      have HM := Lib.hid hM
      have HMS := Lib.hid hMs
      clear hM hMl hMp hMs
      have hnext : Lib.hasPrefix T (nmK k) = false → Hid (∀ j : Int, 1 ≤ j → j < k + 1 → Lib.hasPrefix T (nmK j) = false) := by
        intro hb j h1 h2
        by_cases hj : j = k
        · subst hj; exact hb
        · exact hF.out j h1 (by omega)
      by_cases hlen : S.size < M.size
      · have hlen' : (S.size : Int) < M.size := by omega
        have hF2 := hnext (by
          cases hb : Lib.hasPrefix T (nmK k) with
          | false => rfl
          | true =>
            obtain ⟨t, ht⟩ := hasP_iff.1 hb
            have h1 := congrArg List.length ht
            rw [List.length_append] at h1
            have h2 := HMS.out; have h3 := HSZ.out; omega)
        clear hnext
        go_wp2_with fail
        refine (l8Name_any k _ hin).mono ?_
        rintro e w2 ⟨rfl, k2⟩
        rw [nameT_eq hk1 h4, HM.out]
        have K2 := Lib.hid (hK.out.trans0 k2)
        clear k2 hin
        go_wp2_with fail
        go_roundw
        case rel => exact ⟨k + 1, by go_num, by omega, by omega, hF2.out, K2.out⟩
        case measure => simp [intOf] <;> omega
      · have hlen' : ¬ (S.size : Int) < M.size := by omega
        have hlenI : (M.size : Int) ≤ S.size := by omega
        have hlenN : M.size ≤ S.size := by omega
        have hx := strB_takeM T hbs.out M.size
        have hd := strB_dropM T hbs.out M.size
        have e1 : (strB (T.take M.size)).toList = T.take M.size := ByteArray.toList_eq _
        have e2 : M.toList = nmK k := by rw [← HM.out]; exact ByteArray.toList_eq _
        by_cases hb : Lib.hasPrefix T (nmK k) = true
        · obtain ⟨t, ht⟩ := hasP_iff.1 hb
          have hkr : Hid (kindR (stripM l) = some (k, t)) := by show _ = _; rw [HT.out, ht]; exact kindR_at k hk1 h4 t
          have htl : t.length ≤ T.length := by rw [ht, List.length_append]; omega
          have hxn : T.take M.size = nmK k := by rw [HMS.out, ht]; simp
          have hdn : T.drop M.size = t := by rw [HMS.out, ht]; simp
          rw [hxn] at hx
          rw [hdn] at hd
          rw [HM.out] at hx
          have hil0 := Lib.hid (fun i (hi : innerM t = some i) => inner_len hi)
          clear hnext hb e1 e2 hxn hdn ht
          go_wp2_with fail
          refine (l8Name_any k _ hin).mono ?_
          rintro e w2 ⟨rfl, k2⟩
          rw [nameT_eq hk1 h4, HM.out]
          have K2 := Lib.hid (hK.out.trans0 k2)
          clear k2 hin
          go_wp2_with fail
          refine (l8Inner_any t _ (by omega)).mono ?_
          rintro e w3 ⟨rfl, k3⟩
          have K3 := Lib.hid (K2.out.trans0 k3)
          clear k3
          cases hi : innerM t with
          | none =>
            have HV := Lib.hid (parse_in hkr.out hi)
            obtain ⟨Z, hZ⟩ : ∃ Z, innS t = Z := ⟨_, rfl⟩
            rw [hZ]
            have KK := K3
            clear hi hZ
            rw [show (Option.none : Option (List UInt8)).isSome = false from rfl]
            obtain ⟨c0, f0, z0⟩ := KK.out.top (g := w.heap.size) rfl (by simp) 0 (v := .int .i64 0) rfl
            obtain ⟨c1, f1, z1⟩ := KK.out.top (g := w.heap.size) rfl (by simp) 1 (v := .slice none 0 0) rfl
            go_wp2_with fail
            obtain ⟨_, s0, s1⟩ := cells2 (.int .i64 0) (.slice none 0 0) c0 c1
            refine bodyPost_ret (v := .tuple #[.agg #[.int .i64 0, .slice none 0 0], .bool false]) (by simp [results, Tryz.results32, go_sem, s0, s1]) rfl (Or.inl ⟨HV.out, ⟨0, rfl⟩, ?_⟩)
            exact (KK.out.peel.setCell _ _ (by simp)).setCell _ _ (by simp)
          | some i =>
            have hil := Lib.hid (show i.length ≤ 1500000 by have := hil0.out i hi; omega)
            rw [innS_some hi, show (some i).isSome = true from rfl]
            by_cases hk4 : k = 4
            · subst hk4
              go_wp2_with fail
              refine (l8Inner_any i _ hil.out).mono ?_
              rintro e w4 ⟨rfl, k4⟩
              have K4 := Lib.hid (K3.out.trans0 k4)
              clear k4
              cases hj : innerM i with
              | none =>
                have HV := Lib.hid (parse_in2 hkr.out hi hj)
                obtain ⟨Z, hZ⟩ : ∃ Z, innS i = Z := ⟨_, rfl⟩
                rw [hZ]
                have KK := K4
                clear hi hj hZ
                rw [show (Option.none : Option (List UInt8)).isSome = false from rfl]
                obtain ⟨c0, f0, z0⟩ := KK.out.top (g := w.heap.size) rfl (by simp) 0 (v := .int .i64 0) rfl
                obtain ⟨c1, f1, z1⟩ := KK.out.top (g := w.heap.size) rfl (by simp) 1 (v := .slice none 0 0) rfl
                go_wp2_with fail
                obtain ⟨_, s0, s1⟩ := cells2 (.int .i64 0) (.slice none 0 0) c0 c1
                refine bodyPost_ret (v := .tuple #[.agg #[.int .i64 0, .slice none 0 0], .bool false]) (by simp [results, Tryz.results32, go_sem, s0, s1]) rfl (Or.inl ⟨HV.out, ⟨0, rfl⟩, ?_⟩)
                exact (KK.out.peel.setCell _ _ (by simp)).setCell _ _ (by simp)
              | some j =>
                have HV0 := Lib.hid (parse_ring hkr.out hi hj)
                have hil := Lib.hid (show j.length ≤ 1500000 by have := inner_len hj; have := hil.out; omega)
                rw [innS_some hj, show (some j).isSome = true from rfl]
                clear hi hj
                go_wp2_with fail
                refine (l8Points_any j _ (by have := hil.out; omega)).mono ?_
                rintro e w5 hd
                rcases hd with ⟨hn, rfl, k5⟩ | ⟨ps, v, hq, hpl, rfl, ho, k5⟩
                · have HV : Hid (parseM l = none) := by show _ = _; rw [HV0.out, hn]; rfl
                  have KK := Lib.hid (K4.out.trans0 k5)
                  clear k5 hn
                  obtain ⟨c0, f0, z0⟩ := KK.out.top (g := w.heap.size) rfl (by simp) 0 (v := .int .i64 0) rfl
                  obtain ⟨c1, f1, z1⟩ := KK.out.top (g := w.heap.size) rfl (by simp) 1 (v := .slice none 0 0) rfl
                  go_wp2_with fail
                  obtain ⟨_, s0, s1⟩ := cells2 (.int .i64 4) (.slice none 0 0) c0 c1
                  refine bodyPost_ret (v := .tuple #[.agg #[.int .i64 4, .slice none 0 0], .bool false]) (by simp [results, Tryz.results32, go_sem, s0, s1]) rfl (Or.inl ⟨HV.out, ⟨4, rfl⟩, ?_⟩)
                  exact (KK.out.peel.setCell _ _ (by simp)).setCell _ _ (by simp)
                · have HV : Hid (parseM l = some (4, ps)) := by show _ = _; rw [HV0.out, hq]; rfl
                  have KK := Lib.hid (K4.out.trans0 k5)
                  have hw4 : Hid (w.heap.size + 1 ≤ w4.heap.size) := by have := K4.out.size; show _ ≤ _; simpa using this
                  have HO := Lib.hid (ho.mono hw4.out)
                  obtain ⟨a5, n5, hv5⟩ := ho.sl
                  subst hv5
                  clear k5 hq ho
                  obtain ⟨c0, f0, z0⟩ := KK.out.top (g := w.heap.size) rfl (by simp) 0 (v := .int .i64 0) rfl
                  obtain ⟨c1, f1, z1⟩ := KK.out.top (g := w.heap.size) rfl (by simp) 1 (v := .slice none 0 0) rfl
                  go_wp2_with fail
                  obtain ⟨_, s0, s1⟩ := cells2 (.int .i64 4) (.slice a5 ps.length n5) c0 c1
                  refine bodyPost_ret (v := .tuple #[.agg #[.int .i64 4, .slice a5 ps.length n5], .bool true]) (by simp [results, Tryz.results32, go_sem, s0, s1]) rfl (Or.inr ⟨4, ps, _, HV.out, hpl, rfl, ?_, ?_⟩)
                  · exact (HO.out.kept (L := [w.heap.size]) (((Kept.refl _ _).setCell _ _ (by simp)).setCell _ _ (by simp)) (HO.out.notR (by omega))).mono (by omega)
                  · exact (KK.out.peel.setCell _ _ (by simp)).setCell _ _ (by simp)
            · have HV0 := Lib.hid (parse_other hkr.out hk4 hi)
              have hk4' : (k == 4) = false := by rw [beq_eq_false_iff_ne]; exact hk4
              have K4 := K3
              clear hi
              go_wp2_with fail
              refine (l8Points_any i _ (by have := hil.out; omega)).mono ?_
              rintro e w5 hd
              rcases hd with ⟨hn, rfl, k5⟩ | ⟨ps, v, hq, hpl, rfl, ho, k5⟩
              · have HV : Hid (parseM l = none) := by show _ = _; rw [HV0.out, hn]; rfl
                have KK := Lib.hid (K4.out.trans0 k5)
                clear k5 hn
                obtain ⟨c0, f0, z0⟩ := KK.out.top (g := w.heap.size) rfl (by simp) 0 (v := .int .i64 0) rfl
                obtain ⟨c1, f1, z1⟩ := KK.out.top (g := w.heap.size) rfl (by simp) 1 (v := .slice none 0 0) rfl
                go_wp2_with fail
                obtain ⟨_, s0, s1⟩ := cells2 (.int .i64 k) (.slice none 0 0) c0 c1
                refine bodyPost_ret (v := .tuple #[.agg #[.int .i64 k, .slice none 0 0], .bool false]) (by simp [results, Tryz.results32, go_sem, s0, s1]) rfl (Or.inl ⟨HV.out, ⟨k, rfl⟩, ?_⟩)
                exact (KK.out.peel.setCell _ _ (by simp)).setCell _ _ (by simp)
              · have HV : Hid (parseM l = some (k, ps)) := by show _ = _; rw [HV0.out, hq]; rfl
                have KK := Lib.hid (K4.out.trans0 k5)
                have hw4 : Hid (w.heap.size + 1 ≤ w3.heap.size) := by have := K4.out.size; show _ ≤ _; simpa using this
                have HO := Lib.hid (ho.mono hw4.out)
                obtain ⟨a5, n5, hv5⟩ := ho.sl
                subst hv5
                clear k5 hq ho
                obtain ⟨c0, f0, z0⟩ := KK.out.top (g := w.heap.size) rfl (by simp) 0 (v := .int .i64 0) rfl
                obtain ⟨c1, f1, z1⟩ := KK.out.top (g := w.heap.size) rfl (by simp) 1 (v := .slice none 0 0) rfl
                go_wp2_with fail
                obtain ⟨_, s0, s1⟩ := cells2 (.int .i64 k) (.slice a5 ps.length n5) c0 c1
                refine bodyPost_ret (v := .tuple #[.agg #[.int .i64 k, .slice a5 ps.length n5], .bool true]) (by simp [results, Tryz.results32, go_sem, s0, s1]) rfl (Or.inr ⟨k, ps, _, HV.out, hpl, rfl, ?_, ?_⟩)
                · exact (HO.out.kept (L := [w.heap.size]) (((Kept.refl _ _).setCell _ _ (by simp)).setCell _ _ (by simp)) (HO.out.notR (by omega))).mono (by omega)
                · exact (KK.out.peel.setCell _ _ (by simp)).setCell _ _ (by simp)
        · have hb' : Lib.hasPrefix T (nmK k) = false := by simpa using hb
          have hF2 := hnext hb'
          have hne : (List.take M.size T == nmK k) = false := by
            rw [beq_eq_false_iff_ne]
            intro e
            rw [HMS.out] at e
            have := preB_iff.1 (show preB (nmK k) T = true from decide_eq_true e)
            rw [hasP_iff.2 this] at hb'; cases hb'
          have hne2 : ((strB (T.take M.size)).toList == M.toList) = false := by rw [e1, e2]; exact hne
          obtain ⟨X, hX⟩ : ∃ X, strB (T.take M.size) = X := ⟨_, rfl⟩
          rw [hX] at hx hne2
          clear hnext hne hd e1 e2 hX hb hb'
          go_wp2_with fail
          refine (l8Name_any k _ hin).mono ?_
          rintro e w2 ⟨rfl, k2⟩
          rw [nameT_eq hk1 h4, HM.out]
          have K2 := Lib.hid (hK.out.trans0 k2)
          clear k2 hin
          go_wp2_with fail
          go_roundw
          case rel => exact ⟨k + 1, by go_num, by omega, by omega, hF2.out, K2.out⟩
          case measure => simp [intOf] <;> omega
    · have hkn : ¬ k ≤ 4 := h4
      have hnone : Hid (parseM l = none) := parse_none (by rw [HT.out]; exact kindR_none (fun j h1 h2 => hF.out j h1 (by omega)))
      obtain ⟨c0, f0, z0⟩ := hK.out.top (g := w.heap.size) rfl (by simp) 0 (v := .int .i64 0) rfl
      obtain ⟨c1, f1, z1⟩ := hK.out.top (g := w.heap.size) rfl (by simp) 1 (v := .slice none 0 0) rfl
      go_wp2_with fail
      obtain ⟨_, s0, s1⟩ := cells2 (.int .i64 0) (.slice none 0 0) c0 c1
      refine bodyPost_ret (v := .tuple #[.agg #[.int .i64 0, .slice none 0 0], .bool false]) (by simp [results, Tryz.results32, go_sem, s0, s1]) rfl (Or.inl ⟨hnone.out, ⟨0, rfl⟩, ?_⟩)
      exact (hK.out.peel.setCell _ _ (by simp)).setCell _ _ (by simp)

end Go.Proofs.YtlhiahhpmjiioadGreatDoor

namespace Go.Proofs.YtlhiahhpmjiioadGreatDoor
open Go.RowKit

set_option maxHeartbeats 1000000 in
theorem sParseShape_any (l : List UInt8) (w : World) (hl : l.length ≤ 1500000) :
    Calls Tryz.prog 11 #[.string (strB l)] w (ShpR w (parC l) (parS l)) := by
  obtain ⟨S, hS⟩ : ∃ S, strB l = S := ⟨_, rfl⟩
  have hsz : S.size = l.length := by rw [← hS, strB_size]
  by_cases hb : 600 < l.length
  · obtain ⟨q1, q2⟩ := par_many hb
    have hbb : (600 : Int) < S.size := by omega
    rw [q1, q2, hS]
    clear hS hsz q1 q2
    go_enter Tryz.func11, Tryz.ntmps11
    go_wp2_with fail
    refine bodyPost_ret (v := .agg #[.int .i64 2, .int .i64 0, .slice none 0 0]) (by simp [results, Tryz.results11, go_sem]) rfl ⟨_, rfl, OwP.none0 _ _, by simp, (Kept.refl _ _).alloc _⟩
  · have hbb : ¬ (600 : Int) < S.size := by omega
    have HS := Lib.hid hS
    have HB := Lib.hid hb
    rw [hS]
    clear hsz hS hb
    go_enter Tryz.func11, Tryz.ntmps11
    go_wp2_with fail
    rw [← HS.out]
    refine (l8Parse_any l _ hl).mono ?_
    rintro e w1 hd
    rcases hd with ⟨hn, ⟨k0, rfl⟩, k1⟩ | ⟨k, ps, v, hs, hpl, rfl, hw1, k1⟩
    · obtain ⟨q1, q2⟩ := par_text HB.out (by rw [shapeR_eq]; exact hn)
      have Q := Lib.hid (And.intro q1 q2)
      clear q1 q2
      have k2 := k1.alloc (.cells #[.int .i64 k0, .slice none 0 0] 26)
      obtain ⟨⟨c0, c1, c2⟩, f0, f1, f2⟩ := parBox k2
      have K2 := Lib.hid k2
      clear k1 k2 hn
      go_wp2_with fail
      obtain ⟨s0, s1, s2⟩ := parCells (.int .i64 5) (.int .i64 0) (.slice none 0 0) c0 c1 c2
      refine bodyPost_ret (v := .agg #[.int .i64 5, .int .i64 0, .slice none 0 0]) (by simp [results, Tryz.results11, go_sem, s0, s1, s2]) rfl ?_
      rw [Q.out.1, Q.out.2]
      exact ⟨_, rfl, OwP.none0 _ _, by simp, ((K2.out.peel.setCell _ _ (by simp)).setCell _ _ (by simp)).setCell _ _ (by simp)⟩
    · obtain ⟨a, n, hv⟩ := hw1.sl
      subst hv
      have hws0 : Hid (w.heap.size + 1 ≤ w1.heap.size) := by have := k1.size; show _ ≤ _; simpa using this
      have k2 := k1.alloc (.cells #[.int .i64 k, .slice a ps.length n] 26)
      have W2 := Lib.hid (hw1.alloc (.cells #[.int .i64 k, .slice a ps.length n] 26))
      have hrd := Lib.hid ((hw1.alloc (.cells #[.int .i64 k, .slice a ps.length n] 26)).rd hpl).2
      have K2 := Lib.hid k2
      have HSR := Lib.hid ((shapeR_eq l).trans hs)
      clear k1 k2 hw1 hs
      have d0 := ((Kept.refl [] (w1.alloc (.cells #[.int .i64 k, .slice a ps.length n] 26))).top (g := w1.heap.size) rfl (by simp) 0 (v := .int .i64 k) rfl).1
      have d1 := ((Kept.refl [] (w1.alloc (.cells #[.int .i64 k, .slice a ps.length n] 26))).top (g := w1.heap.size) rfl (by simp) 1 (v := .slice a ps.length n) rfl).1
      go_wp2_with fail
      refine (sShapeFault_any k a ps.length n (flatP ps) _ hrd.out).mono ?_
      rintro e w2 ⟨rfl, k3⟩
      have d0 := k3.cell d0 (by simp)
      have d1 := k3.cell d1 (by simp)
      have K3 := Lib.hid (K2.out.trans0 k3)
      have W3 := Lib.hid (W2.out.kept0 k3)
      have hwl : w.heap.size + 1 ≤ w1.heap.size := hws0.out
      obtain ⟨⟨c0, c1, c2⟩, f0, f1, f2⟩ := parBox K3.out
      clear k3
      by_cases hz : shapeC k (flatP ps) ps.length = 0
      · have Q := Lib.hid (par_ok (l := l) (x := (k, ps)) HB.out HSR.out hz)
        rw [hz]
        clear hz
        go_wp2_with fail
        obtain ⟨s0, s1, s2⟩ := parCells (.int .i64 0) (.int .i64 k) (.slice a ps.length n) c0 c1 c2
        refine bodyPost_ret (v := .agg #[.int .i64 0, .int .i64 k, .slice a ps.length n]) (by simp [results, Tryz.results11, go_sem, s0, s1, s2]) rfl ?_
        rw [Q.out.1, Q.out.2]
        refine ⟨_, rfl, ?_, hpl, ((K3.out.peel.setCell _ _ (by simp)).setCell _ _ (by simp)).setCell _ _ (by simp)⟩
        refine (W3.out.kept (L := [w.heap.size]) ((((Kept.refl _ _).setCell _ _ (by simp)).setCell _ _ (by simp)).setCell _ _ (by simp)) ?_).mono (by simp)
        intro g hg hm
        have := W3.out.lt hg
        simp at hm this; omega
      · have Q := Lib.hid (par_fault (l := l) (x := (k, ps)) HB.out HSR.out hz)
        obtain ⟨f, hf⟩ : ∃ f, shapeC k (flatP ps) ps.length = f := ⟨_, rfl⟩
        have hne : (f == 0) = false := by rw [beq_eq_false_iff_ne, ← hf]; exact hz
        have HF := Lib.hid hf
        rw [hf]
        clear hf hz
        go_wp2_with fail
        obtain ⟨s0, s1, s2⟩ := parCells (.int .i64 f) (.int .i64 0) (.slice none 0 0) c0 c1 c2
        refine bodyPost_ret (v := .agg #[.int .i64 f, .int .i64 0, .slice none 0 0]) (by simp [results, Tryz.results11, go_sem, s0, s1, s2]) rfl ?_
        rw [Q.out.1, Q.out.2, HF.out]
        exact ⟨_, rfl, OwP.none0 _ _, by simp, ((K3.out.peel.setCell _ _ (by simp)).setCell _ _ (by simp)).setCell _ _ (by simp)⟩

end Go.Proofs.YtlhiahhpmjiioadGreatDoor
