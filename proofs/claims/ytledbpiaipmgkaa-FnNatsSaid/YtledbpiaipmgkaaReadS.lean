/-
  Contract of ReadNat, the model's. Condition: the text is short.
-/
import Derived.Deep.RegionHeld3
import Derived.Deep.DrawnRows
import Derived.Deep.DeepCutAuto
import Derived.Test.YtledbpiaipmgkaaReadC
import Derived.Test.YtledbpiaipmgkaaSMul
namespace Go.Proofs.Ytledbpiaipmgkaa
open Go.RowKit

theorem rd_one10 (w : World) (x : Int) : Rd (w.alloc (.cells #[.int .i64 x] 2)) (some ⟨w.heap.size, 0, none⟩) 1 [x] :=
  (Sl.ofBlk (Blk.new w [x]) (by simp)).rd
theorem rd_one10D (w : World) (x : Int) : Rd (w.alloc (.cells #[.int .i64 x] 2)).drew (some ⟨w.heap.size, 0, none⟩) 1 [x] := rd_one10 w x
theorem Kept.allocD {L : List Nat} {W w : World} {o : Obj} (h : Hid (Kept L W w.drew)) : Hid (Kept L W (w.alloc o).drew) :=
  Lib.hid (Kept.trans0 h.out ⟨rfl, rfl, rfl, by simp, fun k hk _ => Below.heap_alloc w o k hk⟩)
theorem Kept.alloc1 {L : List Nat} {W w : World} {o : Obj} (h : Hid (Kept L W w)) : Hid (Kept L W (w.alloc o)) := Lib.hid (h.out.alloc o)
theorem size_drewS (w : World) : w.drew.heap.size = w.heap.size := rfl
theorem limbs10 : AllLimbs [10] := fun i hi => by
  obtain rfl : i = 0 := by simpa using hi
  simp

set_option maxHeartbeats 8000000 in
set_option maxRecDepth 20000 in
theorem sReadNat_any (s : ByteArray) (w : World) (hs : s.size ≤ 1048576) :
    Calls Try.prog 18 #[.string s] w (NatR w (rnCode (bytesOf s)) (rnLimbs (bytesOf s))) := by
  obtain ⟨n, hn⟩ : ∃ n, s.size = n := ⟨_, rfl⟩
  have HLEN := Lib.hid ((bytesOf_len s).trans hn)
  by_cases h0 : n = 0
  · have HQ := Lib.hid (rn_no (ds := bytesOf s) (fun h => by have h1 := h.1; have h2 := HLEN.out; omega))
    subst h0
    go_enter Try.func18, Try.ntmps18
    go_wp2_with fail
    go_returns
    exact ⟨none, 0, by rw [HQ.out.1, HQ.out.2]; rfl, by rw [HQ.out.2]; exact Sl.nil _, by rw [HQ.out.2]; exact fun h => by simp at h, (((Kept.refl [] w).alloc _))⟩
  have hpos : 0 < s.size := by omega
  obtain ⟨x0, hx0⟩ : ∃ x, ((s[0]'hpos).toNat : Int) = x := ⟨_, rfl⟩
  have hx1 := (bytesOf_get hpos).trans hx0
  by_cases hbad : x0 = 48 ∧ 1 < n
  · have HQ := Lib.hid (rn_no (ds := bytesOf s) (fun h => by have h1 := h.2.1 (by rw [hx1]; exact hbad.1); have h2 := HLEN.out; omega))
    obtain ⟨rfl, h1n⟩ := hbad
    clear hx1
    go_enter Try.func18, Try.ntmps18
    go_wp2_with fail
    go_returns
    exact ⟨none, 0, by rw [HQ.out.1, HQ.out.2]; rfl, by rw [HQ.out.2]; exact Sl.nil _, by rw [HQ.out.2]; exact fun h => by simp at h, (((Kept.refl [] w).alloc _))⟩
  · have hld : (bytesOf s).getD 0 0 = 48 → (bytesOf s).length = 1 := by
      rw [hx1]
      intro h
      have h2 := HLEN.out
      by_cases h1 : 1 < n
      · exact absurd ⟨h, h1⟩ hbad
      · omega
    have HLD := Lib.hid hld
    have hn0 : ((n : Int) == 0) = false := by simpa using h0
    have hor : (x0 = 48 ∧ decide ((1 : Int) < (n : Int)) = false) ∨ (x0 == 48) = false := by
      by_cases h1 : x0 = 48
      · exact .inl ⟨h1, decide_eq_false (fun h => hbad ⟨h1, by omega⟩)⟩
      · exact .inr (by simpa using h1)
    clear hld hbad hx1
    rcases hor with ⟨rfl, hq1⟩ | hq1
    all_goals
      go_enter Try.func18, Try.ntmps18
      go_wp2_with fail
      generalize hw0 : (w.alloc (.cells #[.int .i64 0, .slice none 0 0] 28)) = w0
      have HK0 := Lib.hid (show Kept [] (w.alloc (.cells #[.int .i64 0, .slice none 0 0] 28)) w0 by rw [hw0]; exact Kept.refl _ _)
      clear hw0
      go_loopw [3] (fun i wr => ∃ k : Nat, k ≤ n ∧ i = .int .i64 k ∧ Hid (DecTo (bytesOf s) k) ∧ wr = w0) (fun i _ => n - (intOf i).toNat)
      case atStart => exact ⟨0, Nat.zero_le _, rfl, fun i hi => by omega, rfl⟩
      case round =>
        obtain ⟨k, hk, rfl, hO, rfl⟩ := hrel
        by_cases hlt : k < n
        · have hks : k < s.size := by omega
          obtain ⟨d, hd⟩ : ∃ d, ((s[k]'hks).toNat : Int) = d := ⟨_, rfl⟩
          have HD := Lib.hid ((bytesOf_get hks).trans hd)
          by_cases h1 : d < 48
          · have HQ := Lib.hid (rn_no (ds := bytesOf s) (fun h => by have h1 := dec_at h.2.2 (k := k) (by rw [HLEN.out]; exact hlt); rw [HD.out] at h1; omega))
            obtain ⟨hc0, hc1, hf0, hf1, hsz⟩ := resCells HK0.out (by simp)
            obtain ⟨ea, eb, ec⟩ := cells2 (.int .i64 5) (.slice none 0 0) hc0 hc1
            go_wp2_with fail
            exact bodyPost_ret (v := .agg #[.int .i64 5, .slice none 0 0]) (by simp [results, Try.results18, go_sem, eb, ec]) rfl (by rw [HQ.out.1, HQ.out.2]; exact natR_end HK0.out)
          · by_cases h2 : 57 < d
            · have HQ := Lib.hid (rn_no (ds := bytesOf s) (fun h => by have h1 := dec_at h.2.2 (k := k) (by rw [HLEN.out]; exact hlt); rw [HD.out] at h1; omega))
              have h1b : decide (d < 48) = false := decide_eq_false h1
              obtain ⟨hc0, hc1, hf0, hf1, hsz⟩ := resCells HK0.out (by simp)
              obtain ⟨ea, eb, ec⟩ := cells2 (.int .i64 5) (.slice none 0 0) hc0 hc1
              go_wp2_with fail
              exact bodyPost_ret (v := .agg #[.int .i64 5, .slice none 0 0]) (by simp [results, Try.results18, go_sem, eb, ec]) rfl (by rw [HQ.out.1, HQ.out.2]; exact natR_end HK0.out)
            · have hO2 := Lib.hid (hO.out.more HD.out (by omega))
              have h1b : decide (d < 48) = false := decide_eq_false h1
              have h2b : decide (57 < d) = false := decide_eq_false h2
              go_wp2_with fail
              go_roundw
              case rel => exact ⟨k + 1, by omega, by go_num, hO2, trivial⟩
              case measure => simp [intOf]; omega
        · obtain rfl : k = n := by omega
          have HX := Lib.hid (show NTx (bytesOf s) from ⟨by rw [HLEN.out]; omega, HLD.out, decTo_all (by rw [HLEN.out]; exact hO.out)⟩)
          go_wp2_with fail
          have hB0 : w.heap.size + 1 ≤ wr.heap.size := by have := HK0.out.size; simpa using this
          have HE0 := Lib.hid (Ow.empty (w.heap.size + 1) wr hB0)
          have HK1 := Lib.hid (HK0.out.alloc (.cells #[] 2))
          clear hO
          go_loopw [4, 5] (fun v i w2 => ∃ j : Nat, j ≤ k ∧ i = .int .i64 j ∧ Hid (Ow (w.heap.size + 1) w2 v (digits (num 0 ((bytesOf s).take j)))) ∧ Hid ((digits (num 0 ((bytesOf s).take j))).length ≤ 40) ∧ Hid (Kept [] (w.alloc (.cells #[.int .i64 0, .slice none 0 0] 28)) w2)) (fun _ i _ => k - (intOf i).toNat)
          case atStart => exact ⟨0, Nat.zero_le _, rfl, Lib.hid (by simpa [num, digits_zero] using HE0.out), Lib.hid (by simp [num, digits_zero]), HK1.out⟩
          case round =>
            obtain ⟨j, hj, rfl, hOw, hF, hK⟩ := hrel
            by_cases hlj : j < k
            · have hks : j < s.size := by omega
              have hd9 := dec_at HX.out.2.2 (k := j) (by rw [HLEN.out]; exact hlj)
              obtain ⟨d, hdd⟩ : ∃ d, (bytesOf s).getD j 0 = d + 48 := ⟨(bytesOf s).getD j 0 - 48, by omega⟩
              have hd : ((s[j]'hks).toNat : Int) = d + 48 := by rw [← bytesOf_get hks]; exact hdd
              have hsucc : num 0 ((bytesOf s).take (j + 1)) = num 0 ((bytesOf s).take j) * 10 + d := by rw [num_take_succ j (by rw [HLEN.out]; exact hlj)]; omega
              have hm0 := (num_take_le HX.out.2.2 j).1
              obtain ⟨x, hx⟩ : ∃ x, x = num 0 ((bytesOf s).take j) := ⟨_, rfl⟩
              rw [← hx] at hsucc hm0 hOw hF
              obtain ⟨a, c, rfl, hS, hFr⟩ := hOw.out.sl
              obtain ⟨m, hm⟩ : ∃ m, m = (digits x).length := ⟨_, rfl⟩
              have hm40 : m ≤ 40 := by rw [hm]; exact hF.out
              rw [← hm] at hS ⊢
              have HR := Lib.hid hS.rd
              have e1 : IntKind.u8.wrap d = d := by rw [IntKind.wrap_u8]; omega
              have e3 : d % 256 = d := by omega
              have e4 : d + 48 - 48 = d := by omega
              have e2 : IntKind.i64.wrap d = d := IntWalk.i64_in _ (by omega)
              have hd2 : d ≤ 9223372036854775807 := by omega
              have HV := Lib.hid (val_digits' hm0)
              have HVD := Lib.hid (val_digits' (show 0 ≤ d by omega))
              have HV10 := Lib.hid (val_digits' (show 0 ≤ x * 10 by omega))
              have HS := Lib.hid hsucc
              have HKr := Lib.hid hK.out
              have HT := Lib.hid (show val [10] = 10 from rfl)
              have hl2 : (digits d).length ≤ 1000000 := Nat.le_trans (digits_len 1 d (by simp only [pw]; omega)) (by omega)
              have hl1 : (digits (x * 10)).length ≤ 1000000 := by
                have h1 := digits_lt hm0
                have h2 := digits_len ((digits x).length + 1) (x * 10) (by show x * 10 < 65536 * pw _; omega)
                have h3 := hF.out
                omega
              have HL1 := Lib.hid hl1
              have HL2 := Lib.hid hl2
              clear hdd hsucc hx hOw hF hS hFr hK hm hd9 hl1 hl2
              go_wp2_with fail
              go_region_held3 (fun w' => Hid (Kept [] wr w'))
                (with_reducible first | assumption | exact Lib.hid ((Kept.refl _ _).drew) | exact Kept.allocD (by assumption) | exact Kept.alloc1 (by assumption) | exact Lib.hid (Kept.trans0 (Hid.out (by assumption)) (by assumption)))
                (first
                  | (go_at_call 62; refine (l1Mul_any _ _ _ _ _ _ (digits x) [10] _ (HR.out.kept0 (Hid.out (by assumption))) (by with_reducible first | exact rd_one10D _ _ | exact rd_one10 _ _ | exact (rd_one10D _ _).kept0 (by assumption)) (canon_limbs (canon_digits' _)) limbs10 (by omega) (by omega)).mono ?_; rintro e v1 ⟨z1, rfl, ho1, hk1⟩; rw [HV.out, HT.out] at ho1; obtain ⟨a1, c1, rfl, hs1, hf1⟩ := ho1.sl)
                  | (go_at_call 57; refine (l1Nat_any d _ hd2).mono ?_; rintro e v2 ⟨z2, rfl, ho2, hk2⟩; obtain ⟨a2, c2, rfl, hs2, hf2⟩ := ho2.sl)
                  | (go_at_call 58; refine (l1Add_any _ _ _ _ _ _ (digits (x * 10)) (digits d) _ (by with_reducible first | exact hs1.rd | exact (hs1.kept0 (by assumption)).rd) (by with_reducible first | exact hs2.rd | exact (hs2.kept0 (by assumption)).rd | exact (hs2.kept0 (Kept.peel (by assumption))).rd) (canon_digits' _) (canon_digits' _) HL1.out HL2.out).mono ?_; rintro e v3 ⟨z3, rfl, ho3, hk3⟩))
              all_goals
                rw [HV10.out, HVD.out, ← HS.out] at ho3
                have q0 := HKr.out.size
                have q1 := hk1.size
                have q2 := hk2.size
                simp only [size_drewS, World.size_alloc] at q0 q1 q2
                have hO3 := Lib.hid (ho3.mono (show w.heap.size + 1 ≤ _ by omega))
                have hK3 := Lib.hid (HKr.out.trans0 (Hid.out (show Hid (Kept [] wr v3) by assumption)))
                obtain ⟨a3, c3, rfl, _, _⟩ := ho3.sl
                clear ho1 hs1 hf1 ho2 hs2 hf2 ho3 hk1 hk2 hk3 q0 q1 q2
                by_cases h40 : 40 < (digits (num 0 ((bytesOf s).take (j + 1)))).length
                · have HQ := Lib.hid (rn_full HX.out h40)
                  obtain ⟨hc0, hc1, hf0, hf1, hsz3⟩ := resCells hK3.out (by simp)
                  obtain ⟨ea, eb, ec⟩ := cells2 (.int .i64 7) (.slice none 0 0) hc0 hc1
                  go_wp2_with fail
                  exact bodyPost_ret (v := .agg #[.int .i64 7, .slice none 0 0]) (by simp [results, Try.results18, go_sem, eb, ec]) rfl (by rw [HQ.out.1, HQ.out.2]; exact natR_end hK3.out)
                · have hF3 := Lib.hid (Nat.le_of_not_lt h40)
                  go_wp2_with fail
                  go_roundw
                  case rel => exact ⟨j + 1, by omega, by go_num, hO3, hF3, hK3⟩
                  case measure => simp [intOf]; omega
            · obtain rfl : j = k := by omega
              have htk : (bytesOf s).take j = bytesOf s := List.take_of_length_le (by rw [HLEN.out]; exact Nat.le_refl _)
              rw [htk] at hOw hF
              obtain ⟨xs, hxs⟩ : ∃ xs, xs = digits (num 0 (bytesOf s)) := ⟨_, rfl⟩
              have hq := rn_yes HX.out hF.out
              rw [← hxs] at hOw hq
              have HQ := Lib.hid hq
              obtain ⟨a3, c3, rfl, hs3, hf3⟩ := hOw.out.sl
              have HS3 := Lib.hid hs3
              have HF3 := Lib.hid hf3
              obtain ⟨hc0, hc1, hf0, hf1, hsz3⟩ := resCells hK.out (by simp)
              obtain ⟨ea, eb, ec⟩ := cells2 (.int .i64 0) (.slice a3 xs.length c3) hc0 hc1
              clear hq hs3 hf3 htk hxs
              go_wp2_with fail
              exact bodyPost_ret (v := .agg #[.int .i64 0, .slice a3 xs.length c3]) (by simp [results, Try.results18, go_sem, eb, ec]) rfl (by rw [HQ.out.1, HQ.out.2]; exact natR_fin 0 hK.out HS3.out HF3.out)

end Go.Proofs.Ytledbpiaipmgkaa
