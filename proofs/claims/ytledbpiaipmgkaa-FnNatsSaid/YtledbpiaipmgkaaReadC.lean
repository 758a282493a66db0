/-
  Contract of ReadNat, the program's. Condition: the text is short.
-/
import Derived.Test.YtledbpiaipmgkaaReadA
import Derived.Test.YtledbpiaipmgkaaReadB
import Derived.Test.YtledbpiaipmgkaaNatOf
namespace Go.Proofs.Ytledbpiaipmgkaa
open Go.RowKit

theorem natR_end {w w1 : World} {code : Int} (hK : Kept [] (w.alloc (.cells #[.int .i64 0, .slice none 0 0] 28)) w1) :
    NatR w code [] (.returned (.agg #[.int .i64 code, .slice none 0 0])) ((w1.setCell ⟨w.heap.size, 0, none⟩ (.int .i64 code)).setCell ⟨w.heap.size, 1, none⟩ (.slice none 0 0)) :=
  natR_fin (a := none) (c := 0) (xs := []) code hK (Sl.nil _) (fun h => by simp at h)

set_option maxHeartbeats 4000000 in
theorem ReadNat_any (s : ByteArray) (w : World) (hs : s.size ≤ 1048576) :
    Calls Try.prog 13 #[.string s] w (NatR w (rnCode (bytesOf s)) (rnLimbs (bytesOf s))) := by
  obtain ⟨n, hn⟩ : ∃ n, s.size = n := ⟨_, rfl⟩
  have HLEN := Lib.hid ((bytesOf_len s).trans hn)
  by_cases hx : NTx (bytesOf s)
  · have hb := Lib.hid (decide_eq_true hx)
    have HX := Lib.hid hx
    clear hx
    go_enter Try.func13, Try.ntmps13
    go_wp2_with fail
    refine (isNatText_any _ _ hs).mono ?_
    rintro e w1 ⟨rfl, hk⟩
    rw [hb.out]
    have HK := Lib.hid hk
    have hz := hk.size
    simp only [World.size_alloc] at hz
    clear hk
    go_wp2_with fail
    go_loopw [3] (fun v wr => ∃ k : Nat, k ≤ n ∧ Hid (Ow (w1.heap.size + 1) wr v (digits (num 0 ((bytesOf s).take k)))) ∧ Hid ((digits (num 0 ((bytesOf s).take k))).length ≤ 40) ∧ Hid (wr.heap[w1.heap.size]? = some (.stringIter s k)) ∧ Hid (Below w1.heap.size w1 wr)) (fun _ wr => n - wr.iterPos w1.heap.size)
    case atStart => exact ⟨0, Nat.zero_le _, Lib.hid (by simpa [num, digits_zero] using Ow.nil _ _), Lib.hid (by simp [num, digits_zero]), World.iter_heap _ _ _, (Below.refl _ w1).alloc (Nat.le_refl _) _⟩
    case round =>
      obtain ⟨k, hk, hO, hF, hI, hBe⟩ := hrel
      have hI0 := hI
      by_cases hlt : k < n
      · obtain ⟨r, pos, hnx, r0, r1, hiff, hdig⟩ := next_dig Try.prog wr w1.heap.size s k hI.out (by omega)
        have hd := dec_at HX.out.2.2 (k := k) (by rw [HLEN.out]; exact hlt)
        have hin := hiff.2 hd
        obtain ⟨d, hdd⟩ : ∃ d, r = d + 48 := ⟨r - 48, by omega⟩
        have hsucc : num 0 ((bytesOf s).take (k + 1)) = num 0 ((bytesOf s).take k) * 10 + d := by rw [num_take_succ k (by rw [HLEN.out]; exact hlt), ← (hdig hin).1]; omega
        have hm0 := (num_take_le HX.out.2.2 k).1
        obtain rfl := (hdig hin).2
        subst hdd
        have e1 : IntKind.i32.wrap (d + 48 - 48) = d := by rw [show d + 48 - 48 = d by omega]; exact IntWalk.i32_in _ (by omega)
        have e2 : IntKind.i64.wrap d = d := IntWalk.i64_in _ (by omega)
        have hd9 : 0 ≤ d ∧ d ≤ 9 := by omega
        obtain ⟨W, hW⟩ : ∃ W, W = wr.iterAt w1.heap.size s (k + 1) := ⟨_, rfl⟩
        have hIW := Lib.hid (show W.heap[w1.heap.size]? = some (.stringIter s (k + 1)) by rw [hW]; exact Lib.iterAt_heap wr w1.heap.size s k (k + 1) hI.out)
        have hBW := Lib.hid (show Below w1.heap.size w1 W by rw [hW]; exact Lib.below_iterAt hBe.out (Nat.le_refl _) s (k + 1))
        obtain ⟨x, hx0⟩ : ∃ x, x = num 0 ((bytesOf s).take k) := ⟨_, rfl⟩
        rw [← hx0] at hsucc hm0 hO hF
        have hOW := Lib.hid (show Ow (w1.heap.size + 1) W u3 (digits x) by rw [hW]; exact hO.out.kept (L := [w1.heap.size]) ⟨rfl, rfl, rfl, by rw [Lib.iterAt_size]; exact Nat.le_refl _, fun i _ hi => Lib.iterAt_other wr w1.heap.size i s (k + 1) (by simpa using hi)⟩ (fun g hg => by have := (World.ownsRow.lt hO.out g hg).1; simp; omega))
        have hsz : w1.heap.size < W.heap.size := (Array.getElem?_eq_some_iff.1 hIW.out).1
        rw [← hW] at hnx
        have HS := Lib.hid hsucc
        have HV := Lib.hid (val_digits' hm0)
        have hl9 : (digits x).length ≤ 1000000 := by have := hF.out; omega
        clear hW hI hBe hd hin hiff hdig hsucc hO hx0 hF
        go_wp2_with fail
        refine (tenTimesAnd_own (w1.heap.size + 1) u3 (digits x) d W hOW.out (canon_digits' _) (by omega) hd9 hl9).mono ?_
        rintro e w3 ⟨v3, rfl, ho3, hb3⟩
        rw [HV.out, ← HS.out] at ho3
        have hI3 := Lib.hid (show w3.heap[w1.heap.size]? = some (.stringIter s (k + 1)) by rw [hb3.block w1.heap.size (by omega)]; exact hIW.out)
        have hB3 := Lib.hid (hBW.out.trans (hb3.mono (by omega)))
        obtain ⟨a3, c3, rfl, hs3, hf3⟩ := ho3.sl
        have hO3 := Lib.hid ho3
        clear ho3 hb3 hs3 hf3 hnx
        by_cases h40 : 40 < (digits (num 0 ((bytesOf s).take (k + 1)))).length
        · have HQ := Lib.hid (rn_full HX.out h40)
          have HKK := Lib.hid (HK.out.trans0 (Kept.ofBelow hB3.out))
          obtain ⟨hc0, hc1, hf0, hf1, hsz3⟩ := resCells HKK.out (by simp)
          obtain ⟨ea, eb, ec⟩ := cells2 (.int .i64 7) (.slice none 0 0) hc0 hc1
          go_wp2_with fail
          exact bodyPost_ret (v := .agg #[.int .i64 7, .slice none 0 0]) (by simp [results, Try.results13, go_sem, eb, ec]) rfl (by rw [HQ.out.1, HQ.out.2]; exact natR_end HKK.out)
        · have hF3 := Lib.hid (Nat.le_of_not_lt h40)
          go_wp2_with fail
          go_roundw
          case rel => exact ⟨k + 1, by omega, hO3, hF3, hI3, hB3⟩
          case measure => simp [World.iterPos, hI3.out, hI0.out]; omega
      · obtain rfl : k = n := by omega
        have htk : (bytesOf s).take k = bytesOf s := List.take_of_length_le (by rw [HLEN.out]; exact Nat.le_refl _)
        rw [htk] at hO hF
        have hnx : ∀ ty, (Instr.next (.pointer (some ⟨w1.heap.size, 0, none⟩)) true ty).run Try.prog wr = .ok (.tuple #[.bool false]) wr := fun ty => Lib.run_next_end_at wr w1.heap.size s k ty hI.out (by omega)
        obtain ⟨xs, hxs⟩ : ∃ xs, xs = digits (num 0 (bytesOf s)) := ⟨_, rfl⟩
        have hq := rn_yes HX.out hF.out
        rw [← hxs] at hO hq
        have HQ := Lib.hid hq
        obtain ⟨a3, c3, rfl, hs3, hf3⟩ := hO.out.sl
        have HKK := Lib.hid (HK.out.trans0 (Kept.ofBelow hBe.out))
        have HS3 := Lib.hid hs3
        have HF3 := Lib.hid (hf3.mono (show w.heap.size + 1 ≤ w1.heap.size + 1 by omega))
        obtain ⟨hc0, hc1, hf0, hf1, hsz3⟩ := resCells HKK.out (by simp)
        obtain ⟨ea, eb, ec⟩ := cells2 (.int .i64 0) (.slice a3 xs.length c3) hc0 hc1
        clear hq hs3 hf3 htk hxs
        go_wp2_with fail
        exact bodyPost_ret (v := .agg #[.int .i64 0, .slice a3 xs.length c3]) (by simp [results, Try.results13, go_sem, eb, ec]) rfl (by rw [HQ.out.1, HQ.out.2]; exact natR_fin 0 HKK.out HS3.out HF3.out)
  · have hb := Lib.hid (decide_eq_false hx)
    have HQ := Lib.hid (rn_no hx)
    clear hx
    go_enter Try.func13, Try.ntmps13
    go_wp2_with fail
    refine (isNatText_any _ _ hs).mono ?_
    rintro e w1 ⟨rfl, hk⟩
    rw [hb.out]
    have HK := Lib.hid hk
    obtain ⟨hc0, hc1, hf0, hf1, hsz⟩ := resCells hk (by simp)
    obtain ⟨ea, eb, ec⟩ := cells2 (.int .i64 5) (.slice none 0 0) hc0 hc1
    clear hk
    go_wp2_with fail
    exact bodyPost_ret (v := .agg #[.int .i64 5, .slice none 0 0]) (by simp [results, Try.results13, go_sem, eb, ec]) rfl (by rw [HQ.out.1, HQ.out.2]; exact natR_end HK.out)

end Go.Proofs.Ytledbpiaipmgkaa
