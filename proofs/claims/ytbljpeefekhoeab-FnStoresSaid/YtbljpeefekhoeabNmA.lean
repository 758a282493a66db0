/-
  Contracts of IsName, the program's and the model's. Condition: the text is no longer than a word tells.
-/
import Derived.Lib.OthersKept
import Derived.Laws.RangeAny
import Derived.Test.YtbljpeefekhoeabStoP
import Derived.Test.YtbljpeefekhoeabOrd
namespace Go.Proofs.Ytbljpeefekhoeab
open Go.RowKit

theorem kept_iterN {L : List Nat} {w0 w : World} (h : Kept L w0 w) {k : Nat} (hk : w0.heap.size ≤ k) (s : ByteArray) (pos : Nat) : Kept L w0 (w.iterAt k s pos) :=
  h.trans (M := [k]) ⟨rfl, rfl, rfl, by rw [Lib.iterAt_size]; exact Nat.le_refl _, fun i _ hi => Lib.iterAt_other w k i s pos (by simpa using hi)⟩ (fun x hx hlt => by simp at hx; omega)

/-- What a range over a text does at place k: the byte, or one that no name has. -/
theorem next_nm (P : Program) (w : World) (it : Nat) (s : ByteArray) (k : Nat) (hk : w.heap[it]? = some (.stringIter s k)) (h : k < s.size) :
    ∃ (r : Int) (pos : Nat), (∀ ty, (Instr.next (.pointer (some ⟨it, 0, none⟩)) true ty).run P w = .ok (.tuple #[.bool true, .int .i64 k, .int .i32 r]) (w.iterAt it s pos)) ∧ 0 ≤ r ∧ r ≤ 2147483647 ∧
      (NmC r ↔ NmC ((bytesI s.data.toList).getD k 0)) ∧ (NmC r → pos = k + 1) := by
  rw [bytesI_get h]
  by_cases ha : (s[k]'h).toNat < 128
  · exact ⟨_, _, fun ty => Lib.run_next_ascii_at w it s k ty hk h ha, by omega, by omega, Iff.rfl, fun _ => rfl⟩
  · have h1 := (decode_high s k h (by omega)).1
    have h2 := decode_le s k
    refine ⟨_, _, fun ty => Lib.run_next_any_at w it s k ty hk h, by omega, by omega, ?_, ?_⟩
    · unfold NmC; omega
    · unfold NmC; omega

set_option maxHeartbeats 4000000 in
theorem IsName_any (s : ByteArray) (w : World) (hs : s.size ≤ 9223372036854775807) :
    Calls Try.prog 20 #[.string s] w (Ans w (.bool (isNm s.data.toList))) := by
  have hlen : s.data.toList.length = s.size := by rw [Array.length_toList]; rfl
  obtain ⟨b, hb⟩ : ∃ b, decide ((1 : Int) ≤ (s.size : Int) ∧ (s.size : Int) ≤ 8) = b := ⟨_, rfl⟩
  have HB := Lib.hid (ord_xyz (x := 1) (y := (s.size : Int)) (z := 8) b hb.symm)
  cases b
  · have hv : Hid (isNm s.data.toList = false) := isNm_short (by rw [hlen]; have := of_decide_eq_false hb; omega)
    clear hb hlen
    go_enter Try.func20, Try.ntmps20
    go_wp2_with fail
    refine (inOrder_any _ _ _ _ _ (rd_threeK _ _ _ _ (by simp)) _ HB.out).mono ?_
    rintro e w1 ⟨rfl, h1⟩
    go_wp2_with fail
    go_ret
    exact ⟨by rw [hv.out]; rfl, h1.peel⟩
  have hn := of_decide_eq_true hb
  obtain ⟨n, hnn⟩ : ∃ n, s.size = n := ⟨_, rfl⟩
  have HN := Lib.hid (show 1 ≤ n ∧ n ≤ 8 by omega)
  have HLEN := Lib.hid (show s.data.toList.length = n by omega)
  rw [hnn] at HB
  have e0 : IntKind.i64.wrap (n : Int) = n := IntWalk.i64_in _ (by omega)
  clear hb hlen hn hs
  go_enter Try.func20, Try.ntmps20
  go_wp2_with fail
  refine (inOrder_any _ _ _ _ _ (rd_threeK _ _ _ _ (by simp)) _ HB.out).mono ?_
  rintro e w0 ⟨rfl, h0⟩
  have K0 := Lib.hid h0.peel
  have z0 := K0.out.size
  clear h0
  go_wp2_with fail
  go_loopw [4] (fun _ wr => ∃ k : Nat, k ≤ n ∧ Hid (NmTo (bytesI s.data.toList) k) ∧ Hid (wr.heap[w0.heap.size]? = some (.stringIter s k)) ∧ Hid (Kept [] w wr)) (fun _ wr => n - wr.iterPos w0.heap.size)
  case atStart => exact ⟨0, Nat.zero_le _, fun i hi => by omega, World.iter_heap _ _ _, K0.out.alloc _⟩
  case round =>
    obtain ⟨k, hk, hO, hI, hK⟩ := hrel
    have hI0 := hI
    by_cases hlt : k < n
    · obtain ⟨r, pos, hnx, r0, r1, hiff, hdig⟩ := next_nm Try.prog wr w0.heap.size s k hI.out (by omega)
      have e1 : IntKind.i64.wrap r = r := IntWalk.i64_in _ (by omega)
      obtain ⟨W, hW⟩ : ∃ W, W = wr.iterAt w0.heap.size s pos := ⟨_, rfl⟩
      have hIW := Lib.hid (show W.heap[w0.heap.size]? = some (.stringIter s pos) by rw [hW]; exact Lib.iterAt_heap wr w0.heap.size s k pos hI.out)
      have hKW := Lib.hid (show Kept [] w W by rw [hW]; exact kept_iterN hK.out (by omega) s pos)
      rw [← hW] at hnx
      have hsz : w0.heap.size < W.heap.size := (Array.getElem?_eq_some_iff.1 hIW.out).1
      clear hW hI hK
      by_cases hin : 97 ≤ r ∧ r ≤ 122
      · have hb := Lib.hid (ord_xyz (x := 97) (y := r) (z := 122) true (decide_eq_true hin).symm)
        have hO2 := Lib.hid (hO.out.more (hiff.1 (.inl hin)))
        obtain rfl := hdig (.inl hin)
        clear hin hiff hdig hO
        go_wp2_with fail
        refine (inOrder_any _ _ _ _ _ (rd_threeK _ _ _ _ rfl) _ hb.out).mono ?_
        rintro e w1 ⟨rfl, hq⟩
        have hI2 := Lib.hid (show w1.heap[w0.heap.size]? = some (.stringIter s (k + 1)) by rw [hq.block w0.heap.size (by simp; omega) (by simp), Below.heap_alloc _ _ _ hsz]; exact hIW.out)
        have hK2 := Lib.hid (hKW.out.trans0 hq.peel)
        clear hq hnx hsz
        go_wp2_with fail
        go_roundw
        case rel => exact ⟨k + 1, by omega, hO2, hI2, hK2⟩
        case measure => simp [World.iterPos, hI2.out, hI0.out]; omega
      · have hb := Lib.hid (ord_xyz (x := 97) (y := r) (z := 122) false (decide_eq_false hin).symm)
        by_cases hin2 : 48 ≤ r ∧ r ≤ 57
        · have hb2 := Lib.hid (ord_xyz (x := 48) (y := r) (z := 57) true (decide_eq_true hin2).symm)
          have hO2 := Lib.hid (hO.out.more (hiff.1 (.inr hin2)))
          obtain rfl := hdig (.inr hin2)
          clear hin hin2 hiff hdig hO
          go_wp2_with fail
          refine (inOrder_any _ _ _ _ _ (rd_threeK _ _ _ _ rfl) _ hb.out).mono ?_
          rintro e w1 ⟨rfl, hq⟩
          have hI1 := Lib.hid (show w1.heap[w0.heap.size]? = some (.stringIter s (k + 1)) by rw [hq.block w0.heap.size (by simp; omega) (by simp), Below.heap_alloc _ _ _ hsz]; exact hIW.out)
          have hK1 := Lib.hid (hKW.out.trans0 hq.peel)
          have hsz1 : w0.heap.size < w1.heap.size := (Array.getElem?_eq_some_iff.1 hI1.out).1
          clear hq hnx hsz
          go_wp2_with fail
          refine (inOrder_any _ _ _ _ _ (rd_threeK _ _ _ _ rfl) _ hb2.out).mono ?_
          rintro e w2 ⟨rfl, hq⟩
          have hI2 := Lib.hid (show w2.heap[w0.heap.size]? = some (.stringIter s (k + 1)) by rw [hq.block w0.heap.size (by simp; omega) (by simp), Below.heap_alloc _ _ _ hsz1]; exact hI1.out)
          have hK2 := Lib.hid (hK1.out.trans0 hq.peel)
          clear hq hsz1
          go_wp2_with fail
          go_roundw
          case rel => exact ⟨k + 1, by omega, hO2, hI2, hK2⟩
          case measure => simp [World.iterPos, hI2.out, hI0.out]; omega
        · have hb2 := Lib.hid (ord_xyz (x := 48) (y := r) (z := 57) false (decide_eq_false hin2).symm)
          have hv : Hid (isNm s.data.toList = false) := isNm_bad (by rw [HLEN.out]; exact hlt) (fun x => by
            rcases hiff.2 x with y | y
            · exact hin y
            · exact hin2 y)
          clear hin hin2 hiff hdig
          go_wp2_with fail
          refine (inOrder_any _ _ _ _ _ (rd_threeK _ _ _ _ rfl) _ hb.out).mono ?_
          rintro e w1 ⟨rfl, hq⟩
          have hK1 := Lib.hid (hKW.out.trans0 hq.peel)
          clear hq hnx hsz
          go_wp2_with fail
          refine (inOrder_any _ _ _ _ _ (rd_threeK _ _ _ _ rfl) _ hb2.out).mono ?_
          rintro e w2 ⟨rfl, hq⟩
          have hK2 := Lib.hid (hK1.out.trans0 hq.peel)
          clear hq
          go_wp2_with fail
          go_ret
          exact ⟨by rw [hv.out]; rfl, hK2.out⟩
    · obtain rfl : k = n := by omega
      have hnx : ∀ ty, (Instr.next (.pointer (some ⟨w0.heap.size, 0, none⟩)) true ty).run Try.prog wr = .ok (.tuple #[.bool false]) wr := fun ty => Lib.run_next_end_at wr w0.heap.size s k ty hI.out (by omega)
      have hv : Hid (isNm s.data.toList = true) := isNm_all (by rw [HLEN.out]; exact HN.out) (by rw [HLEN.out]; exact hO.out)
      go_wp2_with fail
      go_ret
      exact ⟨by rw [hv.out]; rfl, hK.out⟩

set_option maxHeartbeats 4000000 in
theorem sIsName_any (s : ByteArray) (w : World) (hs : s.size ≤ 9223372036854775807) :
    Calls Try.prog 21 #[.string s] w (Ans w (.bool (isNm s.data.toList))) := by
  have hlen : s.data.toList.length = s.size := by rw [Array.length_toList]; rfl
  by_cases h1 : s.size < 1
  · have hv : Hid (isNm s.data.toList = false) := isNm_short (by rw [hlen]; omega)
    clear hlen
    go_enter Try.func21, Try.ntmps21
    go_wp2
    go_ret
    exact ⟨by rw [hv.out]; rfl, Kept.refl _ _⟩
  by_cases h8 : 8 < s.size
  · have hv : Hid (isNm s.data.toList = false) := isNm_short (by rw [hlen]; omega)
    clear hlen
    go_enter Try.func21, Try.ntmps21
    go_wp2
    go_ret
    exact ⟨by rw [hv.out]; rfl, Kept.refl _ _⟩
  obtain ⟨n, hnn⟩ : ∃ n, s.size = n := ⟨_, rfl⟩
  have HN := Lib.hid (show 1 ≤ n ∧ n ≤ 8 by omega)
  have HLEN := Lib.hid (show s.data.toList.length = n by omega)
  have hsz1 : ¬ (s.size : Int) < 1 := by omega
  have hsz8 : ¬ (8 : Int) < s.size := by omega
  clear hlen hs
  go_enter Try.func21, Try.ntmps21
  go_wp2
  go_loopw [3] (fun i wr => ∃ k : Nat, k ≤ n ∧ i = .int .i64 k ∧ Hid (NmTo (bytesI s.data.toList) k) ∧ Hid (Kept [] w wr)) (fun i _ => n - (intOf i).toNat)
  case atStart => exact ⟨0, Nat.zero_le _, rfl, fun i hi => by omega, Kept.refl _ _⟩
  case round =>
    obtain ⟨k, hk, rfl, hO, hK⟩ := hrel
    by_cases hlt : k < n
    · have hks : k < s.size := by omega
      have hks' : (k : Int) < s.size := by omega
      have hg := bytesI_get (s := s) hks
      generalize hx : ((s[k]'hks).toNat : Int) = x at *
      have HX := Lib.hid hg
      clear hg
      rcases (by omega : x < 48 ∨ (48 ≤ x ∧ x ≤ 57) ∨ (57 < x ∧ x < 97) ∨ (97 ≤ x ∧ x ≤ 122) ∨ 122 < x) with h | h | h | h | h
      · have hv : Hid (isNm s.data.toList = false) := isNm_bad (by rw [HLEN.out]; exact hlt) (by rw [HX.out]; unfold NmC; omega)
        have q0 : x < 97 := by omega
        have q1 : x < 48 := by omega
        clear h
        go_wp2
        go_ret
        exact ⟨by rw [hv.out]; rfl, hK.out⟩
      · have hO2 := Lib.hid (hO.out.more (show NmC _ by rw [HX.out]; exact .inr h))
        have q0 : x < 97 := by omega
        have q1 : 48 ≤ x := by omega
        have q2 : decide (x ≤ 57) = true := by simp; omega
        have q3 : x ≤ 57 := by omega
        clear h hO
        go_wp2
        go_roundw
        case rel => exact ⟨k + 1, by omega, by go_num, hO2, hK⟩
        case measure => simp [intOf]; omega
      · have hv : Hid (isNm s.data.toList = false) := isNm_bad (by rw [HLEN.out]; exact hlt) (by rw [HX.out]; unfold NmC; omega)
        have q0 : x < 97 := by omega
        have q1 : 48 ≤ x := by omega
        have q2 : decide (x ≤ 57) = false := by simp; omega
        have q3 : 57 < x := by omega
        clear h
        go_wp2
        go_ret
        exact ⟨by rw [hv.out]; rfl, hK.out⟩
      · have hO2 := Lib.hid (hO.out.more (show NmC _ by rw [HX.out]; exact .inl h))
        have q0 : 97 ≤ x := by omega
        have q1 : ¬ 122 < x := by omega
        have q2 : decide (x ≤ 122) = true := by simp; omega
        clear h hO
        go_wp2
        go_roundw
        case rel => exact ⟨k + 1, by omega, by go_num, hO2, hK⟩
        case measure => simp [intOf]; omega
      · have hv : Hid (isNm s.data.toList = false) := isNm_bad (by rw [HLEN.out]; exact hlt) (by rw [HX.out]; unfold NmC; omega)
        have q0 : 97 ≤ x := by omega
        have q1 : 122 < x := by omega
        have q2 : 48 ≤ x := by omega
        have q3 : decide (x ≤ 57) = false := by simp; omega
        have q4 : decide (x ≤ 122) = false := by simp; omega
        clear h
        go_wp2
        go_ret
        exact ⟨by rw [hv.out]; rfl, hK.out⟩
    · obtain rfl : k = n := by omega
      have hv : Hid (isNm s.data.toList = true) := isNm_all (by rw [HLEN.out]; exact HN.out) (by rw [HLEN.out]; exact hO.out)
      go_wp2
      go_ret
      exact ⟨by rw [hv.out]; rfl, hK.out⟩

end Go.Proofs.Ytbljpeefekhoeab
