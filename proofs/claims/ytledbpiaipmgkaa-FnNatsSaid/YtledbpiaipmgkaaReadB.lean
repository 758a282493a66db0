/-
  Contract of isNatText. No condition.
-/
import Derived.Lib.OthersKept
import Derived.Laws.RangeAny
import Derived.Test.YtledbpiaipmgkaaReadP
import Derived.Test.YtledbpiaipmgkaaJ1
namespace Go.Proofs.Ytledbpiaipmgkaa
open Go.RowKit

theorem rd_three57 (w : World) (x : Int) : Rd (w.alloc (.cells #[.int .i64 48, .int .i64 x, .int .i64 57] 2)) (some ⟨w.heap.size, 0, none⟩) 3 [48, x, 57] := by
  have := Sl.ofBlk (Blk.new w [48, x, 57]) (by simp)
  exact this.rd
theorem ord_three57 (x : Int) : (decide (48 ≤ x ∧ x ≤ 57)) = true ↔ OrdTo [48, x, 57] 3 := by
  rw [decide_eq_true_eq]
  constructor
  · intro h i hi
    rcases (by omega : i = 0 ∨ i = 1) with rfl | rfl
    · simpa using h.1
    · simpa using h.2
  · intro h
    have h0 := h 0 (by omega)
    have h1 := h 1 (by omega)
    simp at h0 h1
    exact ⟨h0, h1⟩
theorem kept_iterAt {L : List Nat} {w0 w : World} (h : Kept L w0 w) {k : Nat} (hk : w0.heap.size ≤ k) (s : ByteArray) (pos : Nat) : Kept L w0 (w.iterAt k s pos) :=
  h.trans (M := [k]) ⟨rfl, rfl, rfl, by rw [Lib.iterAt_size]; exact Nat.le_refl _, fun i _ hi => Lib.iterAt_other w k i s pos (by simpa using hi)⟩ (fun x hx hlt => by simp at hx; omega)

/-- What a range over a text does at place k: the byte, or no digit. -/
theorem next_dig (P : Program) (w : World) (it : Nat) (s : ByteArray) (k : Nat) (hk : w.heap[it]? = some (.stringIter s k)) (h : k < s.size) :
    ∃ (r : Int) (pos : Nat), (∀ ty, (Instr.next (.pointer (some ⟨it, 0, none⟩)) true ty).run P w = .ok (.tuple #[.bool true, .int .i64 k, .int .i32 r]) (w.iterAt it s pos)) ∧ 0 ≤ r ∧ r ≤ 2147483647 ∧
      ((48 ≤ r ∧ r ≤ 57) ↔ (48 ≤ (bytesOf s).getD k 0 ∧ (bytesOf s).getD k 0 ≤ 57)) ∧ ((48 ≤ r ∧ r ≤ 57) → r = (bytesOf s).getD k 0 ∧ pos = k + 1) := by
  rw [bytesOf_get h]
  by_cases ha : (s[k]'h).toNat < 128
  · exact ⟨_, _, fun ty => Lib.run_next_ascii_at w it s k ty hk h ha, by omega, by omega, Iff.rfl, fun _ => ⟨rfl, rfl⟩⟩
  · have h1 := (decode_high s k h (by omega)).1
    have h2 := decode_le s k
    exact ⟨_, _, fun ty => Lib.run_next_any_at w it s k ty hk h, by omega, by omega, by omega, by omega⟩

set_option maxHeartbeats 4000000 in
theorem isNatText_any (s : ByteArray) (w : World) (hs : s.size ≤ 1048576) :
    Calls Try.prog 55 #[.string s] w (Ans w (.bool (decide (NTx (bytesOf s))))) := by
  obtain ⟨n, hn⟩ : ∃ n, s.size = n := ⟨_, rfl⟩
  by_cases h0 : n = 0
  · obtain rfl : s = ⟨#[]⟩ := by
      obtain ⟨⟨l⟩⟩ := s
      have : l.length = 0 := by rw [← h0, ← hn]; rfl
      rw [List.eq_nil_of_length_eq_zero this]
    have hv : Hid (decide (NTx (bytesOf ⟨#[]⟩)) = false) := by
      show _ = _
      exact decide_eq_false (fun h => by have := h.1; simp [bytesOf] at this)
    clear h0 hs hn
    go_enter Try.func55, Try.ntmps55
    go_wp2_with fail
    go_ret
    exact ⟨by rw [hv.out]; rfl, Kept.refl _ _⟩
  · have hlen : (bytesOf s).length = n := by rw [bytesOf_len, hn]
    have hpos : 0 < s.size := by omega
    have hne : ¬ s.toList = [] := by
      intro h
      have h2 : s.data.toList.length = 0 := by rw [← ByteArray.toList_eq, h]; rfl
      rw [Array.length_toList] at h2
      have h3 : s.size = 0 := h2
      omega
    have hie : s.toList.isEmpty = false := by simpa using hne
    obtain ⟨x, hx⟩ : ∃ x, x = (bytesOf s).getD 0 0 := ⟨_, rfl⟩
    have hx0 : ((s[0]'hpos).toNat : Int) = x := by rw [hx, bytesOf_get hpos]
    have h48 : (s.toList == [48]) = decide (x = 48 ∧ n = 1) := by
      rw [Bool.eq_iff_iff, beq_iff_eq, decide_eq_true_eq, ByteArray.toList_eq]
      constructor
      · intro h
        have h1 : bytesOf s = [48] := by unfold bytesOf; rw [h]; rfl
        rw [h1] at hx hlen
        exact ⟨by rw [hx]; rfl, by simpa using hlen.symm⟩
      · rintro ⟨h1, h2⟩
        have h3 : s.data.toList.length = 1 := by rw [Array.length_toList]; show s.size = 1; omega
        obtain ⟨b, hb⟩ : ∃ b, s.data.toList = [b] := List.length_eq_one_iff.1 h3
        have h4 : bytesOf s = [(b.toNat : Int)] := by unfold bytesOf; rw [hb]; rfl
        rw [h4] at hx
        have h5 : b.toNat = 48 := by have : x = (b.toNat : Int) := by rw [hx]; rfl
                                     omega
        rw [hb, show b = 48 from UInt8.toNat_inj.1 h5]
    have HLEN := Lib.hid hlen
    have HX := Lib.hid hx
    clear hlen hx
    by_cases hbad : x = 48 ∧ n ≠ 1
    · have h49 : (s.toList == [48]) = false := by rw [h48]; exact decide_eq_false (fun h => hbad.2 h.2)
      have hv : Hid (decide (NTx (bytesOf s)) = false) := by
        show _ = _
        exact decide_eq_false (fun h => hbad.2 (by rw [← HLEN.out]; exact h.2.1 (by rw [← HX.out]; exact hbad.1)))
      obtain ⟨rfl, _⟩ := hbad
      clear h48
      go_enter Try.func55, Try.ntmps55
      go_wp2_with fail
      go_ret
      exact ⟨by rw [hv.out]; rfl, Kept.refl _ _⟩
    · have hld : (bytesOf s).getD 0 0 = 48 → (bytesOf s).length = 1 := by rw [← HX.out, HLEN.out]; intro h; by_cases h1 : n = 1; exact h1; exact absurd ⟨h, h1⟩ hbad
      have HLD := Lib.hid hld
      clear hld
      have hor : (x = 48 ∧ (s.toList == [48]) = true) ∨ (¬ x = 48) := by
        by_cases h1 : x = 48
        · exact .inl ⟨h1, by rw [h48]; exact decide_eq_true ⟨h1, by by_cases h2 : n = 1; exact h2; exact absurd ⟨h1, h2⟩ hbad⟩⟩
        · exact .inr h1
      clear hbad h48
      rcases hor with ⟨rfl, h48⟩ | hx48
      all_goals
        go_enter Try.func55, Try.ntmps55
        go_wp2_with fail
        go_loopw [4] (fun _ wr => ∃ k : Nat, k ≤ n ∧ Hid (DecTo (bytesOf s) k) ∧ Hid (wr.heap[w.heap.size]? = some (.stringIter s k)) ∧ Hid (Kept [] w wr)) (fun _ wr => n - wr.iterPos w.heap.size)
        case atStart => exact ⟨0, Nat.zero_le _, fun i hi => by omega, World.iter_heap _ _ _, (Kept.refl [] w).alloc _⟩
        case round =>
          obtain ⟨k, hk, hO, hI, hK⟩ := hrel
          have hI0 := hI
          by_cases hlt : k < n
          · obtain ⟨r, pos, hnx, r0, r1, hiff, hdig⟩ := next_dig Try.prog wr w.heap.size s k hI.out (by omega)
            have e1 : IntKind.i64.wrap r = r := IntWalk.i64_in _ (by omega)
            obtain ⟨W, hW⟩ : ∃ W, W = wr.iterAt w.heap.size s pos := ⟨_, rfl⟩
            have hIW := Lib.hid (show W.heap[w.heap.size]? = some (.stringIter s pos) by rw [hW]; exact Lib.iterAt_heap wr w.heap.size s k pos hI.out)
            have hKW := Lib.hid (show Kept [] w W by rw [hW]; exact kept_iterAt hK.out (Nat.le_refl _) s pos)
            rw [← hW] at hnx
            have hsz : w.heap.size < W.heap.size := (Array.getElem?_eq_some_iff.1 hIW.out).1
            clear hW hI hK
            by_cases hin : 48 ≤ r ∧ r ≤ 57
            · have hb := Lib.hid (decide_eq_true hin)
              have hO2 := Lib.hid (hO.out.more rfl (hiff.1 hin))
              obtain rfl := (hdig hin).2
              clear hin hiff hdig hO
              go_wp2_with fail
              refine (inOrder_any _ _ _ _ _ (rd_three57 _ _) _ (ord_three57 _)).mono ?_
              rintro e w1 ⟨rfl, hq⟩
              rw [hb.out]
              have hI2 := Lib.hid (show w1.heap[w.heap.size]? = some (.stringIter s (k + 1)) by rw [hq.block w.heap.size (by simp; omega) (by simp), Below.heap_alloc _ _ _ hsz]; exact hIW.out)
              have hK2 := Lib.hid (hKW.out.trans0 hq.peel)
              clear hq hnx hsz
              go_wp2_with fail
              go_roundw
              case rel => exact ⟨k + 1, by omega, hO2, hI2, hK2⟩
              case measure => simp [World.iterPos, hI2.out, hI0.out]; omega
            · have hb := Lib.hid (decide_eq_false hin)
              have hv : Hid (decide (NTx (bytesOf s)) = false) := by
                show _ = _
                exact decide_eq_false (fun h => hin (hiff.2 (dec_at h.2.2 (by rw [HLEN.out]; exact hlt))))
              clear hin hiff hdig
              go_wp2_with fail
              refine (inOrder_any _ _ _ _ _ (rd_three57 _ _) _ (ord_three57 _)).mono ?_
              rintro e w1 ⟨rfl, hq⟩
              rw [hb.out]
              have hK2 := Lib.hid (hKW.out.trans0 hq.peel)
              clear hq hnx hsz
              go_wp2_with fail
              go_ret
              exact ⟨by rw [hv.out]; rfl, hK2.out⟩
          · obtain rfl : k = n := by omega
            have hnx : ∀ ty, (Instr.next (.pointer (some ⟨w.heap.size, 0, none⟩)) true ty).run Try.prog wr = .ok (.tuple #[.bool false]) wr := fun ty => Lib.run_next_end_at wr w.heap.size s k ty hI.out (by omega)
            have hv : Hid (decide (NTx (bytesOf s)) = true) := by
              show _ = _
              exact decide_eq_true ⟨by rw [HLEN.out]; omega, HLD.out, decTo_all (by rw [HLEN.out]; exact hO.out)⟩
            go_wp2_with fail
            go_ret
            exact ⟨by rw [hv.out]; rfl, hK.out⟩

end Go.Proofs.Ytledbpiaipmgkaa
