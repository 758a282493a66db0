/-
  Contracts of the model's l8Strip and l8Inner. Condition: the text is no longer than a million and a half.
-/
import Derived.Test.YtlhiahhpmjiioacGreatDoorPshR
import Derived.Test.YtlhiahhpmjiioacGreatDoorRdE
namespace Go.Proofs.YtlhiahhpmjiioacGreatDoor
open Go.RowKit

def strLen : Value → Nat
  | .string s => s.size
  | _ => 0
theorem endB_snoc (r : List UInt8) : endB (r ++ [32]) = endB r := by
  unfold endB
  rw [List.reverse_append]
  rfl
theorem endB_id {l : List UInt8} (h : l.getLast? ≠ some 32) : endB l = l := by
  have := endB_at (l := l) (b := []) AllB.nil h
  rwa [List.append_nil] at this
theorem last_split {l : List UInt8} {n : Nat} {b : UInt8} (hn : l.length = n + 1) (hb : l[n]? = some b) : l = l.take n ++ [b] ∧ l.getLast? = some b := by
  have h1 : l = l.take n ++ [b] := by
    obtain ⟨h1, h2⟩ := List.getElem?_eq_some_iff.1 hb
    have := List.take_succ_eq_append_getElem h1
    rw [List.take_of_length_le (by omega), h2] at this
    exact this
  refine ⟨h1, ?_⟩
  rw [List.getLast?_eq_getElem?, hn]; exact hb

theorem strB_dropM (l : List UInt8) {S : ByteArray} (h : S.data.toList = l) (n : Nat) : S.extract n S.size = strB (l.drop n) := by subst h; exact Lib.extract_from _ _
theorem strB_takeM (l : List UInt8) {S : ByteArray} (h : S.data.toList = l) (n : Nat) : S.extract 0 n = strB (l.take n) := by subst h; exact Lib.extract_upto _ _

set_option maxHeartbeats 1000000 in
theorem l8Strip_any (l : List UInt8) (w : World) (hl : l.length ≤ 1500000) :
    Calls Tryz.prog 17 #[.string (strB l)] w (Ans w (.string (strB (stripM l)))) := by
  go_enter Tryz.func17, Tryz.ntmps17
  go_wp2_with fail
  go_loopw [0] (fun t wr => ∃ m : List UInt8, t = .string (strB m) ∧ Hid (blk m = blk l) ∧ m.length ≤ 1500000 ∧ wr = w) (fun t _ => strLen t)
  case atStart => exact ⟨l, rfl, rfl, hl, rfl⟩
  case round =>
    obtain ⟨m, rfl, hM, hml, rfl⟩ := hrel
    obtain ⟨S, hS⟩ : ∃ S, strB m = S := ⟨_, rfl⟩
    have hsz : S.size = m.length := by rw [← hS, strB_size]
    have hbs : S.data.toList = m := by rw [← hS]; rfl
    rw [hS]
    have HS := Lib.hid hS
    by_cases hp : 0 < S.size
    · have hb := byte_at hbs hp
      generalize hB : S[0] = b at hb
      have hb256 := b.toNat_lt
      have hp' : (0 : Int) < S.size := by omega
      by_cases h32 : b = 32
      · have hbi : (b.toNat : Int) = 32 := by rw [h32]; rfl
        have hM2 : Hid (blk m.tail = blk l) := by
          show _ = _
          rw [← hM.out]
          cases m with
          | nil => simp at hb
          | cons c m => simp at hb; subst hb; rw [blk, if_pos h32]; rfl
        have hd := strB_dropM m hbs 1
        rw [List.drop_one] at hd
        have hml2 : m.tail.length ≤ 1500000 := by rw [List.length_tail]; omega
        have hst : strLen (.string (strB m.tail)) < strLen (.string S) := by show (strB _).size < S.size; rw [strB_size, List.length_tail]; omega
        clear hsz hbs hb hS hM
        go_wp2_with fail
        go_roundw
        case rel => exact ⟨m.tail, by first | rfl | exact congrArg Value.string hd, hM2, hml2, trivial⟩
        case measure => (first | exact hst | (rw [hd]; exact hst))
      · have hbi : ¬ (b.toNat : Int) = 32 := by intro e; exact h32 (UInt8.toNat_inj.1 (by show b.toNat = 32; omega))
        have hbi2 : ((b.toNat : Int) == 32) = false := by rw [beq_eq_false_iff_ne]; exact hbi
        have hb0 : m.head? ≠ some 32 := by rw [List.head?_eq_getElem?, hb]; intro e; exact h32 (by simpa using e)
        have hq : Hid (m = blk l) := by
          show _ = _
          rw [← hM.out, blk_id hb0]
        clear hM hb0
        go_wp2_with fail
        go_loopw [0] (fun t wr' => ∃ q : List UInt8, t = .string (strB q) ∧ Hid (endB q = endB m) ∧ q.length ≤ 1500000 ∧ wr' = wr) (fun t _ => strLen t)
        case atStart => exact ⟨m, congrArg Value.string HS.out.symm, rfl, hml, rfl⟩
        case round =>
          obtain ⟨q, rfl, hQ, hql, rfl⟩ := hrel
          have HQ := Lib.hid hq
          clear hq
          obtain ⟨S2, hS2⟩ : ∃ S, strB q = S := ⟨_, rfl⟩
          have hsz2 : S2.size = q.length := by rw [← hS2, strB_size]
          have hbs2 : S2.data.toList = q := by rw [← hS2]; rfl
          rw [hS2]
          by_cases hp2 : 0 < S2.size
          · obtain ⟨n, hn⟩ : ∃ n, S2.size = n + 1 := ⟨S2.size - 1, by omega⟩
            have hnl : n < S2.size := by omega
            have hb2 := byte_at hbs2 hnl
            generalize hB2 : S2[n] = b2 at hb2
            have hb2256 := b2.toNat_lt
            have hp2' : (0 : Int) < S2.size := by omega
            have e1 : IntKind.i64.wrap ((S2.size : Int) - 1) = (n : Int) := by rw [IntWalk.i64_in _ (by omega)]; omega
            obtain ⟨hsp, hls⟩ := last_split (by omega) hb2
            by_cases h322 : b2 = 32
            · have hbi2 : (b2.toNat : Int) = 32 := by rw [h322]; rfl
              have hQ2 : Hid (endB (q.take n) = endB m) := by
                show _ = _
                rw [← hQ.out]
                conv => rhs; rw [hsp, h322, endB_snoc]
              have hd := strB_takeM q hbs2 n
              have hql2 : (q.take n).length ≤ 1500000 := by rw [List.length_take]; omega
              have hst : strLen (.string (strB (q.take n))) < strLen (.string S2) := by show (strB _).size < S2.size; rw [strB_size, List.length_take]; omega
              clear hsz2 hbs2 hb2 hS2 hQ hsp hls hn HQ
              go_wp2_with fail
              go_roundw
              case rel => exact ⟨q.take n, by first | rfl | exact congrArg Value.string hd, hQ2, hql2, trivial⟩
              case measure => (first | exact hst | (rw [hd]; exact hst))
            · have hbi2 : ¬ (b2.toNat : Int) = 32 := by intro e; exact h322 (UInt8.toNat_inj.1 (by show b2.toNat = 32; omega))
              have hbi3 : ((b2.toNat : Int) == 32) = false := by rw [beq_eq_false_iff_ne]; exact hbi2
              have hv : Hid (S2 = strB (stripM l)) := by
                show _ = _
                rw [← hS2]
                unfold stripM
                rw [← HQ.out, ← hQ.out, endB_id (by rw [hls]; intro e; exact h322 (by simpa using e))]
              clear hsz2 hbs2 hb2 hS2 hQ hsp hls hn HQ
              go_wp2_with fail
              go_ret
              exact ⟨by rw [← hv.out]; rfl, Kept.refl _ _⟩
          · have hp2' : ¬ (0 : Int) < S2.size := by omega
            have hv : Hid (S2 = strB (stripM l)) := by
              show _ = _
              rw [← hS2]
              unfold stripM
              have : q = [] := List.length_eq_zero_iff.1 (by omega)
              rw [← HQ.out, ← hQ.out, this]; rfl
            clear hsz2 hbs2 hS2 hQ
            go_wp2_with fail
            go_ret
            exact ⟨by rw [← hv.out]; rfl, Kept.refl _ _⟩
    · have hp' : ¬ (0 : Int) < S.size := by omega
      have hb0 : m.head? ≠ some 32 := by
        have : m = [] := List.length_eq_zero_iff.1 (by omega)
        rw [this]; simp
      have hq : Hid (m = blk l) := by
        show _ = _
        rw [← hM.out, blk_id hb0]
      clear hM hb0
      go_wp2_with fail
      go_loopw [0] (fun t wr' => ∃ q : List UInt8, t = .string (strB q) ∧ Hid (endB q = endB m) ∧ q.length ≤ 1500000 ∧ wr' = wr) (fun t _ => strLen t)
      case atStart => exact ⟨m, congrArg Value.string HS.out.symm, rfl, hml, rfl⟩
      case round =>
        obtain ⟨q, rfl, hQ, hql, rfl⟩ := hrel
        have HQ := Lib.hid hq
        clear hq
        obtain ⟨S2, hS2⟩ : ∃ S, strB q = S := ⟨_, rfl⟩
        have hsz2 : S2.size = q.length := by rw [← hS2, strB_size]
        have hbs2 : S2.data.toList = q := by rw [← hS2]; rfl
        rw [hS2]
        by_cases hp2 : 0 < S2.size
        · obtain ⟨n, hn⟩ : ∃ n, S2.size = n + 1 := ⟨S2.size - 1, by omega⟩
          have hnl : n < S2.size := by omega
          have hb2 := byte_at hbs2 hnl
          generalize hB2 : S2[n] = b2 at hb2
          have hb2256 := b2.toNat_lt
          have hp2' : (0 : Int) < S2.size := by omega
          have e1 : IntKind.i64.wrap ((S2.size : Int) - 1) = (n : Int) := by rw [IntWalk.i64_in _ (by omega)]; omega
          obtain ⟨hsp, hls⟩ := last_split (by omega) hb2
          by_cases h322 : b2 = 32
          · have hbi2 : (b2.toNat : Int) = 32 := by rw [h322]; rfl
            have hQ2 : Hid (endB (q.take n) = endB m) := by
              show _ = _
              rw [← hQ.out]
              conv => rhs; rw [hsp, h322, endB_snoc]
            have hd := strB_takeM q hbs2 n
            have hql2 : (q.take n).length ≤ 1500000 := by rw [List.length_take]; omega
            have hst : strLen (.string (strB (q.take n))) < strLen (.string S2) := by show (strB _).size < S2.size; rw [strB_size, List.length_take]; omega
            clear hsz2 hbs2 hb2 hS2 hQ hsp hls hn HQ
            go_wp2_with fail
            go_roundw
            case rel => exact ⟨q.take n, by first | rfl | exact congrArg Value.string hd, hQ2, hql2, trivial⟩
            case measure => (first | exact hst | (rw [hd]; exact hst))
          · have hbi2 : ¬ (b2.toNat : Int) = 32 := by intro e; exact h322 (UInt8.toNat_inj.1 (by show b2.toNat = 32; omega))
            have hbi3 : ((b2.toNat : Int) == 32) = false := by rw [beq_eq_false_iff_ne]; exact hbi2
            have hv : Hid (S2 = strB (stripM l)) := by
              show _ = _
              rw [← hS2]
              unfold stripM
              rw [← HQ.out, ← hQ.out, endB_id (by rw [hls]; intro e; exact h322 (by simpa using e))]
            clear hsz2 hbs2 hb2 hS2 hQ hsp hls hn HQ
            go_wp2_with fail
            go_ret
            exact ⟨by rw [← hv.out]; rfl, Kept.refl _ _⟩
        · have hp2' : ¬ (0 : Int) < S2.size := by omega
          have hv : Hid (S2 = strB (stripM l)) := by
            show _ = _
            rw [← hS2]
            unfold stripM
            have : q = [] := List.length_eq_zero_iff.1 (by omega)
            rw [← HQ.out, ← hQ.out, this]; rfl
          clear hsz2 hbs2 hS2 hQ
          go_wp2_with fail
          go_ret
          exact ⟨by rw [← hv.out]; rfl, Kept.refl _ _⟩

end Go.Proofs.YtlhiahhpmjiioacGreatDoor
