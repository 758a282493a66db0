/-
  Contracts of the model's l8Inner and l8Words. Condition: the text is no longer than a million and a half.
-/
import Derived.Test.YtlhiahhpmjiioacGreatDoorPmA
namespace Go.Proofs.YtlhiahhpmjiioacGreatDoor
open Go.RowKit

def innS (l : List UInt8) : ByteArray := match innerM l with | some i => strB i | none => ⟨#[]⟩
theorem inn_no {l : List UInt8} (h : ¬ (2 ≤ (stripM l).length ∧ (stripM l).head? = some 40 ∧ (stripM l).getLast? = some 41)) : innerM l = none ∧ innS l = ⟨#[]⟩ := by
  have : innerM l = none := if_neg h
  exact ⟨this, by unfold innS; rw [this]⟩
theorem inn_yes {l : List UInt8} (h : 2 ≤ (stripM l).length ∧ (stripM l).head? = some 40 ∧ (stripM l).getLast? = some 41) : (innerM l).isSome = true ∧ innS l = strB ((stripM l).drop 1).dropLast := by
  have : innerM l = some (((stripM l).drop 1).dropLast) := if_pos h
  exact ⟨by rw [this]; rfl, by unfold innS; rw [this]⟩
theorem blk_endB_len (l : List UInt8) : (stripM l).length ≤ l.length := by
  obtain ⟨b, b', _, _, e⟩ := strip_split l
  have := congrArg List.length e
  simp only [List.length_append] at this; omega

set_option maxHeartbeats 1000000 in
theorem l8Inner_any (l : List UInt8) (w : World) (hl : l.length ≤ 1500000) :
    Calls Tryz.prog 19 #[.string (strB l)] w (Ans w (.tuple #[.string (innS l), .bool (innerM l).isSome])) := by
  have hlen := blk_endB_len l
  obtain ⟨S, hS⟩ : ∃ S, strB (stripM l) = S := ⟨_, rfl⟩
  have hsz : S.size = (stripM l).length := by rw [← hS, strB_size]
  have hbs : S.data.toList = stripM l := by rw [← hS]; rfl
  have HS := Lib.hid hS
  have hSl : S.size ≤ 1500000 := by omega
  by_cases h2 : S.size < 2
  · have Q := Lib.hid (inn_no (l := l) (fun h => by omega))
    have h2' : (S.size : Int) < 2 := by omega
    clear hS hsz hbs hlen
    go_enter Tryz.func19, Tryz.ntmps19
    go_wp2_with fail
    refine (l8Strip_any l _ hl).mono ?_
    rintro e w1 ⟨rfl, k1⟩
    rw [HS.out]
    have K1 := Lib.hid k1
    clear k1
    go_wp2_with fail
    go_ret2
    exact ⟨by rw [Q.out.1, Q.out.2]; rfl, K1.out⟩
  · have h2' : ¬ (S.size : Int) < 2 := by omega
    have h0 : 0 < S.size := by omega
    obtain ⟨n, hn⟩ : ∃ n, S.size = n + 1 := ⟨S.size - 1, by omega⟩
    have hnl : n < S.size := by omega
    have hn1 : 1 ≤ n := by omega
    have hn1' : (1 : Int) ≤ n := by omega
    have hnI : (n : Int) ≤ S.size := by omega
    have e1 : IntKind.i64.wrap ((S.size : Int) - 1) = (n : Int) := by rw [IntWalk.i64_in _ (by omega)]; omega
    have hb := byte_at hbs h0
    have hc := byte_at hbs hnl
    generalize hB : S[0] = b at hb
    generalize hC : S[n] = c at hc
    have hb256 := b.toNat_lt
    have hc256 := c.toNat_lt
    obtain ⟨hsp, hls⟩ := last_split (by omega) hc
    by_cases h40 : b = 40
    · have hbi : (b.toNat : Int) = 40 := by rw [h40]; rfl
      by_cases h41 : c = 41
      · have hci : (c.toNat : Int) = 41 := by rw [h41]; rfl
        have Q := Lib.hid (inn_yes (l := l) ⟨by omega, by rw [List.head?_eq_getElem?, hb, h40], by rw [hls, h41]⟩)
        have hm := strB_mid (stripM l) hbs 1 n
        have hm2 : Hid (strB (((stripM l).drop 1).take (n - 1)) = innS l) := by
          show _ = _
          rw [Q.out.2, List.dropLast_eq_take, List.length_drop, ← hsz, hn]; rfl
        clear hS hsz hbs hlen hb hc hsp hls hn
        go_enter Tryz.func19, Tryz.ntmps19
        go_wp2_with fail
        refine (l8Strip_any l _ hl).mono ?_
        rintro e w1 ⟨rfl, k1⟩
        rw [HS.out]
        have K1 := Lib.hid k1
        clear k1
        go_wp2_with fail
        go_ret2
        exact ⟨by rw [Q.out.1, ← hm2.out, List.drop_one]; rfl, K1.out⟩
      · have hci : ¬ (c.toNat : Int) = 41 := by intro e; exact h41 (UInt8.toNat_inj.1 (by show c.toNat = 41; omega))
        have hci2 : ((c.toNat : Int) == 41) = false := by rw [beq_eq_false_iff_ne]; exact hci
        have hci3 : ((c.toNat : Int) != 41) = true := by rw [bne, hci2]; rfl
        have Q := Lib.hid (inn_no (l := l) (fun h => by rw [hls] at h; exact h41 (by simpa using h.2.2)))
        clear hS hsz hbs hlen hb hc hsp hls hn
        go_enter Tryz.func19, Tryz.ntmps19
        go_wp2_with fail
        refine (l8Strip_any l _ hl).mono ?_
        rintro e w1 ⟨rfl, k1⟩
        rw [HS.out]
        have K1 := Lib.hid k1
        clear k1
        go_wp2_with fail
        go_ret2
        exact ⟨by rw [Q.out.1, Q.out.2]; rfl, K1.out⟩
    · have hbi : ¬ (b.toNat : Int) = 40 := by intro e; exact h40 (UInt8.toNat_inj.1 (by show b.toNat = 40; omega))
      have hbi2 : ((b.toNat : Int) == 40) = false := by rw [beq_eq_false_iff_ne]; exact hbi
      have hbi3 : ((b.toNat : Int) != 40) = true := by rw [bne, hbi2]; rfl
      have Q := Lib.hid (inn_no (l := l) (fun h => by rw [List.head?_eq_getElem?, hb] at h; exact h40 (by simpa using h.2.1)))
      clear hS hsz hbs hlen hb hc hsp hls hn
      go_enter Tryz.func19, Tryz.ntmps19
      go_wp2_with fail
      refine (l8Strip_any l _ hl).mono ?_
      rintro e w1 ⟨rfl, k1⟩
      rw [HS.out]
      have K1 := Lib.hid k1
      clear k1
      go_wp2_with fail
      go_ret2
      exact ⟨by rw [Q.out.1, Q.out.2]; rfl, K1.out⟩

end Go.Proofs.YtlhiahhpmjiioacGreatDoor
