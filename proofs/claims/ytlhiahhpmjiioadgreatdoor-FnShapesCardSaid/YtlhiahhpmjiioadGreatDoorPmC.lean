/-
  Several of my texts joined: the contracts of the functions that they name, each with the conditions that it states.
-/
import Derived.Test.YtlhiahhpmjiioadGreatDoorPshR
import Derived.Test.YtlhiahhpmjiioadGreatDoorRdE
import Derived.ArgAppend
namespace Go.Proofs.YtlhiahhpmjiioadGreatDoor
open Go.RowKit

def strLen : Value → Nat
  | .string s => s.size
  | _ => 0
theorem endB_snoc (r : List UInt8) : endB (r ++ [32]) = endB r := by
  unfold endB
  rw [List.reverse_append]
  rfl
theorem endB_id {l : List UInt8} (h : l.getLast? ≠ some 32) : endB l = l := by
  have := endB_at (l := l) (b := []) AllB.nil h
  rwa [List.append_nil] at this
theorem last_split {l : List UInt8} {n : Nat} {b : UInt8} (hn : l.length = n + 1) (hb : l[n]? = some b) : l = l.take n ++ [b] ∧ l.getLast? = some b := by
  have h1 : l = l.take n ++ [b] := by
    obtain ⟨h1, h2⟩ := List.getElem?_eq_some_iff.1 hb
    have := List.take_succ_eq_append_getElem h1
    rw [List.take_of_length_le (by omega), h2] at this
    exact this
  refine ⟨h1, ?_⟩
  rw [List.getLast?_eq_getElem?, hn]; exact hb

theorem strB_dropM (l : List UInt8) {S : ByteArray} (h : S.data.toList = l) (n : Nat) : S.extract n S.size = strB (l.drop n) := by subst h; exact Lib.extract_from _ _
theorem strB_takeM (l : List UInt8) {S : ByteArray} (h : S.data.toList = l) (n : Nat) : S.extract 0 n = strB (l.take n) := by subst h; exact Lib.extract_upto _ _

set_option maxHeartbeats 1000000 in
theorem l8Strip_any (l : List UInt8) (w : World) (hl : l.length ≤ 1500000) :
    Calls Tryz.prog 59 #[.string (strB l)] w (Ans w (.string (strB (stripM l)))) := by
  go_enter Tryz.func59, Tryz.ntmps59
  go_wp2_with fail
  go_loopw [0] (fun t wr => ∃ m : List UInt8, t = .string (strB m) ∧ Hid (blk m = blk l) ∧ m.length ≤ 1500000 ∧ wr = w) (fun t _ => strLen t)
  case atStart => exact ⟨l, rfl, rfl, hl, rfl⟩
  case round =>
    obtain ⟨m, rfl, hM, hml, rfl⟩ := hrel
    obtain ⟨S, hS⟩ : ∃ S, strB m = S := ⟨_, rfl⟩
    have hsz : S.size = m.length := by rw [← hS, strB_size]
    have hbs : S.data.toList = m := by rw [← hS]; rfl
    rw [hS]
    have HS := Lib.hid hS
    by_cases hp : 0 < S.size
    · have hb := byte_at hbs hp
      generalize hB : S[0] = b at hb
      have hb256 := b.toNat_lt
      have hp' : (0 : Int) < S.size := by omega
      by_cases h32 : b = 32
      · have hbi : (b.toNat : Int) = 32 := by rw [h32]; rfl
        have hM2 : Hid (blk m.tail = blk l) := by
          show _ = _
          rw [← hM.out]
          cases m with
          | nil => simp at hb
          | cons c m => simp at hb; subst hb; rw [blk, if_pos h32]; rfl
        have hd := strB_dropM m hbs 1
        rw [List.drop_one] at hd
        have hml2 : m.tail.length ≤ 1500000 := by rw [List.length_tail]; omega
        have hst : strLen (.string (strB m.tail)) < strLen (.string S) := by show (strB _).size < S.size; rw [strB_size, List.length_tail]; omega
        clear hsz hbs hb hS hM
        go_wp2_with fail
        go_roundw
        case rel => exact ⟨m.tail, by first | rfl | exact congrArg Value.string hd, hM2, hml2, trivial⟩
        case measure => (first | exact hst | (rw [hd]; exact hst))
      · have hbi : ¬ (b.toNat : Int) = 32 := by intro e; exact h32 (UInt8.toNat_inj.1 (by show b.toNat = 32; omega))
        have hbi2 : ((b.toNat : Int) == 32) = false := by rw [beq_eq_false_iff_ne]; exact hbi
        have hb0 : m.head? ≠ some 32 := by rw [List.head?_eq_getElem?, hb]; intro e; exact h32 (by simpa using e)
        have hq : Hid (m = blk l) := by
          show _ = _
          rw [← hM.out, blk_id hb0]
        clear hM hb0
        go_wp2_with fail
        go_loopw [0] (fun t wr' => ∃ q : List UInt8, t = .string (strB q) ∧ Hid (endB q = endB m) ∧ q.length ≤ 1500000 ∧ wr' = wr) (fun t _ => strLen t)
        case atStart => exact ⟨m, congrArg Value.string HS.out.symm, rfl, hml, rfl⟩
        case round =>
          obtain ⟨q, rfl, hQ, hql, rfl⟩ := hrel
          have HQ := Lib.hid hq
          clear hq
          obtain ⟨S2, hS2⟩ : ∃ S, strB q = S := ⟨_, rfl⟩
          have hsz2 : S2.size = q.length := by rw [← hS2, strB_size]
          have hbs2 : S2.data.toList = q := by rw [← hS2]; rfl
          rw [hS2]
          by_cases hp2 : 0 < S2.size
          · obtain ⟨n, hn⟩ : ∃ n, S2.size = n + 1 := ⟨S2.size - 1, by omega⟩
            have hnl : n < S2.size := by omega
            have hb2 := byte_at hbs2 hnl
            generalize hB2 : S2[n] = b2 at hb2
            have hb2256 := b2.toNat_lt
            have hp2' : (0 : Int) < S2.size := by omega
            have e1 : IntKind.i64.wrap ((S2.size : Int) - 1) = (n : Int) := by rw [IntWalk.i64_in _ (by omega)]; omega
            obtain ⟨hsp, hls⟩ := last_split (by omega) hb2
            by_cases h322 : b2 = 32
            · have hbi2 : (b2.toNat : Int) = 32 := by rw [h322]; rfl
              have hQ2 : Hid (endB (q.take n) = endB m) := by
                show _ = _
                rw [← hQ.out]
                conv => rhs; rw [hsp, h322, endB_snoc]
              have hd := strB_takeM q hbs2 n
              have hql2 : (q.take n).length ≤ 1500000 := by rw [List.length_take]; omega
              have hst : strLen (.string (strB (q.take n))) < strLen (.string S2) := by show (strB _).size < S2.size; rw [strB_size, List.length_take]; omega
              clear hsz2 hbs2 hb2 hS2 hQ hsp hls hn HQ
              go_wp2_with fail
              go_roundw
              case rel => exact ⟨q.take n, by first | rfl | exact congrArg Value.string hd, hQ2, hql2, trivial⟩
              case measure => (first | exact hst | (rw [hd]; exact hst))
            · have hbi2 : ¬ (b2.toNat : Int) = 32 := by intro e; exact h322 (UInt8.toNat_inj.1 (by show b2.toNat = 32; omega))
              have hbi3 : ((b2.toNat : Int) == 32) = false := by rw [beq_eq_false_iff_ne]; exact hbi2
              have hv : Hid (S2 = strB (stripM l)) := by
                show _ = _
                rw [← hS2]
                unfold stripM
                rw [← HQ.out, ← hQ.out, endB_id (by rw [hls]; intro e; exact h322 (by simpa using e))]
              clear hsz2 hbs2 hb2 hS2 hQ hsp hls hn HQ
              go_wp2_with fail
              go_ret
              exact ⟨by rw [← hv.out]; rfl, Kept.refl _ _⟩
          · have hp2' : ¬ (0 : Int) < S2.size := by omega
            have hv : Hid (S2 = strB (stripM l)) := by
              show _ = _
              rw [← hS2]
              unfold stripM
              have : q = [] := List.length_eq_zero_iff.1 (by omega)
              rw [← HQ.out, ← hQ.out, this]; rfl
            clear hsz2 hbs2 hS2 hQ
            go_wp2_with fail
            go_ret
            exact ⟨by rw [← hv.out]; rfl, Kept.refl _ _⟩
    · have hp' : ¬ (0 : Int) < S.size := by omega
      have hb0 : m.head? ≠ some 32 := by
        have : m = [] := List.length_eq_zero_iff.1 (by omega)
        rw [this]; simp
      have hq : Hid (m = blk l) := by
        show _ = _
        rw [← hM.out, blk_id hb0]
      clear hM hb0
      go_wp2_with fail
      go_loopw [0] (fun t wr' => ∃ q : List UInt8, t = .string (strB q) ∧ Hid (endB q = endB m) ∧ q.length ≤ 1500000 ∧ wr' = wr) (fun t _ => strLen t)
      case atStart => exact ⟨m, congrArg Value.string HS.out.symm, rfl, hml, rfl⟩
      case round =>
        obtain ⟨q, rfl, hQ, hql, rfl⟩ := hrel
        have HQ := Lib.hid hq
        clear hq
        obtain ⟨S2, hS2⟩ : ∃ S, strB q = S := ⟨_, rfl⟩
        have hsz2 : S2.size = q.length := by rw [← hS2, strB_size]
        have hbs2 : S2.data.toList = q := by rw [← hS2]; rfl
        rw [hS2]
        by_cases hp2 : 0 < S2.size
        · obtain ⟨n, hn⟩ : ∃ n, S2.size = n + 1 := ⟨S2.size - 1, by omega⟩
          have hnl : n < S2.size := by omega
          have hb2 := byte_at hbs2 hnl
          generalize hB2 : S2[n] = b2 at hb2
          have hb2256 := b2.toNat_lt
          have hp2' : (0 : Int) < S2.size := by omega
          have e1 : IntKind.i64.wrap ((S2.size : Int) - 1) = (n : Int) := by rw [IntWalk.i64_in _ (by omega)]; omega
          obtain ⟨hsp, hls⟩ := last_split (by omega) hb2
          by_cases h322 : b2 = 32
          · have hbi2 : (b2.toNat : Int) = 32 := by rw [h322]; rfl
            have hQ2 : Hid (endB (q.take n) = endB m) := by
              show _ = _
              rw [← hQ.out]
              conv => rhs; rw [hsp, h322, endB_snoc]
            have hd := strB_takeM q hbs2 n
            have hql2 : (q.take n).length ≤ 1500000 := by rw [List.length_take]; omega
            have hst : strLen (.string (strB (q.take n))) < strLen (.string S2) := by show (strB _).size < S2.size; rw [strB_size, List.length_take]; omega
            clear hsz2 hbs2 hb2 hS2 hQ hsp hls hn HQ
            go_wp2_with fail
            go_roundw
            case rel => exact ⟨q.take n, by first | rfl | exact congrArg Value.string hd, hQ2, hql2, trivial⟩
            case measure => (first | exact hst | (rw [hd]; exact hst))
          · have hbi2 : ¬ (b2.toNat : Int) = 32 := by intro e; exact h322 (UInt8.toNat_inj.1 (by show b2.toNat = 32; omega))
            have hbi3 : ((b2.toNat : Int) == 32) = false := by rw [beq_eq_false_iff_ne]; exact hbi2
            have hv : Hid (S2 = strB (stripM l)) := by
              show _ = _
              rw [← hS2]
              unfold stripM
              rw [← HQ.out, ← hQ.out, endB_id (by rw [hls]; intro e; exact h322 (by simpa using e))]
            clear hsz2 hbs2 hb2 hS2 hQ hsp hls hn HQ
            go_wp2_with fail
            go_ret
            exact ⟨by rw [← hv.out]; rfl, Kept.refl _ _⟩
        · have hp2' : ¬ (0 : Int) < S2.size := by omega
          have hv : Hid (S2 = strB (stripM l)) := by
            show _ = _
            rw [← hS2]
            unfold stripM
            have : q = [] := List.length_eq_zero_iff.1 (by omega)
            rw [← HQ.out, ← hQ.out, this]; rfl
          clear hsz2 hbs2 hS2 hQ
          go_wp2_with fail
          go_ret
          exact ⟨by rw [← hv.out]; rfl, Kept.refl _ _⟩

end Go.Proofs.YtlhiahhpmjiioadGreatDoor

namespace Go.Proofs.YtlhiahhpmjiioadGreatDoor
open Go.RowKit

def innS (l : List UInt8) : ByteArray := match innerM l with | some i => strB i | none => ⟨#[]⟩
theorem inn_no {l : List UInt8} (h : ¬ (2 ≤ (stripM l).length ∧ (stripM l).head? = some 40 ∧ (stripM l).getLast? = some 41)) : innerM l = none ∧ innS l = ⟨#[]⟩ := by
  have : innerM l = none := if_neg h
  exact ⟨this, by unfold innS; rw [this]⟩
theorem inn_yes {l : List UInt8} (h : 2 ≤ (stripM l).length ∧ (stripM l).head? = some 40 ∧ (stripM l).getLast? = some 41) : (innerM l).isSome = true ∧ innS l = strB ((stripM l).drop 1).dropLast := by
  have : innerM l = some (((stripM l).drop 1).dropLast) := if_pos h
  exact ⟨by rw [this]; rfl, by unfold innS; rw [this]⟩
theorem blk_endB_len (l : List UInt8) : (stripM l).length ≤ l.length := by
  obtain ⟨b, b', _, _, e⟩ := strip_split l
  have := congrArg List.length e
  simp only [List.length_append] at this; omega

set_option maxHeartbeats 1000000 in
theorem l8Inner_any (l : List UInt8) (w : World) (hl : l.length ≤ 1500000) :
    Calls Tryz.prog 60 #[.string (strB l)] w (Ans w (.tuple #[.string (innS l), .bool (innerM l).isSome])) := by
  have hlen := blk_endB_len l
  obtain ⟨S, hS⟩ : ∃ S, strB (stripM l) = S := ⟨_, rfl⟩
  have hsz : S.size = (stripM l).length := by rw [← hS, strB_size]
  have hbs : S.data.toList = stripM l := by rw [← hS]; rfl
  have HS := Lib.hid hS
  have hSl : S.size ≤ 1500000 := by omega
  by_cases h2 : S.size < 2
  · have Q := Lib.hid (inn_no (l := l) (fun h => by omega))
    have h2' : (S.size : Int) < 2 := by omega
    clear hS hsz hbs hlen
    go_enter Tryz.func60, Tryz.ntmps60
    go_wp2_with fail
    refine (l8Strip_any l _ hl).mono ?_
    rintro e w1 ⟨rfl, k1⟩
    rw [HS.out]
    have K1 := Lib.hid k1
    clear k1
    go_wp2_with fail
    go_ret2
    exact ⟨by rw [Q.out.1, Q.out.2]; rfl, K1.out⟩
  · have h2' : ¬ (S.size : Int) < 2 := by omega
    have h0 : 0 < S.size := by omega
    obtain ⟨n, hn⟩ : ∃ n, S.size = n + 1 := ⟨S.size - 1, by omega⟩
    have hnl : n < S.size := by omega
    have hn1 : 1 ≤ n := by omega
    have hn1' : (1 : Int) ≤ n := by omega
    have hnI : (n : Int) ≤ S.size := by omega
    have e1 : IntKind.i64.wrap ((S.size : Int) - 1) = (n : Int) := by rw [IntWalk.i64_in _ (by omega)]; omega
    have hb := byte_at hbs h0
    have hc := byte_at hbs hnl
    generalize hB : S[0] = b at hb
    generalize hC : S[n] = c at hc
    have hb256 := b.toNat_lt
    have hc256 := c.toNat_lt
    obtain ⟨hsp, hls⟩ := last_split (by omega) hc
    by_cases h40 : b = 40
    · have hbi : (b.toNat : Int) = 40 := by rw [h40]; rfl
      by_cases h41 : c = 41
      · have hci : (c.toNat : Int) = 41 := by rw [h41]; rfl
        have Q := Lib.hid (inn_yes (l := l) ⟨by omega, by rw [List.head?_eq_getElem?, hb, h40], by rw [hls, h41]⟩)
        have hm := strB_mid (stripM l) hbs 1 n
        have hm2 : Hid (strB (((stripM l).drop 1).take (n - 1)) = innS l) := by
          show _ = _
          rw [Q.out.2, List.dropLast_eq_take, List.length_drop, ← hsz, hn]; rfl
        clear hS hsz hbs hlen hb hc hsp hls hn
        go_enter Tryz.func60, Tryz.ntmps60
        go_wp2_with fail
        refine (l8Strip_any l _ hl).mono ?_
        rintro e w1 ⟨rfl, k1⟩
        rw [HS.out]
        have K1 := Lib.hid k1
        clear k1
        go_wp2_with fail
        go_ret2
        exact ⟨by rw [Q.out.1, ← hm2.out, List.drop_one]; rfl, K1.out⟩
      · have hci : ¬ (c.toNat : Int) = 41 := by intro e; exact h41 (UInt8.toNat_inj.1 (by show c.toNat = 41; omega))
        have hci2 : ((c.toNat : Int) == 41) = false := by rw [beq_eq_false_iff_ne]; exact hci
        have hci3 : ((c.toNat : Int) != 41) = true := by rw [bne, hci2]; rfl
        have Q := Lib.hid (inn_no (l := l) (fun h => by rw [hls] at h; exact h41 (by simpa using h.2.2)))
        clear hS hsz hbs hlen hb hc hsp hls hn
        go_enter Tryz.func60, Tryz.ntmps60
        go_wp2_with fail
        refine (l8Strip_any l _ hl).mono ?_
        rintro e w1 ⟨rfl, k1⟩
        rw [HS.out]
        have K1 := Lib.hid k1
        clear k1
        go_wp2_with fail
        go_ret2
        exact ⟨by rw [Q.out.1, Q.out.2]; rfl, K1.out⟩
    · have hbi : ¬ (b.toNat : Int) = 40 := by intro e; exact h40 (UInt8.toNat_inj.1 (by show b.toNat = 40; omega))
      have hbi2 : ((b.toNat : Int) == 40) = false := by rw [beq_eq_false_iff_ne]; exact hbi
      have hbi3 : ((b.toNat : Int) != 40) = true := by rw [bne, hbi2]; rfl
      have Q := Lib.hid (inn_no (l := l) (fun h => by rw [List.head?_eq_getElem?, hb] at h; exact h40 (by simpa using h.2.1)))
      clear hS hsz hbs hlen hb hc hsp hls hn
      go_enter Tryz.func60, Tryz.ntmps60
      go_wp2_with fail
      refine (l8Strip_any l _ hl).mono ?_
      rintro e w1 ⟨rfl, k1⟩
      rw [HS.out]
      have K1 := Lib.hid k1
      clear k1
      go_wp2_with fail
      go_ret2
      exact ⟨by rw [Q.out.1, Q.out.2]; rfl, K1.out⟩

end Go.Proofs.YtlhiahhpmjiioadGreatDoor

namespace Go.Proofs.YtlhiahhpmjiioadGreatDoor
open Go.RowKit

def wordsTo (l : List UInt8) (k : Nat) : List (List UInt8) := ((cutL 32 l).take k).filter fun x => !x.isEmpty
theorem wordsTo_next {l : List UInt8} {k : Nat} (h : k < (cutL 32 l).length) : wordsTo l (k + 1) = if (cutL 32 l).getD k [] = [] then wordsTo l k else wordsTo l k ++ [(cutL 32 l).getD k []] := by
  unfold wordsTo
  rw [List.take_succ_eq_append_getElem h, List.filter_append, List.getD_eq_getElem?_getD, List.getElem?_eq_getElem h, Option.getD_some]
  cases hx : (cutL 32 l)[k] with
  | nil => simp
  | cons b m => simp
theorem wordsTo_all (l : List UInt8) : wordsTo l (cutL 32 l).length = wordsM l := by unfold wordsTo wordsM; rw [List.take_length]
theorem wordsTo_len (l : List UInt8) (k : Nat) : (wordsTo l k).length ≤ l.length + 1 := by
  unfold wordsTo
  refine Nat.le_trans (List.length_filter_le _ _) ?_
  rw [List.length_take]
  have := cutL_len 32 l
  omega

/-- A string more at the end of an empty slice without room: in memory made now. -/
theorem appStr0 {w : World} {ops : Array Oper} {rest : List Oper} {o : Oper} {a : Act} {Q : Exit → Act → World → Prop} (hgd : o.guard = none) (s x : Operand)
    (ho : o.op = .call { callee := .builtin .append, args := #[s, x], argTypes := #[42, 42] })
    (b0 : Nat) (hs : a.eval s = .slice (some ⟨b0, 0, none⟩) 0 0)
    (g0 : Nat) (y : List UInt8) (hx : a.eval x = .slice (some ⟨g0, 0, none⟩) 1 1) (hc : w.cell? ⟨g0, 0, none⟩ = some (strV y))
    (h : ∀ v' w', OwS w.heap.size w' v' [y] → Kept [] w w' → wpList Tryz.prog ops Q rest (a.put o.dst v') w') :
    wpList Tryz.prog ops Q (o :: rest) a w := by
  obtain ⟨i0, hi, hz0, hz1, hz2⟩ := info_parts Tryz.infoStr
  refine wpList_append_grows w hgd s x 42 ho 9 i0 (.string ⟨#[]⟩) 1 16 Tryz.underlying42 hi hz0 hz1 hz2 rfl (by decide) (some ⟨b0, 0, none⟩) 0 0 [] hs (by simp) rfl (by intro b _ j u hj; simp at hj) ⟨g0, 0, none⟩ 1 1 [strV y] hx rfl ?_ ?_ (by decide) (by decide) (by decide) ?_
  · intro j u hj
    have hj0 : j = 0 := by
      have := (List.getElem?_eq_some_iff.1 hj).1
      simp at this; exact this
    subst hj0
    simp at hj
    subst hj
    rw [Addr.add_lit]; exact hc
  · intro u hu; simp at hu; subst hu; rfl
  · intro v' w' h1 h2
    exact h v' w' h1 ((Kept.refl [] w).grown h2 (fun k hk _ => by cases hk))

theorem OwS.mono {B B' : Nat} {w : World} {v : Value} {xs : List (List UInt8)} (h : OwS B w v xs) (hB : B' ≤ B) : OwS B' w v xs := by
  obtain ⟨h1, h2⟩ := h
  refine ⟨h1, ?_⟩
  rcases h2 with h2 | ⟨g, cap, cur, hv, hg, r⟩
  · exact Or.inl h2
  · exact Or.inr ⟨g, cap, cur, hv, Nat.le_trans hB hg, r⟩

set_option maxHeartbeats 1000000 in
theorem l8Words_any (l : List UInt8) (w : World) (hl : l.length ≤ 1500000) :
    Calls Tryz.prog 81 #[.string (strB l)] w (fun e w' => ∃ v, e = .returned v ∧ OwS w.heap.size w' v (wordsM l) ∧ Kept [] w w') := by
  obtain ⟨B, hB⟩ : ∃ B, B = w.heap.size := ⟨_, rfl⟩
  have HB := Lib.hid hB
  rw [← hB]
  clear hB
  go_enter Tryz.func81, Tryz.ntmps81
  go_wp2_with fail
  refine (l1Cut_any l 32 _ hl).mono ?_
  rintro e w1 ⟨v, rfl, ho, k1⟩
  have hpos : 0 < (cutL 32 l).length := List.length_pos_iff.2 (cutL_ne 32 l)
  obtain ⟨g, c, rfl, hc1, hc2, hgB, hgl, hcell⟩ := ho.form hpos
  obtain ⟨N, hN⟩ : ∃ N, (cutL 32 l).length = N := ⟨_, rfl⟩
  have hNl := cutL_len 32 l
  rw [hN] at hc1 hcell hpos hNl ⊢
  have HN := Lib.hid hN
  have HC := Lib.hid hcell
  have K1 := Lib.hid k1
  clear ho k1 hN hcell
  go_wp2_with fail
  obtain ⟨M, hM⟩ : ∃ M, M = w1.heap.size := ⟨_, rfl⟩
  have HM := Lib.hid hM
  have hgM : g < M := by omega
  have hwM : w.heap.size < M := by have := K1.out.size; simp at this; omega
  clear hM
  go_loopw [3, 5] (fun o i wr => ∃ k : Nat, i = .int .i64 k ∧ k ≤ N ∧ Hid (OwS B wr o (wordsTo l k)) ∧ Hid ((o = .slice (some ⟨w.heap.size, 0, none⟩) 0 0 ∧ wordsTo l k = []) ∨ OwS M wr o (wordsTo l k)) ∧ Hid (M ≤ wr.heap.size) ∧ Hid (Kept [] w wr) ∧ Hid (∀ (i : Nat), i < N → wr.cell? ⟨g, i, none⟩ = some (strV ((cutL 32 l).getD i [])))) (fun _ i _ => N - (intOf i).toNat)
  case atStart => exact ⟨0, rfl, Nat.zero_le _, (OwS.empty rfl (by have := HB.out; omega)).kept0 K1.out, .inl ⟨rfl, rfl⟩, Nat.le_of_eq HM.out, K1.out.peel, HC.out⟩
  case round =>
    obtain ⟨k, rfl, hk, hO, hO2, hMw, hK, hCc⟩ := hrel
    by_cases hlt : k < N
    · have hlt' : (k : Int) < N := by omega
      have hk0 : (0 : Int) ≤ k := by omega
      have hcell := hCc.out k hlt
      have hnx := wordsTo_next (l := l) (k := k) (by have := HN.out; omega)
      have hlen := wordsTo_len l k
      generalize (cutL 32 l).getD k [] = p at *
      have HP := Lib.hid hnx
      clear hnx
      have hcs : wr.cell? ⟨g, k, none⟩ = some (.string (strB p)) := hcell
      clear hcell
      cases p with
      | nil =>
        have hn : Hid (wordsTo l (k + 1) = wordsTo l k) := by have := HP.out; rwa [if_pos rfl] at this
        have hsz : strB [] = ⟨#[]⟩ := rfl
        rw [hsz] at hcs
        go_wp2_with fail
        go_roundw
        case rel => exact ⟨k + 1, by go_num, by omega, by rw [hn.out]; exact hO, by rw [hn.out]; exact hO2, hMw.out, hK.out, hCc.out⟩
        case measure => simp [intOf] <;> omega
      | cons b p =>
        have hn : Hid (wordsTo l (k + 1) = wordsTo l k ++ [b :: p]) := by have := HP.out; rwa [if_neg (by simp)] at this
        have hne : (strB (b :: p)).toList = b :: p := ByteArray.toList_eq _
        obtain ⟨P, hP⟩ : ∃ P, strB (b :: p) = P := ⟨_, rfl⟩
        rw [hP] at hcs hne
        have HPP := Lib.hid hP
        clear hP
        have hcl : Hid (strV (b :: p) = .string P) := by show Value.string _ = _; rw [HPP.out]
        rcases hO2.out with ⟨rfl, h0⟩ | hO3
        · clear hO2 hO
          go_wp2_with (at_builtin; refine appStr0 rfl _ _ rfl w.heap.size rfl wr.heap.size (b :: p) rfl (by rw [hcl.out]; first | exact World.cell?_alloc_new _ _ _ | (simp; done)) ?_)
          rintro v' w' h1 h2
          have ka : Kept [] wr (wr.alloc (.cells #[.string P] 9)) := (Kept.refl [] wr).alloc _
          have K2 := Lib.hid (ka.trans0 h2)
          have H1 := Lib.hid h1
          clear h1 h2 ka
          go_wp2_with fail
          go_roundw
          case rel =>
            have hO4 : OwS M w' v' (wordsTo l (k + 1)) := by
              rw [hn.out, h0]; exact H1.out.mono (by have := hMw.out; simp; omega)
            exact ⟨k + 1, by go_num, by omega, hO4.mono (by have := HB.out; omega), .inr hO4, by have h1 := hMw.out; have h2 := K2.out.size; show _ ≤ _; omega, hK.out.trans0 K2.out, fun i hi => K2.out.cell (hCc.out i hi) (by simp)⟩
          case measure => simp [intOf] <;> omega
        · have HO3 := Lib.hid hO3
          clear hO3 hO2
          go_wp2_with (at_builtin; refine appStr rfl _ _ rfl M _ (wordsTo l k) rfl (HO3.out.alloc _) wr.heap.size (b :: p) rfl (by rw [hcl.out]; first | exact World.cell?_alloc_new _ _ _ | (simp; done)) (by omega) (by have := hMw.out; simp; omega) ?_)
          rintro v' w' h1 h2
          have ka : Kept [] wr (wr.alloc (.cells #[.string P] 9)) := (Kept.refl [] wr).alloc _
          have hgn : ∀ q, u3.ownBlock = some q → q ≠ g := fun q hq => by have := HO3.out.lt hq; omega
          have kk := kept_ownS h2
          have K2 := Lib.hid (OwS.grown (hK.out.alloc (.cells #[.string P] 9)) (HO3.out.alloc (.cells #[.string P] 9)) (by omega) h2)
          have C2 : Hid (∀ (i : Nat), i < N → w'.cell? ⟨g, i, none⟩ = some (strV ((cutL 32 l).getD i []))) := fun i hi => kk.cell (ka.cell (hCc.out i hi) (by simp)) (by
            intro hm
            have hm : u3.ownBlock = some g := by simpa using hm
            exact hgn g hm rfl)
          have hs2 := kk.size
          simp only [World.size_alloc] at hs2
          have HS2 := Lib.hid hs2
          have H1 := Lib.hid h1
          clear h1 h2 ka kk hs2
          go_wp2_with fail
          go_roundw
          case rel =>
            have hO4 : OwS M w' v' (wordsTo l (k + 1)) := by rw [hn.out]; exact H1.out
            exact ⟨k + 1, by go_num, by omega, hO4.mono (by have := HB.out; omega), .inr hO4, by have h1 := hMw.out; have h2 := HS2.out; show _ ≤ _; omega, K2.out, C2.out⟩
          case measure => simp [intOf] <;> omega
    · obtain rfl : k = N := by omega
      have hv : Hid (wordsTo l k = wordsM l) := by show _ = _; rw [← HN.out]; exact wordsTo_all l
      have hO5 := hO.out
      rw [hv.out] at hO5
      have HO5 := Lib.hid hO5
      clear hO5 hO hO2
      go_wp2_with fail
      go_ret
      exact ⟨_, rfl, HO5.out, hK.out⟩

end Go.Proofs.YtlhiahhpmjiioadGreatDoor
