/-
  Contracts of the reader's methods takes, must and digits. Condition: the reader's box holds the text that is left.
-/
import Derived.Deep.RegionHeld3
import Derived.Deep.DrawnRows
import Derived.Deep.DeepCutAuto
import Derived.Test.YtlhiahhpmjiioadGreatDoorRdP
import Derived.Test.YtlhiahhpmjiioadGreatDoorOrd
import Derived.Test.YtlhiahhpmjiioadGreatDoorShf
namespace Go.Proofs.YtlhiahhpmjiioadGreatDoor
open Go.RowKit

/-- The reader in block R has the bytes l left. -/
structure Rdr (w : World) (R : Nat) (l : List UInt8) : Prop where
  cell : w.cell? ⟨R, 0, none⟩ = some (.string (strB l))
  free : w.frozen? ⟨R, 0, none⟩ = false
theorem Rdr.lt {w : World} {R : Nat} {l : List UInt8} (h : Rdr w R l) : R < w.heap.size := World.block_lt_of_cell? w ⟨R, 0, none⟩ h.cell
theorem Rdr.kept {w w' : World} {R : Nat} {l : List UInt8} {L : List Nat} (h : Rdr w R l) (k : Kept L w w') (hL : R ∉ L) : Rdr w' R l :=
  ⟨k.cell h.cell hL, k.free h.free h.lt hL⟩
theorem Rdr.set {w : World} {R : Nat} {l : List UInt8} (h : Rdr w R l) (r : List UInt8) : Rdr (w.setCell ⟨R, 0, none⟩ (.string (strB r))) R r :=
  ⟨World.cell?_setCell_same _ _ _ h.cell, by simpa using h.free⟩

/-- A call that panics and writes at most into L. -/
def Bang (L : List Nat) (w : World) (e : Ending) (w' : World) : Prop := (∃ u x, e = .panicked [{ v := .iface u x, recovered := false }]) ∧ Kept L w w'

set_option maxHeartbeats 1000000 in
theorem takes_any (R : Nat) (l p : List UInt8) (w : World) (h : Rdr w R l) :
    Calls Tryz.prog 78 #[.pointer (some ⟨R, 0, none⟩), .string (strB p)] w (fun e w' => e = .returned (.bool (Lib.hasPrefix l p)) ∧ Rdr w' R (Lib.trimPrefix l p) ∧ Kept [R] w w') := by
  have hc := h.cell
  have hf := h.free
  have H := Lib.hid h
  clear h
  obtain ⟨b, hb⟩ : ∃ b, Lib.hasPrefix l p = b := ⟨_, rfl⟩
  obtain ⟨r, hr⟩ : ∃ b, Lib.trimPrefix l p = b := ⟨_, rfl⟩
  rw [hb, hr]
  have HB := Lib.hid hb
  have HR := Lib.hid hr
  clear hb hr
  go_enter Tryz.func78, Tryz.ntmps78
  go_wp2_with fail
  refine (Tryz.strings_CutPrefix _ _ _).mono ?_
  rintro e w1 ⟨rfl, rfl⟩
  rw [strB_list, strB_list, HB.out, HR.out]
  have hs : (⟨r.toArray⟩ : ByteArray) = strB r := rfl
  rw [hs]
  clear hs
  go_wp2_with fail
  go_ret
  exact ⟨rfl, H.out.set r, (Kept.refl _ _).setCell _ _ (by simp)⟩

set_option maxHeartbeats 1000000 in
theorem must_yes (R : Nat) (w : World) :
    Calls Tryz.prog 54 #[.pointer (some ⟨R, 0, none⟩), .bool true] w (fun e w' => e = .returned (.tuple #[]) ∧ w' = w) := by
  go_enter Tryz.func54, Tryz.ntmps54
  go_wp2_with fail
  go_end0
  exact ⟨rfl, rfl⟩

set_option maxHeartbeats 1000000 in
theorem must_no (R : Nat) (w : World) :
    Calls Tryz.prog 54 #[.pointer (some ⟨R, 0, none⟩), .bool false] w (Bang [] w) := by
  go_enter Tryz.func54, Tryz.ntmps54
  go_wp2_with fail
  exact ⟨rfl, ⟨_, _, rfl⟩, Kept.refl _ _⟩

theorem must_true (R : Nat) (p : Bool) (w : World) (hp : p = true) :
    Calls Tryz.prog 54 #[.pointer (some ⟨R, 0, none⟩), .bool p] w (fun e w' => e = .returned (.tuple #[]) ∧ w' = w) := by subst hp; exact must_yes R w
theorem must_false (R : Nat) (p : Bool) (w : World) (hp : p = false) :
    Calls Tryz.prog 54 #[.pointer (some ⟨R, 0, none⟩), .bool p] w (Bang [] w) := by subst hp; exact must_no R w
/-- What digits answers. -/
def DigP (R m : Nat) (l : List UInt8) (w : World) (e : Ending) (w' : World) : Prop :=
  (dLen m l = 0 ∧ Bang [R] w e w') ∨ (dLen m l ≠ 0 ∧ e = .returned (.string (strB (l.take (dLen m l)))) ∧ Rdr w' R (l.drop (dLen m l)) ∧ Kept [R] w w')
theorem strB_take (l : List UInt8) {S : ByteArray} (h : S.data.toList = l) (n : Nat) : S.extract 0 n = strB (l.take n) := by subst h; exact Lib.extract_upto _ _
theorem strB_drop (l : List UInt8) {S : ByteArray} (h : S.data.toList = l) (n : Nat) : S.extract n S.size = strB (l.drop n) := by subst h; exact Lib.extract_from _ _

set_option maxHeartbeats 400000 in
theorem digits_any (R m : Nat) (l : List UInt8) (w : World) (h : Rdr w R l) (hm : m ≤ 1000) (hl : l.length ≤ 2000000) :
    Calls Tryz.prog 104 #[.pointer (some ⟨R, 0, none⟩), .int .i64 (m : Int)] w (DigP R m l w) := by
  have H := Lib.hid h
  obtain ⟨S, hS⟩ : ∃ S, strB l = S := ⟨_, rfl⟩
  have hsz : S.size = l.length := by rw [← hS, strB_size]
  have HS := Lib.hid hS
  have hbs : Hid (S.data.toList = l) := by show _ = _; rw [← hS]; rfl
  have hle := Lib.hid (dLen_le m l)
  have hSz : S.size ≤ 2000000 := by omega
  have HSZ := Lib.hid hsz
  clear h hS hsz
  go_enter Tryz.func104, Tryz.ntmps104
  go_wp2_with fail
  go_loopw [5] (fun i wr => ∃ n : Nat, i = .int .i64 n ∧ Hid (n ≤ dLen m l) ∧ Hid (Kept [] w wr)) (fun i _ => m - (intOf i).toNat)
  case atStart => exact ⟨0, rfl, Nat.zero_le _, Kept.refl [] w⟩
  case round =>
    obtain ⟨n, rfl, hn, hK⟩ := hrel
    have hc := (H.out.kept hK.out (by simp)).cell
    rw [HS.out] at hc
    have hf := (H.out.kept hK.out (by simp)).free
    have hnm : n ≤ m ∧ n ≤ S.size := by have h1 := hn.out; have h2 := hle.out; have h3 := HSZ.out; omega
    obtain ⟨hn1, hn2⟩ := hnm
    by_cases hlt : n < m ∧ n < S.size
    · obtain ⟨hl1, hl2⟩ := hlt
      have hb := byte_at hbs.out hl2
      generalize hB : S[n] = b at hb
      have HB := Lib.hid hb
      clear hb
      have hb256 := b.toNat_lt
      have hwr : wrap64 (b.toNat : Int) = b.toNat := IntWalk.wrap64_in _ (by omega)
      have hwr2 : IntKind.i64.wrap (b.toNat : Int) = b.toNat := IntWalk.i64_in _ (by omega)
      have hi0 : (0 : Int) ≤ (n : Int) := by omega
      have hi1 : (n : Int) < S.size := by omega
      have hmin : decide ((n : Int) < min (m : Int) (S.size : Int)) = true := decide_eq_true (by omega)
      by_cases hd : isD b = true
      · have HO := Lib.hid (ord_xyz (x := 48) (y := (b.toNat : Int)) (z := 57) true (by rw [eq_comm, decide_eq_true_eq]; have := isD_iff.1 hd; omega))
        have hn3 := Lib.hid (dLen_step m n l b hn.out hl1 HB.out hd)
        clear hd
        go_wp2_with fail
        refine (inOrder_any _ _ _ _ _ (rd_threeK _ _ _ _ rfl) _ HO.out).mono ?_
        rintro e w1 ⟨rfl, h1⟩
        have hK2 := Lib.hid (hK.out.trans0 h1.peel)
        have hc2 := (H.out.kept hK2.out (by simp)).cell
        rw [HS.out] at hc2
        clear hK h1 hc hf
        go_wp2_with fail
        go_roundw
        case rel => exact ⟨n + 1, by go_num, hn3, hK2⟩
        case measure => simp [intOf]; omega
      · have HO := Lib.hid (ord_xyz (x := 48) (y := (b.toNat : Int)) (z := 57) false (by rw [eq_comm, decide_eq_false_iff_not]; intro h; exact hd (isD_iff.2 (by omega))))
        have hst := dLen_stop hn.out (.inr (.inr ⟨b, HB.out, by simpa using hd⟩))
        clear hd
        go_wp2_with fail
        refine (inOrder_any _ _ _ _ _ (rd_threeK _ _ _ _ rfl) _ HO.out).mono ?_
        rintro e w1 ⟨rfl, h1⟩
        have hK2 := Lib.hid (hK.out.trans0 h1.peel)
        have hc2 := (H.out.kept hK2.out (by simp)).cell
        rw [HS.out] at hc2
        have hf2 := (H.out.kept hK2.out (by simp)).free
        clear hK h1 hc hf
        go_wp2_with fail
        by_cases hn0 : n = 0
        · subst hn0
          have HST := Lib.hid hst
          clear hst
          go_wp2_with fail
          refine (must_false _ _ _ (by simp)).mono ?_
          rintro e w2 ⟨⟨u, x, rfl⟩, h2⟩
          go_wp2_with fail
          exact ⟨rfl, .inl ⟨HST.out, ⟨_, _, rfl⟩, (hK2.out.trans0 h2).mono (by simp)⟩⟩
        · have hpos : 0 < n := by omega
          have ht := strB_take l hbs.out n
          have hd := strB_drop l hbs.out n
          obtain ⟨T, hT⟩ : ∃ T, strB (l.take n) = T := ⟨_, rfl⟩
          obtain ⟨D, hD⟩ : ∃ T, strB (l.drop n) = T := ⟨_, rfl⟩
          rw [hT] at ht
          rw [hD] at hd
          have HT := Lib.hid hT
          have HD := Lib.hid hD
          have HST := Lib.hid hst
          have HN0 := Lib.hid hn0
          clear hst hT hD hn0
          go_wp2_with fail
          refine (must_true _ _ _ (by first | rfl | exact decide_eq_true hpos)).mono ?_
          rintro e w2 ⟨rfl, rfl⟩
          go_wp2_with fail
          go_ret
          refine .inr ⟨by rw [HST.out]; exact HN0.out, ?_, ?_, ?_⟩
          · rw [HST.out, HT.out]; rfl
          · rw [HST.out, ← HD.out]; exact (H.out.kept hK2.out (by simp)).set _
          · exact (hK2.out.mono (by simp)).setCell _ _ (by simp)
    · have hmin : decide ((n : Int) < min (m : Int) (S.size : Int)) = false := decide_eq_false (by omega)
      have hst := dLen_stop hn.out (by have := HSZ.out; omega)
      have hK2 := hK
      have hi0 : (0 : Int) ≤ (n : Int) := by omega
      have hi1 : (n : Int) ≤ S.size := by omega
      by_cases hn0 : n = 0
      · subst hn0
        have HST := Lib.hid hst
        clear hst
        go_wp2_with fail
        refine (must_false _ _ _ (by simp)).mono ?_
        rintro e w2 ⟨⟨u, x, rfl⟩, h2⟩
        go_wp2_with fail
        exact ⟨rfl, .inl ⟨HST.out, ⟨_, _, rfl⟩, (hK2.out.trans0 h2).mono (by simp)⟩⟩
      · have hpos : 0 < n := by omega
        have ht := strB_take l hbs.out n
        have hd := strB_drop l hbs.out n
        obtain ⟨T, hT⟩ : ∃ T, strB (l.take n) = T := ⟨_, rfl⟩
        obtain ⟨D, hD⟩ : ∃ T, strB (l.drop n) = T := ⟨_, rfl⟩
        rw [hT] at ht
        rw [hD] at hd
        have HT := Lib.hid hT
        have HD := Lib.hid hD
        have HST := Lib.hid hst
        have HN0 := Lib.hid hn0
        clear hst hT hD hn0
        go_wp2_with fail
        refine (must_true _ _ _ (by first | rfl | exact decide_eq_true hpos)).mono ?_
        rintro e w2 ⟨rfl, rfl⟩
        go_wp2_with fail
        go_ret
        refine .inr ⟨by rw [HST.out]; exact HN0.out, ?_, ?_, ?_⟩
        · rw [HST.out, HT.out]; rfl
        · rw [HST.out, ← HD.out]; exact (H.out.kept hK2.out (by simp)).set _
        · exact (hK2.out.mono (by simp)).setCell _ _ (by simp)

end Go.Proofs.YtlhiahhpmjiioadGreatDoor
