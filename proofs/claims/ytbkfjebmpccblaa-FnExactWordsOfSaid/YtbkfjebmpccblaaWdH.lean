/-
  Contracts of the laws' helpers over slices of strings: comparing, marking, holding. Conditions: the slices read as lists of strings; the marks are no great numbers.
-/
import Derived.Deep.RegionHeld3
import Derived.Deep.DrawnRows
import Derived.Deep.DeepCutAuto
import Derived.Test.YtbkfjebmpccblaaStrS
import Derived.Test.YtbkfjebmpccblaaRowF
import Derived.Test.YtbkfjebmpccblaaMkT
namespace Go.Proofs.Ytbkfjebmpccblaa
open Go.RowKit

/-- The cells of a row of strings. -/
def wdF (xs : List (List UInt8)) (j : Nat) : Value := .string (strB (xs.getD j []))
/-- A slice of strings in a block of its own, or an empty one. -/
def SlS (w : World) (a : Option Addr) (n : Nat) (xs : List (List UInt8)) : Prop := xs.length = n ∧ (n = 0 ∨ ∃ g, a = some ⟨g, 0, none⟩ ∧ RowF w g n (wdF xs))
def blkS (a : Option Addr) (n : Nat) : List Nat := if n = 0 then [] else match a with | some x => [x.block] | none => []
theorem SlS.kept {L : List Nat} {w w' : World} {a : Option Addr} {n : Nat} {xs : List (List UInt8)} (h : SlS w a n xs) (k : Kept L w w') (hL : ∀ g ∈ blkS a n, g ∉ L) : SlS w' a n xs := by
  obtain ⟨h2, h3⟩ := h
  refine ⟨h2, ?_⟩
  by_cases h0 : n = 0
  · exact .inl h0
  · rcases h3 with h3 | ⟨g, rfl, hb⟩
    · exact absurd h3 h0
    · exact .inr ⟨g, rfl, hb.kept k (hL g (by unfold blkS; rw [if_neg h0]; simp))⟩
theorem SlS.lt {w : World} {a : Option Addr} {n : Nat} {xs : List (List UInt8)} (h : SlS w a n xs) : ∀ g ∈ blkS a n, g < w.heap.size := by
  intro g hg
  rcases h.2 with h0 | ⟨g', rfl, hb⟩
  · subst h0; simp [blkS] at hg
  · unfold blkS at hg; split at hg
    · cases hg
    · simp at hg; subst hg; exact hb.lt
/-- The marks. -/
def mkL (k n : Nat) : List (List UInt8) := (List.range n).map fun i => mkT (k + i)
theorem mkL_len (k n : Nat) : (mkL k n).length = n := by simp [mkL]
theorem mkL_at {k n i : Nat} (h : i < n) : (mkL k n).getD i [] = mkT (k + i) := by simp [mkL, List.getD_eq_getElem?_getD, h]
/-- The cells when the first j are marked. -/
def mkdF (xs : List (List UInt8)) (k j i : Nat) : Value := if i < j then .string (strB (mkT (k + i))) else wdF xs i

theorem mkH1 {w5 w' : World} {b j : Nat} {v : Value} (c : w5.cell? ⟨b, j, none⟩ = some v) (k : Hid (Kept [] w5 w')) : Hid (Kept [] w5 w') ∧ w'.cell? ⟨b, j, none⟩ = some v := ⟨k, k.out.cell c (by simp)⟩

set_option maxHeartbeats 1000000 in
theorem eqStringS_any (a b : Option Addr) (n c d : Nat) (xs : List (List UInt8)) (w : World) (ha : SlS w a n xs) (hb : SlS w b n xs) (hn : n ≤ 1099511627776) :
    Calls Try.prog 12 #[.slice a n c, .slice b n d] w (Ans w (.bool true)) := by
  by_cases h0 : n = 0
  · subst h0
    go_enter Try.func12, Try.ntmps12
    go_wp2_with fail
    go_loopw [5] (fun i wr => i = .int .i64 0 ∧ wr = w) (fun i _ => 0 - (intOf i).toNat)
    case atStart => exact ⟨rfl, rfl⟩
    case round =>
      obtain ⟨rfl, rfl⟩ := hrel
      go_wp2_with fail
      go_ret
      exact ⟨rfl, Kept.refl _ _⟩
  obtain ⟨g, rfl, ra⟩ : ∃ g, a = some ⟨g, 0, none⟩ ∧ RowF w g n (wdF xs) := by
    rcases ha.2 with h | h
    · exact absurd h h0
    · exact h
  obtain ⟨g', rfl, rb⟩ : ∃ g, b = some ⟨g, 0, none⟩ ∧ RowF w g n (wdF xs) := by
    rcases hb.2 with h | h
    · exact absurd h h0
    · exact h
  have RA := Lib.hid ra
  have RB := Lib.hid rb
  clear ha hb ra rb h0
  go_enter Try.func12, Try.ntmps12
  go_wp2_with fail
  go_loopw [5] (fun i wr => ∃ j : Nat, j ≤ n ∧ i = .int .i64 j ∧ Hid (Kept [] w wr)) (fun i _ => n - (intOf i).toNat)
  case atStart => exact ⟨0, Nat.zero_le _, rfl, Kept.refl _ _⟩
  case round =>
    obtain ⟨j, hj, rfl, hK⟩ := hrel
    by_cases hlt : j < n
    · have hlt' : (j : Int) < n := by omega
      have hj0 : (0 : Int) ≤ j := by omega
      have c0 := hK.out.cell (RA.out.cell hlt) (by simp)
      have c1 := hK.out.cell (RB.out.cell hlt) (by simp)
      have hK2 := Lib.hid (hK.out.drew)
      unfold wdF at c0 c1
      generalize strB (xs.getD j []) = S at c0 c1
      have hss : (S.toList == S.toList) = true := by simp
      go_wp2_with fail
      go_region
      go_wp2_with fail
      go_roundw
      case rel => exact ⟨j + 1, by omega, by go_num, hK2⟩
      case measure => simp [intOf]; omega
    · have hlt' : ¬ (j : Int) < n := by omega
      go_wp2_with fail
      go_ret
      exact ⟨rfl, hK.out⟩

set_option maxHeartbeats 1000000 in
theorem markStringS_any (a : Option Addr) (n c k : Nat) (xs : List (List UInt8)) (w : World) (h : SlS w a n xs) (hk : 1 ≤ k ∧ k + n ≤ 1099511627776) :
    Calls Try.prog 13 #[.slice a n c, .int .i64 (k : Int)] w fun e w' => e = .returned (.int .i64 ((k + n : Nat) : Int)) ∧ SlS w' a n (mkL k n) ∧ Kept (blkS a n) w w' := by
  obtain ⟨hk1, hk2⟩ := hk
  by_cases h0 : n = 0
  · subst h0
    go_enter Try.func13, Try.ntmps13
    go_wp2_with fail
    go_loopw [1, 5] (fun q i wr => q = .int .i64 (k : Int) ∧ i = .int .i64 0 ∧ wr = w) (fun _ i _ => 0 - (intOf i).toNat)
    case atStart => exact ⟨rfl, rfl, rfl⟩
    case round =>
      obtain ⟨rfl, rfl, rfl⟩ := hrel
      go_wp2_with fail
      go_ret
      exact ⟨by simp, ⟨by simp [mkL], .inl rfl⟩, Kept.refl _ _⟩
  obtain ⟨g, rfl, ra⟩ : ∃ g, a = some ⟨g, 0, none⟩ ∧ RowF w g n (wdF xs) := by
    rcases h.2 with h | h
    · exact absurd h h0
    · exact h
  have RA : Hid (RowF w g n (mkdF xs k 0)) := ra.congr (fun i hi => by unfold mkdF; rw [if_neg (by omega)])
  have H0 := Lib.hid h0
  clear h ra h0
  go_enter Try.func13, Try.ntmps13
  go_wp2_with fail
  go_loopw [1, 5] (fun q i wr => ∃ j : Nat, j ≤ n ∧ q = .int .i64 ((k + j : Nat) : Int) ∧ i = .int .i64 j ∧ Hid (RowF wr g n (mkdF xs k j)) ∧ Hid (Kept [g] w wr)) (fun _ i _ => n - (intOf i).toNat)
  case atStart => exact ⟨0, Nat.zero_le _, rfl, rfl, RA, Kept.refl _ _⟩
  case round =>
    obtain ⟨j, hj, rfl, rfl, hR, hK⟩ := hrel
    by_cases hlt : j < n
    · have hlt' : (j : Int) < n := by omega
      have hj0 : (0 : Int) ≤ j := by omega
      have hkj : IntKind.i64.wrap (((k + j : Nat) : Int) + 1) = ((k + (j + 1) : Nat) : Int) := by rw [IntWalk.i64_in _ (by omega)]; omega
      have hkj2 : ((k + j : Nat) : Int) + 1 = ((k + (j + 1) : Nat) : Int) := by omega
      have hq1 : 0 < k + j := by omega
      have hq2 : k + j ≤ 1099511627776 := by omega
      obtain ⟨q, hq⟩ : ∃ q, k + j = q := ⟨_, rfl⟩
      rw [hq] at hkj hkj2 hq1 hq2 ⊢
      have HQ := Lib.hid hq
      clear hq
      go_wp2_with fail
      refine (markText_any q _ hq1 hq2).mono ?_
      rintro e w1 ⟨rfl, k1⟩
      obtain ⟨T, hT⟩ : ∃ T, strB (mkT q) = T := ⟨_, rfl⟩
      rw [hT]
      have hR1 := Lib.hid (hR.out.kept k1 (by simp))
      have hK1 := Lib.hid (hK.out.trans0 k1)
      have hc := hR1.out.cell hlt
      have hf := hR1.out.frozen j
      have hR2 : Hid (RowF (w1.setCell ⟨g, j, none⟩ (.string T)) g n (mkdF xs k (j + 1))) := (hR1.out.set j (.string T)).congr (fun i hi => by
        unfold mkdF
        by_cases e : i = j
        · subst e; rw [if_pos rfl, if_pos (by omega), HQ.out, hT]
        · rw [if_neg e]
          by_cases e2 : i < j
          · rw [if_pos e2, if_pos (by omega)]
          · rw [if_neg e2, if_neg (by omega)])
      have hK2 := Lib.hid (hK1.out.setCell ⟨g, j, none⟩ (.string T) (by simp))
      generalize mkdF xs k j j = V at hc
      clear k1 hR hK hR1 hK1 hT
      go_wp2_with fail
      go_roundw
      case rel => exact ⟨j + 1, by omega, by go_num, by go_num, hR2, hK2⟩
      case measure => simp [intOf]; omega
    · obtain rfl : j = n := by omega
      have hlt' : ¬ (j : Int) < j := by omega
      go_wp2_with fail
      go_ret
      refine ⟨rfl, ⟨mkL_len _ _, .inr ⟨g, rfl, hR.out.congr (fun i hi => ?_)⟩⟩, ?_⟩
      · unfold mkdF wdF; rw [if_pos hi, mkL_at hi]
      · unfold blkS; rw [if_neg H0.out]; exact hK.out

set_option maxHeartbeats 1000000 in
theorem heldStringS_any (a : Option Addr) (n c k : Nat) (w : World) (h : SlS w a n (mkL k n)) (hk : 1 ≤ k ∧ k + n ≤ 1099511627776) :
    Calls Try.prog 14 #[.slice a n c, .int .i64 (k : Int)] w (Ans w (.int .i64 ((k + n : Nat) : Int))) := by
  obtain ⟨hk1, hk2⟩ := hk
  by_cases h0 : n = 0
  · subst h0
    go_enter Try.func14, Try.ntmps14
    go_wp2_with fail
    go_loopw [1, 5] (fun q i wr => q = .int .i64 (k : Int) ∧ i = .int .i64 0 ∧ wr = w) (fun _ i _ => 0 - (intOf i).toNat)
    case atStart => exact ⟨rfl, rfl, rfl⟩
    case round =>
      obtain ⟨rfl, rfl, rfl⟩ := hrel
      go_wp2_with fail
      go_ret
      exact ⟨by simp, Kept.refl _ _⟩
  obtain ⟨g, rfl, ra⟩ : ∃ g, a = some ⟨g, 0, none⟩ ∧ RowF w g n (wdF (mkL k n)) := by
    rcases h.2 with h | h
    · exact absurd h h0
    · exact h
  have RA := Lib.hid ra
  clear h ra h0
  go_enter Try.func14, Try.ntmps14
  go_wp2_with fail
  go_loopw [1, 5] (fun q i wr => ∃ j : Nat, j ≤ n ∧ q = .int .i64 ((k + j : Nat) : Int) ∧ i = .int .i64 j ∧ Hid (Kept [] w wr)) (fun _ i _ => n - (intOf i).toNat)
  case atStart => exact ⟨0, Nat.zero_le _, rfl, rfl, Kept.refl _ _⟩
  case round =>
    obtain ⟨j, hj, rfl, rfl, hK⟩ := hrel
    by_cases hlt : j < n
    · have hlt' : (j : Int) < n := by omega
      have hj0 : (0 : Int) ≤ j := by omega
      have hkj : IntKind.i64.wrap (((k + j : Nat) : Int) + 1) = ((k + (j + 1) : Nat) : Int) := by rw [IntWalk.i64_in _ (by omega)]; omega
      have hkj2 : ((k + j : Nat) : Int) + 1 = ((k + (j + 1) : Nat) : Int) := by omega
      have hq1 : 0 < k + j := by omega
      have hq2 : k + j ≤ 1099511627776 := by omega
      have hc0 : w.cell? ⟨g, j, none⟩ = some (.string (strB (mkT (k + j)))) := by
        have := RA.out.cell hlt
        unfold wdF at this
        rwa [mkL_at hlt] at this
      obtain ⟨q, hq⟩ : ∃ q, k + j = q := ⟨_, rfl⟩
      rw [hq] at hkj hkj2 hq1 hq2 hc0 ⊢
      obtain ⟨T, hT⟩ : ∃ T, strB (mkT q) = T := ⟨_, rfl⟩
      rw [hT] at hc0
      have HT := Lib.hid hT
      have hc := hK.out.cell hc0 (by simp)
      have HC := Lib.hid hc0
      clear hq hT hc0
      have htt : (T.toList == T.toList) = true := by simp
      go_wp2_with fail
      go_region_held3 (fun w' => Hid (Kept [] wr w') ∧ w'.cell? ⟨g, j, none⟩ = some (.string T))
        (with_reducible first | assumption | exact mkH1 hc (by with_reducible first | assumption | exact Lib.hid ((Kept.refl _ _).drew) | exact kAD (by assumption) | exact kA1 (by assumption) | exact Lib.hid (Kept.trans0 (Hid.out (by assumption)) (by assumption))))
        (first | (go_at_call 16; go_split_ands; refine (markText_any q _ hq1 hq2).mono ?_; rw [HT.out]; rintro e v1 ⟨rfl, hk1⟩))
      have hK1 := Lib.hid (hK.out.trans0 ((Kept.refl [] wr).drew.trans0 hk1))
      clear hk1 hK hc
      go_wp2_with fail
      go_roundw
      case rel => exact ⟨j + 1, by omega, by go_num, by go_num, hK1⟩
      case measure => simp [intOf]; omega
    · obtain rfl : j = n := by omega
      have hlt' : ¬ (j : Int) < j := by omega
      go_wp2_with fail
      go_ret
      exact ⟨rfl, hK.out⟩

set_option maxHeartbeats 1000000 in
theorem eqTextsResult_yes (u : Int) (a b : Option Addr) (n c d : Nat) (xs : List (List UInt8)) (w : World) (ha : SlS w a n xs) (hb : SlS w b n xs) (hn : n ≤ 1099511627776) :
    Calls Try.prog 6 #[.agg #[.int .i64 u, .slice a n c], .agg #[.int .i64 u, .slice b n d]] w (Ans w (.bool true)) := by
  have HA := Lib.hid ha
  have HB := Lib.hid hb
  clear ha hb
  go_enter Try.func6, Try.ntmps6
  go_wp2_with fail
  refine (eqStringS_any _ _ _ _ _ xs _ (HA.out.kept (((Kept.refl [] w).alloc _).alloc _) (by simp)) (HB.out.kept (((Kept.refl [] w).alloc _).alloc _) (by simp)) hn).mono ?_
  rintro e w1 ⟨rfl, k1⟩
  have K1 := Lib.hid ((((Kept.refl [] w).alloc _).alloc _).trans0 k1)
  clear k1
  go_wp2_with fail
  go_ret
  exact ⟨rfl, K1.out⟩

set_option maxHeartbeats 1000000 in
theorem markTextsResult_any (u : Int) (a : Option Addr) (n c k : Nat) (xs : List (List UInt8)) (w : World) (h : SlS w a n xs) (hk : 1 ≤ k ∧ k + n ≤ 1099511627776) :
    Calls Try.prog 7 #[.agg #[.int .i64 u, .slice a n c], .int .i64 (k : Int)] w fun e w' => e = .returned (.int .i64 ((k + n : Nat) : Int)) ∧ SlS w' a n (mkL k n) ∧ Kept (blkS a n) w w' := by
  have H := Lib.hid h
  clear h
  go_enter Try.func7, Try.ntmps7
  go_wp2_with fail
  refine (markStringS_any a n c k xs _ (H.out.kept ((Kept.refl [] w).alloc _) (by simp)) hk).mono ?_
  rintro e w1 ⟨rfl, s1, k1⟩
  have S1 := Lib.hid s1
  have K1 : Hid (Kept (blkS a n) w w1) := (((Kept.refl [] w).alloc _).mono (by simp)).trans k1 (fun _ hx _ => hx)
  clear k1 s1
  go_wp2_with fail
  go_ret
  exact ⟨rfl, S1.out, K1.out⟩

set_option maxHeartbeats 1000000 in
theorem heldTextsResult_any (u : Int) (a : Option Addr) (n c k : Nat) (w : World) (h : SlS w a n (mkL k n)) (hk : 1 ≤ k ∧ k + n ≤ 1099511627776) :
    Calls Try.prog 8 #[.agg #[.int .i64 u, .slice a n c], .int .i64 (k : Int)] w (Ans w (.int .i64 ((k + n : Nat) : Int))) := by
  have H := Lib.hid h
  have hq : ¬ ((k + n : Nat) : Int) < 0 := by omega
  clear h
  go_enter Try.func8, Try.ntmps8
  go_wp2_with fail
  refine (heldStringS_any a n c k _ (H.out.kept ((Kept.refl [] w).alloc _) (by simp)) hk).mono ?_
  rintro e w1 ⟨rfl, k1⟩
  have K1 := Lib.hid (((Kept.refl [] w).alloc _).trans0 k1)
  obtain ⟨q, hq2⟩ : ∃ q : Int, ((k + n : Nat) : Int) = q := ⟨_, rfl⟩
  rw [hq2] at hq ⊢
  clear k1
  go_wp2_with fail
  go_ret
  exact ⟨by subst hq2; rfl, K1.out⟩

theorem OwS.sl {B : Nat} {w : World} {v : Value} {xs : List (List UInt8)} (h : OwS B w v xs) : ∃ a c, v = .slice a xs.length c ∧ SlS w a xs.length xs ∧ ∀ g ∈ blkS a xs.length, B ≤ g := by
  obtain ⟨h1, h2⟩ := h
  rcases h2 with ⟨rfl, h0⟩ | ⟨g, cap, cur, rfl, hg, hh, hc, hm, hs, ht⟩
  · refine ⟨none, 0, by rw [h0], ⟨rfl, .inl h0⟩, by intro g hg; unfold blkS at hg; rw [if_pos h0] at hg; cases hg⟩
  · refine ⟨some ⟨g, 0, none⟩, cap, rfl, ⟨rfl, ?_⟩, ?_⟩
    · by_cases h0 : xs.length = 0
      · exact .inl h0
      · refine .inr ⟨g, rfl, (cur, 9), hh, ?_, fun k hk => ?_⟩
        · show xs.length ≤ cur.size
          omega
        · show cur[k]? = _
          have : (cur.toList.take (xs.length * 1))[k]? = (xs.map strV)[k]? := by rw [ht]
          rw [List.getElem?_take, if_pos (by omega)] at this
          rw [← Array.getElem?_toList, this]
          unfold wdF
          simp [List.getD_eq_getElem?_getD, hk, strV]
    · intro x hx
      unfold blkS at hx
      split at hx
      · cases hx
      · simp at hx; omega

end Go.Proofs.Ytbkfjebmpccblaa
