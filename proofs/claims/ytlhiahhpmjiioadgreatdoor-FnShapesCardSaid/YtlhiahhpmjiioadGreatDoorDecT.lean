/-
  Several of my texts joined: the contracts of the functions that they name, each with the conditions that it states.
-/
import Derived.Test.YtlhiahhpmjiioadGreatDoorCooP
import Derived.Lib.Strings
import Derived.Deep.RegionHeld3
import Derived.Deep.DrawnRows
import Derived.Deep.DeepCutAuto
import Derived.Test.YtlhiahhpmjiioadGreatDoorOrd
import Derived.Test.YtlhiahhpmjiioadGreatDoorTabK
import Derived.Test.YtlhiahhpmjiioadGreatDoorShf
namespace Go.Proofs.YtlhiahhpmjiioadGreatDoor
open Go.RowKit

/-- Six digits of a number below 1000000. -/
def six (r : Nat) : List UInt8 := [dg (r / 100000), dg (r / 10000), dg (r / 1000), dg (r / 100), dg (r / 10), dg r]
theorem dec_six {r : Nat} (h : r < 1000000) : Lib.decDigits (1000000 + r) = 49 :: six r := by
  rw [dec_step (by omega), dec_step (by omega), dec_step (by omega), dec_step (by omega), dec_step (by omega), dec_step (by omega), dec_one (by omega)]
  simp only [List.cons_append, List.nil_append, Nat.div_div_eq_div_mul]
  unfold six
  have e0 : dg ((1000000 + r) / (10 * 10 * 10 * 10 * 10 * 10)) = 49 := by
    unfold dg; rw [show (1000000 + r) / (10 * 10 * 10 * 10 * 10 * 10) % 10 = 1 by omega]; rfl
  rw [e0]
  congr 1
  refine List.cons_eq_cons.2 ⟨dg_congr (by omega), ?_⟩
  refine List.cons_eq_cons.2 ⟨dg_congr (by omega), ?_⟩
  refine List.cons_eq_cons.2 ⟨dg_congr (by omega), ?_⟩
  refine List.cons_eq_cons.2 ⟨dg_congr (by omega), ?_⟩
  refine List.cons_eq_cons.2 ⟨dg_congr (by omega), ?_⟩
  exact List.cons_eq_cons.2 ⟨dg_congr (by omega), rfl⟩

/-- U is a power of ten, k the number of its zeros, F the digits of what is below it. -/
structure Ten10 (U k : Nat) (F : Nat → List UInt8) : Prop where
  pos : 0 < U
  most : U ≤ 1000000000
  low : k ≤ 9
  dec : ∀ r, r < U → Lib.decDigits (U + r) = 49 :: F r
  len : ∀ r, (F r).length = k
theorem ten_nine : Ten10 1000000000 9 nine := ⟨by decide, by decide, by decide, fun _ h => dec_nine h, fun _ => rfl⟩
theorem ten_six : Ten10 1000000 6 six := ⟨by decide, by decide, by decide, fun _ h => dec_six h, fun _ => rfl⟩

/-- A number from 0 on, with all digits behind its point. -/
def decPt (U : Nat) (F : Nat → List UInt8) (u : Nat) : List UInt8 := Lib.decDigits (u / U) ++ 46 :: F (u % U)
def decTx (U : Nat) (F : Nat → List UInt8) (n : Int) : List UInt8 := if n < 0 then 45 :: decPt U F n.natAbs else decPt U F n.toNat
theorem decTx_neg {U : Nat} {F : Nat → List UInt8} {n : Int} (h : n < 0) : decTx U F n = 45 :: decPt U F n.natAbs := if_pos h
theorem decTx_pos {U : Nat} {F : Nat → List UInt8} {n : Int} (h : ¬ n < 0) : decTx U F n = decPt U F n.toNat := if_neg h

theorem drop_app (p : UInt8 → Bool) : ∀ (x y : List UInt8), (x ++ y).dropWhile p = if x.all p then y.dropWhile p else x.dropWhile p ++ y
  | [], y => by simp
  | b :: x, y => by
    by_cases hb : p b = true
    · simp only [List.cons_append, List.dropWhile_cons, hb, if_true, List.all_cons, Bool.true_and]
      exact drop_app p x y
    · simp only [List.cons_append, List.dropWhile_cons, hb, List.all_cons]
      simp
theorem drop_none (p : UInt8 → Bool) : ∀ l : List UInt8, l.dropWhile p = [] ↔ ∀ b ∈ l, p b = true
  | [] => by simp
  | b :: l => by
    by_cases hb : p b = true
    · simp only [List.dropWhile_cons, hb, if_true, List.mem_cons, forall_eq_or_imp, true_and]
      exact drop_none p l
    · simp [hb]
theorem trim_point (x y : List UInt8) : Lib.trimRightB (x ++ 46 :: y) 48 = x ++ 46 :: Lib.trimRightB y 48 := by
  unfold Lib.trimRightB
  rw [List.reverse_append, List.reverse_cons, List.append_assoc, drop_app]
  by_cases h : y.reverse.all (fun b => b == 48) = true
  · rw [if_pos h]
    have h1 : y.reverse.dropWhile (fun b => b == 48) = [] := by
      rw [drop_none]; exact fun b hb => List.all_eq_true.1 h b hb
    rw [h1]
    simp only [List.singleton_append, List.dropWhile_cons]
    rw [if_neg (by decide)]
    simp
  · rw [if_neg h]
    simp [List.reverse_append]
theorem suf_point (x : List UInt8) : Lib.trimSuffix (x ++ [46]) [46] = x := by
  unfold Lib.trimSuffix Lib.hasSuffix
  rw [if_pos (by rw [List.isSuffixOf_iff_suffix]; exact ⟨x, rfl⟩)]
  simp
theorem suf_none {x : List UInt8} (h : x.getLast? ≠ some 46) : Lib.trimSuffix x [46] = x := by
  unfold Lib.trimSuffix Lib.hasSuffix
  rw [if_neg]
  rw [List.isSuffixOf_iff_suffix]
  rintro ⟨t, rfl⟩
  exact h (by simp)
theorem trim_last {l : List UInt8} {b : UInt8} (h : (Lib.trimRightB l 48).getLast? = some b) : b ∈ l := by
  have h1 : b ∈ Lib.trimRightB l 48 := List.mem_of_getLast? h
  unfold Lib.trimRightB at h1
  rw [List.mem_reverse] at h1
  exact List.mem_reverse.1 ((List.dropWhile_suffix _).mem h1)
theorem nine_46 (r : Nat) : (46 : UInt8) ∉ nine r := by
  intro h
  simp only [nine, List.mem_cons, List.not_mem_nil, or_false] at h
  have g : ∀ x, (46 : UInt8) ≠ dg x := fun x e => by
    have := congrArg UInt8.toNat e
    rw [dg_nat] at this
    have h46 : (46 : UInt8).toNat = 46 := rfl
    omega
  rcases h with h | h | h | h | h | h | h | h | h <;> exact g _ h
theorem trim_zero : Lib.trimRightB (nine 0) 48 = [] := by decide
theorem trim_nil_zero {r : Nat} (h : r < 1000000000) (h0 : 0 < r) : Lib.trimRightB (nine r) 48 ≠ [] := by
  intro he
  refine nine_some h h0 (fun i hi => ?_)
  unfold Lib.trimRightB at he
  have h1 : (nine r).reverse.dropWhile (fun b => b == 48) = [] := by simpa using congrArg List.reverse he
  rw [drop_none] at h1
  have h2 : i < (nine r).length := by rw [nine_len]; exact hi
  rw [List.getElem?_eq_getElem h2]
  have := h1 _ (List.mem_reverse.2 (List.getElem_mem h2))
  simpa using this
/-- The text of a coordinate is what is left of all digits. -/
theorem coordP_of (u : Nat) : Lib.trimSuffix (Lib.trimRightB (decPt 1000000000 nine u) 48) [46] = coordP u := by
  unfold decPt
  rw [trim_point]
  by_cases hz : u % 1000000000 = 0
  · rw [hz, trim_zero, coordP_zero hz]
    exact suf_point _
  · rw [coordP_part hz]
    refine suf_none ?_
    rw [List.getLast?_append]
    have hr : u % 1000000000 < 1000000000 := by omega
    have hne := trim_nil_zero hr (by omega)
    cases ht : Lib.trimRightB (nine (u % 1000000000)) 48 with
    | nil => exact absurd ht hne
    | cons a t =>
      intro h
      rw [List.getLast?_cons_cons] at h
      cases hl : (a :: t).getLast? with
      | none => simp at hl
      | some b =>
        rw [hl] at h
        simp only [Option.some_or, Option.some.injEq] at h
        subst h
        rw [← ht] at hl
        exact nine_46 _ (trim_last hl)
theorem suf_cons (x : List UInt8) (hx : x ≠ []) : Lib.trimSuffix (45 :: x) [46] = 45 :: Lib.trimSuffix x [46] := by
  obtain ⟨y, b, rfl⟩ : ∃ y b, x = y ++ [b] := by
    cases h : x.reverse with
    | nil => exact absurd (by simpa using congrArg List.reverse h) hx
    | cons b r => exact ⟨r.reverse, b, by simpa using congrArg List.reverse h⟩
  by_cases hb : b = 46
  · subst hb
    rw [show (45 : UInt8) :: (y ++ [46]) = (45 :: y) ++ [46] by rfl, suf_point, suf_point]
  · have h1 : (y ++ [b]).getLast? ≠ some 46 := by simp [hb]
    have h2 : (45 :: (y ++ [b])).getLast? ≠ some 46 := by
      rw [show (45 : UInt8) :: (y ++ [b]) = (45 :: y) ++ [b] by rfl, List.getLast?_append]; simp [hb]
    rw [suf_none h1, suf_none h2]
theorem coordT_of (n : Int) : Lib.trimSuffix (Lib.trimRightB (decTx 1000000000 nine n) 48) [46] = coordT n := by
  by_cases h : n < 0
  · rw [decTx_neg h]
    unfold coordT
    rw [if_pos h, ← coordP_of]
    have e : Lib.trimRightB (45 :: decPt 1000000000 nine n.natAbs) 48 = 45 :: Lib.trimRightB (decPt 1000000000 nine n.natAbs) 48 := by
      unfold decPt
      rw [← List.cons_append, trim_point, trim_point]; rfl
    rw [e]
    refine suf_cons _ ?_
    unfold decPt
    rw [trim_point]
    simp
  · rw [decTx_pos h]
    unfold coordT
    rw [if_neg h, coordP_of]
theorem decTx_len {U k : Nat} {F : Nat → List UInt8} (h : Ten10 U k F) (n : Int) (hn : -9223372036854775807 ≤ n) (hn1 : n ≤ 9223372036854775807) : (decTx U F n).length ≤ 30 := by
  have hp : ∀ u : Nat, u ≤ 9223372036854775807 → (decPt U F u).length ≤ 29 := by
    intro u hu
    unfold decPt
    rw [List.length_append, List.length_cons, h.len]
    have h1 : u / U ≤ u := Nat.div_le_self _ _
    have h2 := decD_len (u := u / U) (k := 19) (by omega) (by omega)
    have := h.low
    omega
  unfold decTx
  split
  · have := hp n.natAbs (by omega); simp; omega
  · have := hp n.toNat (by omega); omega

end Go.Proofs.YtlhiahhpmjiioadGreatDoor

namespace Go.Proofs.YtlhiahhpmjiioadGreatDoor
open Go.RowKit

/-- The library's table of powers of ten. -/
def Pow10 (w : World) : Prop := Lib.TabIs Tryz.prog w "internal/strconv.uint64pow10" .u64 Lib.pow10Tab
theorem Pow10.kept {w w' : World} (h : Pow10 w) (hk : Kept [] w w') : Pow10 w' := tabKept h hk

theorem gPow : Tryz.prog.globalNamed "internal/strconv.uint64pow10" = some 1 := by kernel_rfl
theorem Pow10.of_laid {W : World} {rest : List (String × DataW Unit)} {d : DataW Unit} (h : laidMet Tryz.prog (("internal/strconv.uint64pow10", d) :: rest) W) (hd : d = Lib.tabData .u64 Lib.pow10Tab := by rfl) : Pow10 W := by
  subst hd
  exact Lib.tabIs_of_head gPow (by kernel_rfl) Tryz.underlying151 Tryz.underlying116 (by kernel_rfl) (by kernel_rfl) h

theorem FormatInt_nat (u : Nat) (w : World) (hu : u ≤ 9223372036854775807) (h : Pow10 w) :
    Calls Tryz.prog 69 #[.int .i64 (u : Int), .int .i64 10] w (Ans w (.string (strB (Lib.decDigits u)))) := by
  refine (Tryz.strconv_FormatInt_10 (u : Int) (by omega) (by omega) w h).mono ?_
  rintro e w' ⟨rfl, k, os, rfl⟩
  have : Lib.itoa (u : Int) = Lib.decDigits u := by unfold Lib.itoa; rw [if_neg (by omega)]; rfl
  rw [this]
  exact ⟨rfl, kept_grow _ _ _⟩

set_option maxHeartbeats 2000000 in
set_option maxRecDepth 20000 in
theorem decimalText_any {U k : Nat} {F : Nat → List UInt8} (hT : Ten10 U k F) (n : Int) (w : World) (hn0 : -9223372036854775807 ≤ n) (hn1 : n ≤ 9223372036854775807) (hp : Pow10 w) :
    Calls Tryz.prog 42 #[.int .i64 n, .int .i64 (U : Int)] w (Ans w (.string (strB (decTx U F n)))) := by
  have HP := Lib.hid hp
  clear hp
  obtain ⟨u, hu⟩ : ∃ u : Nat, u = n.natAbs := ⟨_, rfl⟩
  obtain ⟨q, hq⟩ : ∃ q : Nat, q = u / U := ⟨_, rfl⟩
  obtain ⟨r, hr⟩ : ∃ r : Nat, r = u % U := ⟨_, rfl⟩
  have hU0 := hT.pos
  have hU9 := hT.most
  have hk9 := hT.low
  have hr1 : r < U := by rw [hr]; exact Nat.mod_lt _ hU0
  have hqu : q ≤ u := by rw [hq]; exact Nat.div_le_self _ _
  have e5 : (u : Int) / (U : Int) = (q : Int) := by rw [hq, Int.natCast_ediv]
  have e6 : (u : Int) % (U : Int) = (r : Int) := by rw [hr, Int.natCast_emod]
  have e1 : (u : Int).tdiv (U : Int) = (q : Int) := by rw [Int.tdiv_eq_ediv_of_nonneg (by omega)]; exact e5
  have e2 : (u : Int).tmod (U : Int) = (r : Int) := by rw [Int.tmod_eq_emod_of_nonneg (by omega)]; exact e6
  have e7 : IntKind.i64.wrap (q : Int) = q := IntWalk.i64_in _ (by omega)
  have e8 : IntKind.i64.wrap ((U : Int) + (r : Int)) = ((U + r : Nat) : Int) := by rw [IntWalk.i64_in _ (by omega)]; omega
  have hUz : ¬ (U : Int) = 0 := by omega
  have z1 : (strB (Lib.decDigits q)).size ≤ 19 := by rw [strB_size]; exact decD_len (k := 19) (by omega) (by omega)
  have hmax : max n (-n) = (u : Int) := by omega
  have hneg : IntKind.i64.wrap (-n) = -n := IntWalk.i64_in _ (by omega)
  obtain ⟨Q, hQ⟩ : ∃ D, strB (Lib.decDigits q) = D := ⟨_, rfl⟩
  obtain ⟨S, hS⟩ : ∃ S, strB (49 :: F r) = S := ⟨_, rfl⟩
  obtain ⟨D, hD⟩ : ∃ D, strB (F r) = D := ⟨_, rfl⟩
  have hd : Hid (strB (Lib.decDigits (U + r)) = S) := by show _ = _; rw [hT.dec r hr1, hS]
  have hs : S.size = k + 1 := by rw [← hS, strB_size, List.length_cons, hT.len]
  have hx : S.extract 1 (k + 1) = D := by rw [← hs, Lib.extract_from, ← hS, ← hD]; rfl
  have hx2 : S.extract 1 S.size = D := by rw [hs]; exact hx
  have hds : D.size ≤ 9 := by rw [← hD, strB_size, hT.len]; exact hk9
  have hp0 : strB (decPt U F u) = Q ++ ⟨#[46]⟩ ++ D := by
    rw [← hQ, ← hD]
    show strB (Lib.decDigits (u / U) ++ 46 :: F (u % U)) = strB _ ++ strB [46] ++ strB _
    rw [strB_append, strB_append, ← hq, ← hr, List.append_assoc]; rfl
  have hP0 : n < 0 → strB (decTx U F n) = ⟨#[45]⟩ ++ Q ++ ⟨#[46]⟩ ++ D := fun h0 => by
    rw [decTx_neg h0, ← hu]
    show strB ([45] ++ decPt U F u) = strB [45] ++ Q ++ ⟨#[46]⟩ ++ D
    rw [← strB_append, hp0, ByteArray.append_assoc, ByteArray.append_assoc, ByteArray.append_assoc]
  have hP1 : ¬ n < 0 → strB (decTx U F n) = ⟨#[]⟩ ++ Q ++ ⟨#[46]⟩ ++ D := fun h0 => by
    rw [decTx_pos h0, show n.toNat = u by omega, hp0]
    show _ = strB [] ++ Q ++ ⟨#[46]⟩ ++ D
    have : strB [] ++ Q = Q := by rw [← hQ, strB_append, List.nil_append]
    rw [this]
  rw [hQ] at z1
  have HQ := Lib.hid hQ
  have hs1 : 1 ≤ S.size := by omega
  have hs2 : (1 : Int) ≤ S.size := by omega
  have hsz : S.size ≤ 10 := by omega
  by_cases h0 : n < 0
  · have hvs := Lib.hid (hP0 h0)
    clear hP0 hP1 hp0 hu hq hr hQ hS hD hT hs hx
    go_enter Tryz.func42, Tryz.ntmps42
    go_wp2_with fail
    refine (FormatInt_nat (U + r) _ (by omega) (HP.out.kept (Kept.refl _ _))).mono ?_
    rintro e w2 ⟨rfl, h2⟩
    rw [hd.out]
    have K2 := Lib.hid h2
    clear h2
    go_wp2_with fail
    refine (FormatInt_nat q _ (by omega) (HP.out.kept K2.out)).mono ?_
    rintro e w3 ⟨rfl, h3⟩
    rw [HQ.out]
    have K3 := Lib.hid (K2.out.trans0 h3)
    clear h3
    go_wp2_with fail
    go_ret
    exact ⟨by rw [hvs.out]; rfl, K3.out⟩
  · have hvs := Lib.hid (hP1 h0)
    clear hP0 hP1 hp0 hu hq hr hQ hS hD hT hs hx
    go_enter Tryz.func42, Tryz.ntmps42
    go_wp2_with fail
    refine (FormatInt_nat (U + r) _ (by omega) (HP.out.kept (Kept.refl _ _))).mono ?_
    rintro e w2 ⟨rfl, h2⟩
    rw [hd.out]
    have K2 := Lib.hid h2
    clear h2
    go_wp2_with fail
    refine (FormatInt_nat q _ (by omega) (HP.out.kept K2.out)).mono ?_
    rintro e w3 ⟨rfl, h3⟩
    rw [HQ.out]
    have K3 := Lib.hid (K2.out.trans0 h3)
    clear h3
    go_wp2_with fail
    go_ret
    exact ⟨by rw [hvs.out]; rfl, K3.out⟩

end Go.Proofs.YtlhiahhpmjiioadGreatDoor
