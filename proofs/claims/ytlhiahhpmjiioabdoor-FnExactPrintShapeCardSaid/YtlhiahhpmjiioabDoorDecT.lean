/-
  Contract of the program's decimalText. Condition: the library's table of powers of ten lies as its text lays it.
-/
import Derived.Deep.RegionHeld3
import Derived.Deep.DrawnRows
import Derived.Deep.DeepCutAuto
import Derived.Test.YtlhiahhpmjiioabDoorDecP
import Derived.Test.YtlhiahhpmjiioabDoorOrd
import Derived.Test.YtlhiahhpmjiioabDoorTabK
import Derived.Test.YtlhiahhpmjiioabDoorShf
namespace Go.Proofs.YtlhiahhpmjiioabDoor
open Go.RowKit

/-- The library's table of powers of ten. -/
def Pow10 (w : World) : Prop := Lib.TabIs Tryd.prog w "internal/strconv.uint64pow10" .u64 Lib.pow10Tab
theorem Pow10.kept {w w' : World} (h : Pow10 w) (hk : Kept [] w w') : Pow10 w' := tabKept h hk

theorem gPow : Tryd.prog.globalNamed "internal/strconv.uint64pow10" = some 1 := by kernel_rfl
theorem Pow10.of_laid {W : World} {rest : List (String × DataW Unit)} {d : DataW Unit} (h : laidMet Tryd.prog (("internal/strconv.uint64pow10", d) :: rest) W) (hd : d = Lib.tabData .u64 Lib.pow10Tab := by rfl) : Pow10 W := by
  subst hd
  exact Lib.tabIs_of_head gPow (by kernel_rfl) Tryd.underlying114 Tryd.underlying91 (by kernel_rfl) (by kernel_rfl) h

theorem FormatInt_nat (u : Nat) (w : World) (hu : u ≤ 9223372036854775807) (h : Pow10 w) :
    Calls Tryd.prog 48 #[.int .i64 (u : Int), .int .i64 10] w (Ans w (.string (strB (Lib.decDigits u)))) := by
  refine (Tryd.strconv_FormatInt_10 (u : Int) (by omega) (by omega) w h).mono ?_
  rintro e w' ⟨rfl, k, os, rfl⟩
  have : Lib.itoa (u : Int) = Lib.decDigits u := by unfold Lib.itoa; rw [if_neg (by omega)]; rfl
  rw [this]
  exact ⟨rfl, kept_grow _ _ _⟩

set_option maxHeartbeats 2000000 in
theorem decimalText_any {U k : Nat} {F : Nat → List UInt8} (hT : Ten10 U k F) (n : Int) (w : World) (hn0 : -9223372036854775807 ≤ n) (hn1 : n ≤ 9223372036854775807) (hp : Pow10 w) :
    Calls Tryd.prog 31 #[.int .i64 n, .int .i64 (U : Int)] w (Ans w (.string (strB (decTx U F n)))) := by
  have HP := Lib.hid hp
  clear hp
  obtain ⟨u, hu⟩ : ∃ u : Nat, u = n.natAbs := ⟨_, rfl⟩
  obtain ⟨q, hq⟩ : ∃ q : Nat, q = u / U := ⟨_, rfl⟩
  obtain ⟨r, hr⟩ : ∃ r : Nat, r = u % U := ⟨_, rfl⟩
  have hU0 := hT.pos
  have hU9 := hT.most
  have hk9 := hT.low
  have hr1 : r < U := by rw [hr]; exact Nat.mod_lt _ hU0
  have hqu : q ≤ u := by rw [hq]; exact Nat.div_le_self _ _
  have e5 : (u : Int) / (U : Int) = (q : Int) := by rw [hq, Int.natCast_ediv]
  have e6 : (u : Int) % (U : Int) = (r : Int) := by rw [hr, Int.natCast_emod]
  have e1 : (u : Int).tdiv (U : Int) = (q : Int) := by rw [Int.tdiv_eq_ediv_of_nonneg (by omega)]; exact e5
  have e2 : (u : Int).tmod (U : Int) = (r : Int) := by rw [Int.tmod_eq_emod_of_nonneg (by omega)]; exact e6
  have e7 : IntKind.i64.wrap (q : Int) = q := IntWalk.i64_in _ (by omega)
  have e8 : IntKind.i64.wrap ((U : Int) + (r : Int)) = ((U + r : Nat) : Int) := by rw [IntWalk.i64_in _ (by omega)]; omega
  have hUz : ¬ (U : Int) = 0 := by omega
  have z1 : (strB (Lib.decDigits q)).size ≤ 19 := by rw [strB_size]; exact decD_len (k := 19) (by omega) (by omega)
  have hmax : max n (-n) = (u : Int) := by omega
  have hneg : IntKind.i64.wrap (-n) = -n := IntWalk.i64_in _ (by omega)
  obtain ⟨Q, hQ⟩ : ∃ D, strB (Lib.decDigits q) = D := ⟨_, rfl⟩
  obtain ⟨S, hS⟩ : ∃ S, strB (49 :: F r) = S := ⟨_, rfl⟩
  obtain ⟨D, hD⟩ : ∃ D, strB (F r) = D := ⟨_, rfl⟩
  have hd : Hid (strB (Lib.decDigits (U + r)) = S) := by show _ = _; rw [hT.dec r hr1, hS]
  have hs : S.size = k + 1 := by rw [← hS, strB_size, List.length_cons, hT.len]
  have hx : S.extract 1 (k + 1) = D := by rw [← hs, Lib.extract_from, ← hS, ← hD]; rfl
  have hx2 : S.extract 1 S.size = D := by rw [hs]; exact hx
  have hds : D.size ≤ 9 := by rw [← hD, strB_size, hT.len]; exact hk9
  have hp0 : strB (decPt U F u) = Q ++ ⟨#[46]⟩ ++ D := by
    rw [← hQ, ← hD]
    show strB (Lib.decDigits (u / U) ++ 46 :: F (u % U)) = strB _ ++ strB [46] ++ strB _
    rw [strB_append, strB_append, ← hq, ← hr, List.append_assoc]; rfl
  have hP0 : n < 0 → strB (decTx U F n) = ⟨#[45]⟩ ++ Q ++ ⟨#[46]⟩ ++ D := fun h0 => by
    rw [decTx_neg h0, ← hu]
    show strB ([45] ++ decPt U F u) = strB [45] ++ Q ++ ⟨#[46]⟩ ++ D
    rw [← strB_append, hp0, ByteArray.append_assoc, ByteArray.append_assoc, ByteArray.append_assoc]
  have hP1 : ¬ n < 0 → strB (decTx U F n) = ⟨#[]⟩ ++ Q ++ ⟨#[46]⟩ ++ D := fun h0 => by
    rw [decTx_pos h0, show n.toNat = u by omega, hp0]
    show _ = strB [] ++ Q ++ ⟨#[46]⟩ ++ D
    have : strB [] ++ Q = Q := by rw [← hQ, strB_append, List.nil_append]
    rw [this]
  rw [hQ] at z1
  have HQ := Lib.hid hQ
  have hs1 : 1 ≤ S.size := by omega
  have hs2 : (1 : Int) ≤ S.size := by omega
  have hsz : S.size ≤ 10 := by omega
  by_cases h0 : n < 0
  · have hvs := Lib.hid (hP0 h0)
    clear hP0 hP1 hp0 hu hq hr hQ hS hD hT hs hx
    go_enter Tryd.func31, Tryd.ntmps31
    go_wp2_with fail
    refine (FormatInt_nat (U + r) _ (by omega) (HP.out.kept (Kept.refl _ _))).mono ?_
    rintro e w2 ⟨rfl, h2⟩
    rw [hd.out]
    have K2 := Lib.hid h2
    clear h2
    go_wp2_with fail
    refine (FormatInt_nat q _ (by omega) (HP.out.kept K2.out)).mono ?_
    rintro e w3 ⟨rfl, h3⟩
    rw [HQ.out]
    have K3 := Lib.hid (K2.out.trans0 h3)
    clear h3
    go_wp2_with fail
    go_ret
    exact ⟨by rw [hvs.out]; rfl, K3.out⟩
  · have hvs := Lib.hid (hP1 h0)
    clear hP0 hP1 hp0 hu hq hr hQ hS hD hT hs hx
    go_enter Tryd.func31, Tryd.ntmps31
    go_wp2_with fail
    refine (FormatInt_nat (U + r) _ (by omega) (HP.out.kept (Kept.refl _ _))).mono ?_
    rintro e w2 ⟨rfl, h2⟩
    rw [hd.out]
    have K2 := Lib.hid h2
    clear h2
    go_wp2_with fail
    refine (FormatInt_nat q _ (by omega) (HP.out.kept K2.out)).mono ?_
    rintro e w3 ⟨rfl, h3⟩
    rw [HQ.out]
    have K3 := Lib.hid (K2.out.trans0 h3)
    clear h3
    go_wp2_with fail
    go_ret
    exact ⟨by rw [hvs.out]; rfl, K3.out⟩

end Go.Proofs.YtlhiahhpmjiioabDoor
