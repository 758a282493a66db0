/-
  Several of my texts joined: the contracts of the functions that they name, each with the conditions that it states.
-/
import Derived.Test.YtlhiahhpmjiioadGreatDoorSrcB
import Derived.Test.YtlhiahhpmjiioadGreatDoorCooP
import Derived.Deep.RegionLaw
import Derived.Deep.Cut
import Derived.Deep.CutBlock
import Derived.Test.YtlhiahhpmjiioadGreatDoorShpI
import Derived.Test.YtlhiahhpmjiioadGreatDoorPrtC
import Derived.Test.YtlhiahhpmjiioadGreatDoorPpP
namespace Go.Proofs.YtlhiahhpmjiioadGreatDoor
open Go.RowKit

/-- A text that a draw answers, and the source behind it. -/
def SpdR (w : World) (g : Nat) (a : Option Addr) (n c : Nat) (bs : List Int) (at_ : Int) (m : Nat) (e : Ending) (w' : World) : Prop :=
  ∃ S at2, e = .returned (.string S) ∧ m ≤ S.size ∧ S.size ≤ 4 * m ∧ Src w' g a n c bs at2 ∧ at2 ≤ at_ + 2 * m ∧ Kept [g] w w'
def isMark (b : UInt8) : Bool := decide (b = 40 ∨ b = 41 ∨ b = 44 ∨ b = 32)

set_option maxHeartbeats 1000000 in
set_option maxRecDepth 20000 in
theorem l8Spread_any (g : Nat) (a : Option Addr) (n c : Nat) (bs : List Int) (at_ : Int) (T : ByteArray) (w : World) (h : Src w g a n c bs at_) (ha : at_ ≤ 600000) (hT : T.size ≤ 2000) :
    Calls Tryz.prog 26 #[.pointer (some ⟨g, 0, none⟩), .string T] w (SpdR w g a n c bs at_ T.size) := by
  have HS := Lib.hid h
  clear h
  go_enter Tryz.func26, Tryz.ntmps26
  go_wp2_with fail
  go_loopw [5, 6] (fun o i wr => ∃ (S : ByteArray) (j : Nat) (at2 : Int), o = .string S ∧ i = .int .i64 j ∧ j ≤ T.size ∧ j ≤ S.size ∧ S.size ≤ 4 * j ∧ at2 ≤ at_ + 2 * j ∧ Hid (Src wr g a n c bs at2) ∧ Hid (Kept [g] w wr)) (fun _ i _ => T.size - (intOf i).toNat)
  case atStart => exact ⟨⟨#[]⟩, 0, at_, rfl, rfl, Nat.zero_le _, Nat.zero_le _, by simp [ByteArray.size], by omega, HS.out, Lib.hid (Kept.refl _ _)⟩
  case round =>
    obtain ⟨S, j, at2, rfl, rfl, hj, h1, h2, h3, hS, hK⟩ := hrel
    by_cases hlt : j < T.size
    · have hlt' : (j : Int) < T.size := by omega
      have ew1 : IntKind.i64.wrap ((j : Int) + 1) = (j : Int) + 1 := IntWalk.i64_in _ (by omega)
      generalize hBy : T[j] = b
      obtain ⟨X, hX⟩ : ∃ X, T.extract j (j + 1) = X := ⟨_, rfl⟩
      have hXs : X.size = 1 := by rw [← hX, ByteArray.size_extract]; omega
      have z1 : ¬ 9223372036854775807 < S.size + 1 := by omega
      have z2 : ¬ 9223372036854775807 < S.size + 1 + X.size := by omega
      have z3 : ¬ 9223372036854775807 < S.size + 1 + X.size + 2 := by omega
      have z4 : ¬ 9223372036854775807 < S.size + X.size := by omega
      have z5 : ¬ 9223372036854775807 < S.size + X.size + 2 := by omega
      have i1 : (j : Int) ≤ (j : Int) + 1 := by omega
      have i2 : (j : Int) + 1 ≤ T.size := by omega
      have i0 : (0 : Int) ≤ j := by omega
      have HF := Lib.hid (And.intro h1 (And.intro h2 (And.intro h3 hXs)))
      have ha2 : at2 ≤ 700000 := by omega
      clear hXs h1 h2 h3
      go_wp2_with fail
      all_goals try
        refine (l1Chance_any g a n c bs at2 4 _ hS.out (by omega) (by omega)).mono ?_
        rintro e w1 ⟨p, rfl, hS1, hK1⟩
        cases p <;> go_wp2_with fail
        all_goals
          refine (l1Chance_any g a n c bs (at2 + 1) 4 _ hS1 (by omega) (by omega)).mono ?_
          rintro e w2 ⟨q, rfl, hS2, hK2⟩
          cases q <;> go_wp2_with fail
      all_goals
        obtain ⟨f1, f2, f3, f4⟩ := HF.out
        have e1 : (⟨#[32]⟩ : ByteArray).size = 1 := rfl
        have e2 : (⟨#[32, 32]⟩ : ByteArray).size = 2 := rfl
        first
          | exact ⟨⟨_, j + 1, _, rfl, by go_num, by omega, by simp only [ByteArray.size_append]; omega, by simp only [ByteArray.size_append]; omega, by omega, Lib.hid hS2, Lib.hid ((hK.out.trans hK1 (fun _ hx _ => hx)).trans hK2 (fun _ hx _ => hx))⟩, by simp [intOf]; omega⟩
          | exact ⟨⟨_, j + 1, _, rfl, by go_num, by omega, by simp only [ByteArray.size_append]; omega, by simp only [ByteArray.size_append]; omega, by omega, hS, hK⟩, by simp [intOf]; omega⟩
    · go_wp2_with fail
      go_ret
      obtain rfl : j = T.size := by omega
      exact ⟨S, at2, rfl, h1, h2, hS.out, h3, hK.out⟩

end Go.Proofs.YtlhiahhpmjiioadGreatDoor

namespace Go.Proofs.YtlhiahhpmjiioadGreatDoor
open Go.RowKit

theorem inD_in {x : Int} (h : InD x) : -999999999999999 ≤ x ∧ x ≤ 999999999999999 := by unfold InD at h; omega
theorem strV_size {l : List UInt8} {m : Nat} (h : l.length ≤ m) : (strB l).size ≤ m := by rw [strB_size]; exact h
def rows11 : List (List UInt8) := [[80, 79, 73, 78, 84, 40, 49, 56, 49, 32, 48, 41], [80, 79, 73, 78, 84, 40, 48, 32, 57, 49, 41], [80, 79, 73, 78, 84, 40, 49, 32, 50, 44, 51, 32, 52, 41], [76, 73, 78, 69, 83, 84, 82, 73, 78, 71, 40, 49, 32, 50, 41], [80, 79, 76, 89, 71, 79, 78, 40, 40, 48, 32, 48, 44, 49, 32, 48, 44, 49, 32, 49, 44, 48, 32, 49, 41, 41], [80, 79, 76, 89, 71, 79, 78, 40, 48, 32, 48, 44, 49, 32, 48, 44, 49, 32, 49, 44, 48, 32, 48, 41], [80, 79, 73, 78, 84, 40, 41], [80, 79, 73, 78, 84, 40, 49, 41], [112, 111, 105, 110, 116, 40, 49, 32, 50, 41], [80, 79, 73, 78, 84, 40, 40, 49, 32, 50, 41, 41], [77, 85, 76, 84, 73, 80, 79, 73, 78, 84, 40, 49, 32, 50, 44, 41]]
theorem rows11_len : ∀ x ∈ rows11, x.length ≤ 30 := by decide
theorem row_ofT (T : List (List UInt8)) (w : World) {W : World} (hW : W = w.alloc (.cells (T.map strV).toArray 9)) (i : Nat) (hi : i < T.length) : W.cell? ⟨w.heap.size, i, none⟩ = some (strV (T.getD i [])) := by
  subst hW
  rw [World.cell?_alloc_new]
  simp [List.getD_eq_getElem?_getD, hi]
theorem getD_lenT {T : List (List UInt8)} {m : Nat} (h : ∀ x ∈ T, x.length ≤ m) {i : Nat} (hi : i < T.length) : (T.getD i []).length ≤ m := h _ (by rw [List.getD_eq_getElem?_getD, List.getElem?_eq_getElem hi]; simp)
def szV : Value → Nat | .string s => s.size | _ => 0
theorem pick8 {j : Nat} (hj : j < ([32, 40, 41, 44, 48, 45, 120, 46] : List Int).length) : 0 ≤ ([32, 40, 41, 44, 48, 45, 120, 46] : List Int).getD j 0 ∧ ([32, 40, 41, 44, 48, 45, 120, 46] : List Int).getD j 0 ≤ 127 := by
  have h : ∀ j : Fin 8, 0 ≤ ([32, 40, 41, 44, 48, 45, 120, 46] : List Int).getD j.1 0 ∧ ([32, 40, 41, 44, 48, 45, 120, 46] : List Int).getD j.1 0 ≤ 127 := by decide
  exact h ⟨j, hj⟩
theorem pick6 {j : Nat} (hj : j < ([600, 601] : List Int).length) : ([600, 601] : List Int).getD j 0 ≤ 601 := by
  have h : ∀ j : Fin 2, ([600, 601] : List Int).getD j.1 0 ≤ 601 := by decide
  exact h ⟨j, hj⟩

set_option maxHeartbeats 1000000 in
set_option maxRecDepth 20000 in
theorem DrawParseShape_any (a : Option Addr) (n c : Nat) (bs : List Int) (w : World) (h : Rd8 w a n bs) :
    Calls Tryz.prog 7 #[.slice a n c] w (fun e w' => ∃ S, e = .returned (.string S) ∧ S.size ≤ 4000 ∧ Kept [] w w') := by
  have HR := Lib.hid h
  clear h
  go_enter Tryz.func7, Tryz.ntmps7
  go_wp2_with fail
  refine (l1Source_any a n c bs _ HR.out).mono ?_
  rintro e w1 ⟨g, rfl, hg, hS, hK⟩
  have S1 := Lib.hid hS
  have K1 := Lib.hid hK
  clear hS hK
  go_wp2_with fail
  refine (l8Draw_in g a n c bs 0 _ S1.out (by omega)).mono ?_
  rintro e w2 ⟨k, v, ps, at2, rfl, ⟨hk, hpd⟩, hop, hp1, hp6, hS2, hat2, k2⟩
  obtain ⟨av, cv, rfl⟩ := hop.sl
  have K2 : Hid (Kept [] w w2) := Lib.hid (K1.out.trans k2 (fun x hx hlt => by simp at hx; omega))
  have kb : Kept [] w2 (w2.alloc (.cells #[.int .i64 k, .slice av ps.length cv] 26)) := (Kept.refl _ _).alloc _
  have hrd : Rd (w2.alloc (.cells #[.int .i64 k, .slice av ps.length cv] 26)) av (ps.length * 2) (flatP ps) := (hop.rd (by omega)).2.kept0 kb
  have hin : inK k = true ∧ 1 ≤ ps.length ∧ ps.length ≤ 12 ∧ ∀ i, i < ps.length → (-999999999999999 ≤ (flatP ps).getD (i * 2) 0 ∧ (flatP ps).getD (i * 2) 0 ≤ 999999999999999) ∧ -999999999999999 ≤ (flatP ps).getD (i * 2 + 1) 0 ∧ (flatP ps).getD (i * 2 + 1) 0 ≤ 999999999999999 :=
    ⟨decide_eq_true hk, hp1, by omega, fun i hi => ⟨inD_in (hpd.at i hi).1, inD_in (hpd.at i hi).2⟩⟩
  have hlen := print_len hk.1 hk.2 hin.2.2.2 (by omega : ps.length ≤ 12)
  have hl1 : 1 ≤ (printT k (flatP ps) ps.length).length := by unfold printT aroundN; simp only [List.length_append, List.length_replicate]; split <;> omega
  have hp := l8Print_in w2.heap.size k av ps.length cv (flatP ps) _ hrd hin (by simp) (by simp)
  have KB := Lib.hid (K2.out.trans0 kb)
  have SB := Lib.hid (hS2.kept0 kb)
  have hsz : (strB (printT k (flatP ps) ps.length)).size ≤ 446 := by rw [strB_size]; exact hlen
  have hsz1 : 1 ≤ (strB (printT k (flatP ps) ps.length)).size := by rw [strB_size]; exact hl1
  generalize strB (printT k (flatP ps) ps.length) = T at hp hsz hsz1
  have HP := Lib.hid hp
  clear hp hlen hl1 hin hrd kb hS2 k2 hop hpd K2
  go_wp2_with fail
  refine HP.out.mono ?_
  rintro e w3 ⟨rfl, k3⟩
  have S3 := Lib.hid (SB.out.kept0 k3)
  have K3 := Lib.hid (KB.out.trans0 k3)
  clear HP k3 SB KB
  go_wp2_with fail
  refine (l1Chance_any g a n c bs at2 2 _ S3.out (by omega) (by omega)).mono ?_
  rintro e w4 ⟨p, rfl, hS4, k4⟩
  have S4 := Lib.hid hS4
  have K4 := Lib.hid (K3.out.trans k4 (fun x hx hlt => by simp at hx; omega))
  clear hS4 k4 S3 K3 S1 K1
  go_upto_if 14 with fail
  go_cut [5] (fun t wx => ∃ (S : ByteArray) (at3 : Int), t = .string S ∧ 1 ≤ S.size ∧ S.size ≤ 1784 ∧ at3 ≤ 1000 ∧ Hid (Src wx g a n c bs at3) ∧ Hid (Kept [] w wx))
  case first =>
    cases p
    · go_wp2_with fail
      go_meet
      exact ⟨T, at2 + 1, rfl, hsz1, by omega, by omega, S4, K4⟩
    · go_wp2_with fail
      refine (l8Spread_any g a n c bs (at2 + 1) T _ S4.out (by omega) (by omega)).mono ?_
      rintro e w5 ⟨S, at3, rfl, h1, h2, hS5, hat3, k5⟩
      have S5 := Lib.hid hS5
      have K5 := Lib.hid (K4.out.trans k5 (fun x hx hlt => by simp at hx; omega))
      clear hS5 k5
      go_wp2_with fail
      go_meet
      exact ⟨S, at3, rfl, by omega, by omega, by omega, S5, K5⟩
  case rest =>
    obtain ⟨S, at3, rfl, s1, s2, hat3, S5, K5⟩ := hcut
    clear S4 K4
    go_wp2_with fail
    refine (l1Next_any g a n c bs at3 10 _ S5.out (by omega) (by omega)).mono ?_
    rintro e w6 ⟨r, rfl, r0, r1, hS6, k6⟩
    have S6 := Lib.hid hS6
    have K6 := Lib.hid (K5.out.trans k6 (fun x hx hlt => by simp at hx; omega))
    clear hS6 k6 S5 K5
    have sp : (1 : Int) ≤ S.size := by omega
    by_cases h0 : r = 0
    · subst h0
      go_wp2_with fail
      refine (l1Next_any g a n c bs (at3 + 1) S.size _ S6.out (by omega) (by omega)).mono ?_
      rintro e w7 ⟨q, rfl, q0, q1, hS7, k7⟩
      have S7 := Lib.hid hS7
      have K7 := Lib.hid (K6.out.trans k7 (fun x hx hlt => by simp at hx; omega))
      clear hS7 k7 S6 K6
      obtain ⟨m, rfl⟩ := Int.eq_ofNat_of_zero_le q0
      have q2 : (m : Int) ≤ S.size := by omega
      obtain ⟨X, hX⟩ : ∃ X, S.extract 0 m = X := ⟨_, rfl⟩
      obtain ⟨Y, hY⟩ : ∃ Y, S.extract m S.size = Y := ⟨_, rfl⟩
      have x1 : X.size ≤ 1784 := by rw [← hX, ByteArray.size_extract]; omega
      have y1 : Y.size ≤ 1784 := by rw [← hY, ByteArray.size_extract]; omega
      have kr : Kept [] w7 ((w7.alloc (.cells #[.int .i64 32, .int .i64 40, .int .i64 41, .int .i64 44, .int .i64 48, .int .i64 45, .int .i64 120, .int .i64 46] 2)).drew) := ((Kept.refl [] w7).alloc _).drew
      have hR5 : Rd ((w7.alloc (.cells #[.int .i64 32, .int .i64 40, .int .i64 41, .int .i64 44, .int .i64 48, .int .i64 45, .int .i64 120, .int .i64 46] 2)).drew) (some ⟨w7.heap.size, 0, none⟩) 8 [32, 40, 41, 44, 48, 45, 120, 46] := (Sl.ofBlk (Blk.new w7 [32, 40, 41, 44, 48, 45, 120, 46]) (by simp)).rd.kept0 (Kept.refl [] _).drew
      have hp := l1Pick_any g a n c bs (at3 + 1 + 1) _ 8 8 _ _ (S7.out.kept0 kr) (by omega) hR5 (fun _ y hy => by cases hy; have := S7.out.lt; simp; omega) (by omega)
      have HP := Lib.hid hp
      have KR := Lib.hid (K7.out.trans0 kr)
      clear hp hR5 kr S7 K7
      go_upto_region 9 with fail
      go_region_law (first
        | (go_simp; refine HP.out.mono ?_; rintro e w8 ⟨j, hj, rfl, hS9, k9⟩; have hu := pick8 hj; generalize ([32, 40, 41, 44, 48, 45, 120, 46] : List Int).getD j 0 = x at hu; have e8 : IntKind.u8.wrap x = x := IntWalk.u8_in _ (by omega); have hcv := run_byteText (w8.alloc (.cells #[.int .u8 x] 5)) w8.heap.size x (by simp); obtain ⟨B, hB⟩ : ∃ B, strOfNums [x] = B := ⟨_, rfl⟩; rw [hB] at hcv; have b1 : B.size = 1 := (by rw [← hB]; rfl); have z1 : ¬ 9223372036854775807 < X.size + B.size := (by omega); have z2 : ¬ 9223372036854775807 < X.size + B.size + Y.size := (by omega); have K9 := Lib.hid (KR.out.trans k9 (fun x hx hlt => by simp at hx; omega)); have HB := Lib.hid b1; clear hS9 k9 hj hB b1 hu)
        | fail)
      all_goals
        go_wp2_with fail
        go_ret
        exact ⟨X ++ B ++ Y, rfl, by rw [ByteArray.size_append, ByteArray.size_append, HB.out]; omega, K9.out.alloc _⟩
    by_cases h1 : r = 1
    · subst h1
      go_wp2_with fail
      refine (l1Next_any g a n c bs (at3 + 1) S.size _ S6.out (by omega) (by omega)).mono ?_
      rintro e w7 ⟨q, rfl, q0, q1, hS7, k7⟩
      have K7 := Lib.hid (K6.out.trans k7 (fun x hx hlt => by simp at hx; omega))
      clear hS7 k7 S6 K6
      obtain ⟨m, rfl⟩ := Int.eq_ofNat_of_zero_le q0
      have q2 : (m : Int) ≤ S.size := by omega
      go_wp2_with fail
      go_ret
      exact ⟨_, rfl, by rw [ByteArray.size_extract]; omega, K7.out⟩
    by_cases h2 : r = 2
    · subst h2
      go_wp2_with fail
      obtain ⟨W, hW⟩ : ∃ W, W = w6.alloc (.cells (rows11.map strV).toArray 9) := ⟨_, rfl⟩
      have hrow := Lib.hid (row_ofT rows11 w6 hW)
      have kW : Kept [] w6 W := by rw [hW]; exact (Kept.refl _ _).alloc _
      have hlt : g < w6.heap.size := S6.out.lt
      have hl : Calls Tryz.prog 27 #[.pointer (some ⟨g, 0, none⟩), .int .i64 11] (w6.alloc (.cells (rows11.map strV).toArray 9)) (NextR W g a n c bs (at3 + 1) 11) := by
        rw [← hW]; exact l1Next_any g a n c bs (at3 + 1) 11 W (S6.out.kept0 kW) (by omega) (by omega)
      refine hl.mono ?_
      rintro e w7 ⟨q, rfl, q0, q1, hS7, k7⟩
      obtain ⟨m, rfl⟩ := Int.eq_ofNat_of_zero_le q0
      have hk : m < 11 := by omega
      have hc := k7.cell (hrow.out m hk) (by simp; omega)
      unfold strV at hc
      have hm := getD_lenT rows11_len (i := m) hk
      obtain ⟨l, hl2⟩ : ∃ l, rows11.getD m [] = l := ⟨_, rfl⟩
      rw [hl2] at hc hm
      have K7 := Lib.hid ((K6.out.trans0 kW).trans k7 (fun x hx hlt => by simp at hx; omega))
      clear hl hS7 k7 hl2 kW hW
      go_wp2_with fail
      go_ret
      exact ⟨_, rfl, by rw [strB_size]; omega, K7.out⟩
    by_cases h3 : r = 3
    · subst h3
      go_wp2_with fail
      refine (l1Chance_any g a n c bs (at3 + 1) 3 _ S6.out (by omega) (by omega)).mono ?_
      rintro e w7 ⟨p, rfl, hS7, k7⟩
      have S7 := Lib.hid hS7
      have K7 := Lib.hid (K6.out.trans k7 (fun x hx hlt => by simp at hx; omega))
      clear hS7 k7 S6 K6
      cases p
      · go_wp2_with fail
        go_ret
        exact ⟨S, rfl, by omega, K7.out⟩
      · go_wp2_with fail
        go_loopw [5] (fun t wr => ∃ (S2 : ByteArray) (at4 : Int), t = .string S2 ∧ S2.size ≤ 1784 ∧ at4 ≤ 1002 + S2.size ∧ Hid (Src wr g a n c bs at4) ∧ Hid (Kept [] w wr)) (fun t _ => 601 - szV t)
        case atStart => exact ⟨S, _, rfl, s2, by omega, S7, K7⟩
        case round =>
          obtain ⟨S2, at4, rfl, hz, ha4, hS8, hK8⟩ := hrel
          clear S7 K7
          go_wp2_with fail
          have hR5 := (Sl.ofBlk (Blk.new wr [600, 601]) (by simp)).rd
          refine (l1Pick_any g a n c bs at4 _ 2 _ [600, 601] _ (hS8.out.kept0 ((Kept.refl [] wr).alloc _)) (by omega) hR5 (fun _ y hy => by cases hy; have := hS8.out.lt; simp; omega) (by omega)).mono ?_
          rintro e w8 ⟨j, hj, rfl, hS9, k9⟩
          have hu := pick6 hj
          generalize ([600, 601] : List Int).getD j 0 = u at hu
          have S9 := Lib.hid hS9
          have K9 := Lib.hid ((hK8.out.alloc _).trans k9 (fun x hx hlt => by simp at hx; omega))
          clear hS9 k9 hR5 hj hS8 hK8
          by_cases hlt : (S2.size : Int) < u
          · have z1 : ¬ 9223372036854775807 < S2.size + 1 := by omega
            go_wp2_with fail
            go_roundw
            case rel => exact ⟨S2 ++ ⟨#[32]⟩, at4 + 1, rfl, by rw [ByteArray.size_append]; show S2.size + 1 ≤ _; omega, by rw [ByteArray.size_append]; show _ ≤ 1002 + ((S2.size + 1 : Nat) : Int); omega, S9, K9⟩
            case measure => simp [szV, ByteArray.size_append]; show 601 - (S2.size + 1) < _; omega
          · go_wp2_with fail
            go_ret
            exact ⟨S2, rfl, by omega, K9.out⟩
    · have z0 : (r == 0) = false := beq_eq_false_iff_ne.2 h0
      have z1 : (r == 1) = false := beq_eq_false_iff_ne.2 h1
      have z2 : (r == 2) = false := beq_eq_false_iff_ne.2 h2
      have z3 : (r == 3) = false := beq_eq_false_iff_ne.2 h3
      go_wp2_with fail
      go_ret
      exact ⟨S, rfl, by omega, K6.out⟩

end Go.Proofs.YtlhiahhpmjiioadGreatDoor
