/-
  The draws of differences, of small numbers, of values and of texts of digits: contracts of DrawSubNats, DrawNatOf, DrawNatValue, DrawReadNat. Condition: the bytes are at most 1048576.
-/
import Derived.Test.YtledbpiaipmgkaaDrwB
import Derived.Test.YtledbpiaipmgkaaJ2
import Derived.Test.YtledbpiaipmgkaaText
import Derived.Test.YtledbpiaipmgkaaTextV
namespace Go.Proofs.Ytledbpiaipmgkaa
open Go.RowKit

/-- That the value is some number. -/
def SomeI (w : World) (e : Ending) (w' : World) : Prop := ∃ r : Int, e = .returned (.int .i64 r) ∧ Kept [] w w'
set_option maxHeartbeats 400000 in
theorem l1Compare_some (a b : Option Addr) (n c m c' : Nat) (xs ys : List Int) (w : World) (h : Rd w a n xs) (h' : Rd w b m ys) :
    Calls Try.prog 48 #[.slice a n c, .slice b m c'] w (SomeI w) := by
  have HR := Lib.hid h
  have HR' := Lib.hid h'
  have hm := h.2.1
  have hm' := h'.2.1
  clear h h'
  by_cases hne : n = m
  · subst hne
    go_enter Try.func48, Try.ntmps48
    go_wp2
    go_loopw [5] (fun i wr => ∃ k : Nat, k ≤ n ∧ i = .int .i64 ((k : Int) - 1) ∧ Hid (Kept [] w wr)) (fun i _ => (intOf i + 1).toNat)
    case atStart => exact ⟨n, Nat.le_refl _, rfl, Kept.refl [] w⟩
    case round =>
      obtain ⟨k, hk, rfl, hK⟩ := hrel
      by_cases hlt : 0 < k
      · obtain ⟨g, off, rfl, hc0⟩ := HR.out.2.2 (k - 1) (by omega)
        obtain ⟨g', off', rfl, hc0'⟩ := HR'.out.2.2 (k - 1) (by omega)
        have hc := hK.out.cell hc0 (by simp)
        have hc' := hK.out.cell hc0' (by simp)
        have h0 : (0 : Int) ≤ (k : Int) - 1 := by omega
        have h1 : (1 : Int) ≤ (k : Int) := by omega
        have h2 : (k : Int) - 1 < (n : Int) := by omega
        have e1 : IntKind.i64.wrap ((k : Int) - 1 - 1) = (k : Int) - 1 - 1 := IntWalk.i64_in _ (by omega)
        clear hc0 hc0'
        rcases Int.lt_trichotomy (xs.getD (k - 1) 0) (ys.getD (k - 1) 0) with hl | hl | hl
        · generalize hy : xs.getD (k - 1) 0 = y at *
          generalize hz : ys.getD (k - 1) 0 = z at *
          clear hy hz
          go_wp2
          go_quiet (fail)
          have hK2 : Hid (Kept [] w (wr.drewN nq)) := hK.out.drewN _
          clear hK
          go_wp2
          go_ret
          exact ⟨_, rfl, hK2.out⟩
        · rw [← hl] at hc'
          clear hl
          generalize hy : xs.getD (k - 1) 0 = y at *
          clear hy
          go_wp2
          go_quiet (fail)
          go_wp2
          go_quiet (fail)
          go_wp2
          go_roundw
          case rel => exact ⟨k - 1, by omega, by congr 1; omega, by first | exact (hK.out.drewN _).drewN _ | exact hK.out.drewN _⟩
          case measure => simp [intOf]; omega
        · have hnl : ¬ xs.getD (k - 1) 0 < ys.getD (k - 1) 0 := by omega
          generalize hy : xs.getD (k - 1) 0 = y at *
          generalize hz : ys.getD (k - 1) 0 = z at *
          clear hy hz
          go_wp2
          go_quiet (fail)
          go_wp2
          go_quiet (fail)
          go_wp2
          go_ret
          exact ⟨_, rfl, by first | exact (hK.out.drewN _).drewN _ | exact hK.out.drewN _⟩
      · obtain rfl : k = 0 := by omega
        go_wp2
        go_ret
        exact ⟨_, rfl, hK.out⟩
  · have hne' : ((n : Int) == (m : Int)) = false := by rw [beq_eq_false_iff_ne]; omega
    by_cases hl : n < m
    · go_enter Try.func48, Try.ntmps48
      go_wp2
      go_ret
      exact ⟨_, rfl, Kept.refl _ _⟩
    · go_enter Try.func48, Try.ntmps48
      go_wp2
      go_ret
      exact ⟨_, rfl, Kept.refl _ _⟩

set_option maxHeartbeats 1000000 in
theorem DrawSubNats_any (a : Option Addr) (n c : Nat) (bs : List Int) (w : World) (h : Rd8 w a n bs) :
    Calls Try.prog 10 #[.slice a n c] w (Draw2R w) := by
  have HR := Lib.hid h
  clear h
  go_enter Try.func10, Try.ntmps10
  go_wp2_with fail
  refine (l1Source_any _ _ _ _ _ HR.out).mono ?_
  rintro e w1 ⟨g, rfl, hg, hS, hK⟩
  go_wp2_with fail
  refine (l1Bent_any g a n c bs 0 _ hS (by omega)).mono ?_
  rintro e w2 ⟨a2, c2, xs, at2, rfl, hs2, hf2, hn2, hl2, hS2, hat2, hK2⟩
  go_wp2_with fail
  refine (l1Bent_any g a n c bs at2 _ hS2 (by omega)).mono ?_
  rintro e w3 ⟨a3, c3, ys, at3, rfl, hs3, hf3, hn3, hl3, hS3, hat3, hK3⟩
  have hg3 : g < w2.heap.size := hS2.lt
  have hg1 : g < w1.heap.size := hS.lt
  have hs23 := hs2.kept hK3 (fun hn x hx => by have := hf2 hn x hx; simp; omega)
  have hK03 : Kept [] w w3 := hK.trans (hK2.trans hK3 (fun _ h _ => h)) (fun x hx hlt => by simp at hx; omega)
  have hz2 := hK.size
  have hz3 := hK2.size
  go_wp2_with fail
  refine (l1Compare_some _ _ _ _ _ _ _ _ _ hs23.rd hs3.rd).mono ?_
  rintro e w4 ⟨r, rfl, hK4⟩
  have hs24 := hs23.kept0 hK4
  have hs4 := hs3.kept0 hK4
  have hK04 := hK03.trans0 hK4
  have hS4 := hS3.kept0 hK4
  have A2 : Drawn w w4 a2 c2 xs := ⟨hs24, hf2.mono hK.size, hn2, by omega⟩
  have A3 : Drawn w w4 a3 c3 ys := ⟨hs4, hf3.mono (by omega), hn3, by omega⟩
  by_cases hr : r < 0
  · go_wp2_with fail
    refine (l1Chance_any g a n c bs at3 4 _ hS4 (by omega) (by omega)).mono ?_
    rintro e w5 ⟨b, rfl, hS5, hK5⟩
    have hs25 := hs24.kept hK5 (fun hn x hx => by have := hf2 hn x hx; simp; omega)
    have hs5 := hs4.kept hK5 (fun hn x hx => by have := hf3 hn x hx; simp; omega)
    have hK05 : Kept [] w w5 := hK04.trans hK5 (fun x hx hlt => by simp at hx; omega)
    cases b
    · go_wp2_with fail
      go_ret2
      exact ⟨a3, c3, ys, a2, c2, xs, rfl, ⟨hs5, A3.2⟩, ⟨hs25, A2.2⟩, hK05⟩
    · go_wp2_with fail
      go_ret2
      exact ⟨a2, c2, xs, a3, c3, ys, rfl, ⟨hs25, A2.2⟩, ⟨hs5, A3.2⟩, hK05⟩
  · go_wp2_with fail
    go_ret2
    exact ⟨a2, c2, xs, a3, c3, ys, rfl, A2, A3, hK04⟩

/-- What a draw of a number answers. -/
def DrawIR (lo hi : Int) (w : World) (e : Ending) (w' : World) : Prop := ∃ r : Int, e = .returned (.int .i64 r) ∧ lo ≤ r ∧ r ≤ hi ∧ Kept [] w w'
set_option maxHeartbeats 1000000 in
theorem DrawNatOf_any (a : Option Addr) (n c : Nat) (bs : List Int) (w : World) (h : Rd8 w a n bs) :
    Calls Try.prog 14 #[.slice a n c] w (DrawIR (-1) 9223372036854775807 w) := by
  have HR := Lib.hid h
  clear h
  go_enter Try.func14, Try.ntmps14
  go_wp2_with fail
  refine (l1Source_any _ _ _ _ _ HR.out).mono ?_
  rintro e w1 ⟨g, rfl, hg, hS, hK⟩
  go_wp2_with fail
  have hg1 : g < w1.heap.size := hS.lt
  have hR := (Sl.ofBlk (Blk.new w1 [0, 1, 65535, 65536, 9223372036854775807, -1, 4294967296]) (by simp)).rd
  refine (l1Pick_any g a n c bs 0 _ 7 _ [0, 1, 65535, 65536, 9223372036854775807, -1, 4294967296] _ (hS.kept0 ((Kept.refl [] w1).alloc _)) (by omega) hR (fun _ y hy => by cases hy; simp; omega) (by omega)).mono ?_
  rintro e w2 ⟨j, hj, rfl, hS2, hK2⟩
  have hy : -1 ≤ ([0, 1, 65535, 65536, 9223372036854775807, -1, 4294967296] : List Int).getD j 0 ∧ ([0, 1, 65535, 65536, 9223372036854775807, -1, 4294967296] : List Int).getD j 0 ≤ 9223372036854775807 := by
    match j, hj with
    | 0, _ => show (-1 : Int) ≤ 0 ∧ (0 : Int) ≤ _; omega
    | 1, _ => show (-1 : Int) ≤ 1 ∧ (1 : Int) ≤ _; omega
    | 2, _ => show (-1 : Int) ≤ 65535 ∧ (65535 : Int) ≤ _; omega
    | 3, _ => show (-1 : Int) ≤ 65536 ∧ (65536 : Int) ≤ _; omega
    | 4, _ => show (-1 : Int) ≤ 9223372036854775807 ∧ (9223372036854775807 : Int) ≤ _; omega
    | 5, _ => show (-1 : Int) ≤ -1 ∧ (-1 : Int) ≤ _; omega
    | 6, _ => show (-1 : Int) ≤ 4294967296 ∧ (4294967296 : Int) ≤ _; omega
    | n + 7, h => exact absurd h (by simp)
  generalize ([0, 1, 65535, 65536, 9223372036854775807, -1, 4294967296] : List Int).getD j 0 = y at hy
  have hK02 : Kept [] w w2 := hK.trans (((Kept.refl [g] w1).alloc _).trans hK2 (fun _ h _ => h)) (fun x hx hlt => by simp at hx; omega)
  clear hR hj hK2
  go_wp2_with fail
  go_ret
  exact ⟨y, rfl, hy.1, hy.2, hK02⟩

/-- What a draw of a natural answers. -/
def Draw1R (w : World) (e : Ending) (w' : World) : Prop := ∃ a c xs, e = .returned (.slice a xs.length c) ∧ Drawn w w' a c xs ∧ Kept [] w w'
theorem drawn_digits {w w' : World} {a : Option Addr} {c : Nat} {x : Int} (h : Sl w' a (digits x).length c (digits x)) (hf : Fr w.heap.size a (digits x).length) (hx : x < pw 5) : Drawn w w' a c (digits x) :=
  ⟨h, hf, (canon_limbs (canon_digits' x)).near, by have := digits_len 5 x hx; omega⟩

set_option maxHeartbeats 2000000 in
theorem DrawNatValue_any (a : Option Addr) (n c : Nat) (bs : List Int) (w : World) (h : Rd8 w a n bs) :
    Calls Try.prog 15 #[.slice a n c] w (Draw1R w) := by
  have HR := Lib.hid h
  clear h
  go_enter Try.func15, Try.ntmps15
  go_wp2_with fail
  refine (l1Source_any _ _ _ _ _ HR.out).mono ?_
  rintro e w1 ⟨g, rfl, hg, hS, hK⟩
  have hg1 : g < w1.heap.size := hS.lt
  have hz1 := hK.size
  go_wp2_with fail
  refine (l1Chance_any g a n c bs 0 2 _ hS (by omega) (by omega)).mono ?_
  rintro e w2 ⟨b, rfl, hS2, hK2⟩
  have hK02 : Kept [] w w2 := hK.trans hK2 (fun x hx hlt => by simp at hx; omega)
  have hg2 : g < w2.heap.size := hS2.lt
  have hz2 := hK02.size
  cases b
  · go_wp2_with fail
    refine (l1Chance_any g a n c bs (0 + 1) 3 _ hS2 (by omega) (by omega)).mono ?_
    rintro e w3 ⟨b, rfl, hS3, hK3⟩
    have hK03 : Kept [] w w3 := hK02.trans hK3 (fun x hx hlt => by simp at hx; omega)
    have hz3 := hK03.size
    cases b
    · go_wp2_with fail
      refine (l1Bent_any g a n c bs (0 + 1 + 1) _ hS3 (by omega)).mono ?_
      rintro e w4 ⟨a4, c4, ys, at4, rfl, hs4, hf4, hn4, hl4, hS4, hat4, hK4⟩
      go_wp2_with fail
      go_ret
      exact ⟨a4, c4, ys, rfl, ⟨hs4, hf4.mono hz3, hn4, by omega⟩, hK03.trans hK4 (fun x hx hlt => by simp at hx; omega)⟩
    · go_wp2_with fail
      refine (l1Nat_any _ _ (by omega)).mono ?_
      rintro e w4 ⟨v4, rfl, hO4, hK4⟩
      obtain ⟨a4, c4, rfl, hs4, hf4⟩ := hO4.sl
      have hS4 := hS3.kept0 hK4
      have hg4 : g < w3.heap.size := hS3.lt
      have hz4 := hK4.size
      go_wp2_with fail
      refine (l1Next_any g a n c bs (0 + 1 + 1) 2 _ hS4 (by omega) (by omega)).mono ?_
      rintro e w5 ⟨r, rfl, hr0, hr1, hS5, hK5⟩
      have hs5 := hs4.kept hK5 (fun hn x hx => by have := hf4 hn x hx; simp; omega)
      have hK05 : Kept [] w w5 := (hK03.trans0 hK4).trans hK5 (fun x hx hlt => by simp at hx; omega)
      have hz5 := hK5.size
      go_wp2_with fail
      refine (l1Nat_any _ _ (by omega)).mono ?_
      rintro e w6 ⟨v6, rfl, hO6, hK6⟩
      obtain ⟨a6, c6, rfl, hs6, hf6⟩ := hO6.sl
      have hs56 := hs5.kept0 hK6
      have hz6 := hK6.size
      have hl1 : (digits 9223372036854775807).length ≤ 4 := digits_len 4 _ (by simp only [pw]; omega)
      have hl2 : (digits r).length ≤ 4 := digits_len 4 _ (by simp only [pw]; omega)
      go_wp2_with fail
      refine (l1Add_any _ _ _ _ _ _ _ _ _ hs56.rd hs6.rd (canon_digits' _) (canon_digits' _) (by omega) (by omega)).mono ?_
      rw [val_digits' (show (0 : Int) ≤ 9223372036854775807 by omega), val_digits' hr0]
      rintro e w7 ⟨v7, rfl, hO7, hK7⟩
      obtain ⟨a7, c7, rfl, hs7, hf7⟩ := hO7.sl
      go_wp2_with fail
      go_ret
      exact ⟨_, _, _, rfl, drawn_digits hs7 (hf7.mono (by omega)) (by simp only [pw]; omega), (hK05.trans0 hK6).trans0 hK7⟩
  · go_wp2_with fail
    have hR := (Sl.ofBlk (Blk.new w2 [0, 5, 65536, 9223372036854775807]) (by simp)).rd
    refine (l1Pick_any g a n c bs (0 + 1) _ 4 _ [0, 5, 65536, 9223372036854775807] _ (hS2.kept0 ((Kept.refl [] w2).alloc _)) (by omega) hR (fun _ y hy => by cases hy; simp; omega) (by omega)).mono ?_
    rintro e w3 ⟨j, hj, rfl, hS3, hK3⟩
    have hy : 0 ≤ ([0, 5, 65536, 9223372036854775807] : List Int).getD j 0 ∧ ([0, 5, 65536, 9223372036854775807] : List Int).getD j 0 ≤ 9223372036854775807 := by
      match j, hj with
      | 0, _ => show (0 : Int) ≤ 0 ∧ (0 : Int) ≤ _; omega
      | 1, _ => show (0 : Int) ≤ 5 ∧ (5 : Int) ≤ _; omega
      | 2, _ => show (0 : Int) ≤ 65536 ∧ (65536 : Int) ≤ _; omega
      | 3, _ => show (0 : Int) ≤ 9223372036854775807 ∧ (9223372036854775807 : Int) ≤ _; omega
      | n + 4, h => exact absurd h (by simp)
    generalize ([0, 5, 65536, 9223372036854775807] : List Int).getD j 0 = y at hy
    have hK03 : Kept [] w w3 := hK02.trans (((Kept.refl [g] w2).alloc _).trans hK3 (fun _ h _ => h)) (fun x hx hlt => by simp at hx; omega)
    have hz3 := hK03.size
    clear hR hj hK3
    go_wp2_with fail
    refine (l1Nat_any _ _ hy.2).mono ?_
    rintro e w4 ⟨v4, rfl, hO4, hK4⟩
    obtain ⟨a4, c4, rfl, hs4, hf4⟩ := hO4.sl
    go_wp2_with fail
    go_ret
    exact ⟨_, _, _, rfl, drawn_digits hs4 (hf4.mono hz3) (by simp only [pw]; omega), hK03.trans0 hK4⟩

/-- What a draw of a text answers. -/
def DrawTR (w : World) (e : Ending) (w' : World) : Prop := ∃ s : ByteArray, e = .returned (.string s) ∧ s.size ≤ 1000 ∧ Kept [] w w'
theorem text6 {x : Int} (h : (digits x).length ≤ 6) (hx : 0 ≤ x) : (strOfNums (decText x)).size ≤ 100 := by
  have h1 := (val_pw_le (canon_limbs (canon_digits' x)) h).2
  rw [val_digits' hx] at h1
  have h2 := dec_len (n := x) (k := 6) h1
  have h3 : (strOfNums (decText x)).size = (decText x).length := by unfold strOfNums; simp [ByteArray.size]
  rw [h3]
  unfold decText
  split
  · simp
  · simp; omega
theorem size_snoc (s : ByteArray) (d : UInt8) : (s ++ ⟨#[d]⟩ : ByteArray).size = s.size + 1 := by rw [ByteArray.size_append]; rfl
theorem size_cons (s : ByteArray) (d : UInt8) : ((⟨#[d]⟩ : ByteArray) ++ s).size = s.size + 1 := by rw [ByteArray.size_append, Nat.add_comm]; rfl
def textRoom : Value → Nat
  | .string S => 194 - S.size
  | _ => 0

set_option maxHeartbeats 2000000 in
theorem DrawReadNat_any (a : Option Addr) (n c : Nat) (bs : List Int) (w : World) (h : Rd8 w a n bs) :
    Calls Try.prog 12 #[.slice a n c] w (DrawTR w) := by
  have HR := Lib.hid h
  clear h
  go_enter Try.func12, Try.ntmps12
  go_wp2_with fail
  refine (l1Source_any _ _ _ _ _ HR.out).mono ?_
  rintro e w1 ⟨g, rfl, hg, hS, hK⟩
  have hg1 : g < w1.heap.size := hS.lt
  go_wp2_with fail
  refine (l1Draw_any g a n c bs 0 6 _ hS (by omega) (by omega)).mono ?_
  rintro e w2 ⟨v, x, at2, rfl, hO2, hx0, hl2, hS2, hat2, hK2⟩
  obtain ⟨a2, c2, rfl, hs2, hf2⟩ := hO2.sl
  go_wp2_with fail
  refine (l1Text_any _ _ _ _ _ hs2.rd (canon_digits' _) (by omega)).mono ?_
  rw [val_digits' hx0]
  rintro e w3 ⟨rfl, hK3⟩
  have hS3 := hS2.kept0 hK3
  have ht3 := text6 (x := x) (by omega) hx0
  obtain ⟨T, hT⟩ : ∃ T, T = strOfNums (decText x) := ⟨_, rfl⟩
  rw [← hT] at ht3 ⊢
  clear hT
  go_wp2_with fail
  refine (l1Next_any g a n c bs at2 10 _ hS3 (by omega) (by omega)).mono ?_
  rintro e w4 ⟨r, rfl, hr0, hr1, hS4, hK4⟩
  have hK04 : Kept [g] w1 w4 := (hK2.trans0 hK3).trans hK4 (fun _ h _ => h)
  have hK04' : Kept [] w w4 := hK.trans hK04 (fun x hx hlt => by simp at hx; omega)
  clear hO2 hs2 hf2 hS2 hS3 hK2 hK3 hK4 hl2
  by_cases e0 : r = 0
  · subst e0
    go_wp2_with fail
    go_ret
    exact ⟨_, rfl, (by first | (rw [size_cons]; omega) | (rw [size_snoc]; omega)), hK04'⟩
  by_cases e1 : r = 1
  · subst e1
    clear e0
    go_wp2_with fail
    go_ret
    exact ⟨_, rfl, (by first | (rw [size_cons]; omega) | (rw [size_snoc]; omega)), hK04'⟩
  by_cases e2 : r = 2
  · subst e2
    clear e0 e1
    go_wp2_with fail
    go_ret
    exact ⟨_, rfl, by simp [ByteArray.size], hK04'⟩
  by_cases e3 : r = 3
  · subst e3
    clear e0 e1 e2
    have HS4 := Lib.hid hS4
    have HK4 := Lib.hid hK04
    have HK0 := Lib.hid hK
    clear hS4 hK04 hK04' hK
    go_wp2_with fail
    go_loopw [4] (fun v wr => ∃ (S : ByteArray) (at3 : Int), v = .string S ∧ S.size ≤ 300 ∧ at3 ≤ at2 + 1 + S.size ∧ Hid (Src wr g a n c bs at3) ∧ Hid (Kept [g] w1 wr)) (fun v _ => textRoom v)
    case atStart => exact ⟨T, at2 + 1, rfl, by omega, by omega, HS4, HK4⟩
    case round =>
      obtain ⟨S, at3, rfl, hS300, hat3, hSS, hKK⟩ := hrel
      go_wp2_with fail
      have hR := (Sl.ofBlk (Blk.new wr [190, 192, 193, 194]) (by simp)).rd
      refine (l1Pick_any g a n c bs at3 _ 4 _ [190, 192, 193, 194] _ (hSS.out.kept0 ((Kept.refl [] wr).alloc _)) (by omega) hR (fun _ y hy => by cases hy; have := hSS.out.lt; simp; omega) (by omega)).mono ?_
      rintro e w5 ⟨j, hj, rfl, hS5, hK5⟩
      have hy : ([190, 192, 193, 194] : List Int).getD j 0 ≤ 194 := by
        match j, hj with
        | 0, _ => show (190 : Int) ≤ _; omega
        | 1, _ => show (192 : Int) ≤ _; omega
        | 2, _ => show (193 : Int) ≤ _; omega
        | 3, _ => show (194 : Int) ≤ _; omega
        | n + 4, h => exact absurd h (by simp)
      generalize ([190, 192, 193, 194] : List Int).getD j 0 = y at hy
      have HS5 := Lib.hid hS5
      have HK5 : Hid (Kept [g] w1 w5) := hKK.out.trans (((Kept.refl [g] wr).alloc _).trans hK5 (fun _ h _ => h)) (fun _ h _ => h)
      clear hR hj hK5 hS5
      by_cases hlt : (S.size : Int) < y
      · go_wp2_with fail
        go_roundw
        case rel => exact ⟨_, at3 + 1, rfl, by rw [size_snoc]; omega, by rw [size_snoc]; omega, HS5, HK5⟩
        case measure => show 194 - (S ++ ⟨#[57]⟩ : ByteArray).size < 194 - S.size; rw [size_snoc]; omega
      · go_wp2_with fail
        go_ret
        exact ⟨S, rfl, by omega, HK0.out.trans HK5.out (fun x hx hlt => by simp at hx; omega)⟩
  go_wp2_with fail
  go_ret
  exact ⟨_, rfl, by omega, hK04'⟩

end Go.Proofs.Ytledbpiaipmgkaa
