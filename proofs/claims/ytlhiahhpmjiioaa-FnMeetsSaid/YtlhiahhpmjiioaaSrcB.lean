/-
  What a draw picks from a list, and a draw of a natural: contracts of l1Pick, l1Draw. Condition: few bytes have been read so far.
-/
import Derived.Test.YtlhiahhpmjiioaaSrcA
import Derived.Test.YtlhiahhpmjiioaaJ1
import Derived.Test.YtlhiahhpmjiioaaTrim
import Derived.Handy
namespace Go.Proofs.Ytlhiahhpmjiioaa
open Go.RowKit

/-- What a pick answers: a member of the list. -/
def PickR (w : World) (g : Nat) (a : Option Addr) (n c : Nat) (bs : List Int) (at_ : Int) (ys : List Int) (e : Ending) (w' : World) : Prop :=
  ∃ k : Nat, k < ys.length ∧ e = .returned (.int .i64 (ys.getD k 0)) ∧ Src w' g a n c bs (at_ + 1) ∧ Kept [g] w w'

set_option maxHeartbeats 1000000 in
theorem l1Pick_any (g : Nat) (a : Option Addr) (n c : Nat) (bs : List Int) (at_ : Int) (b : Option Addr) (m d : Nat) (ys : List Int) (w : World) (h : Src w g a n c bs at_) (ha : at_ ≤ 1000000) (h' : Rd w b m ys) (hb : 0 < m → ∀ x, b = some x → x.block ≠ g) (hm : 1 ≤ m ∧ m ≤ 1000) :
    Calls Try.prog 22 #[.pointer (some ⟨g, 0, none⟩), .slice b m d] w (PickR w g a n c bs at_ ys) := by
  have HR := Lib.hid h'
  have HL := Lib.hid h'.1
  have HB := Lib.hid hb
  clear h' hb
  go_enter Try.func22, Try.ntmps22
  go_wp2_with fail
  refine (l1Next_any g a n c bs at_ m _ h ha (by omega)).mono ?_
  rintro e w1 ⟨r, rfl, hr0, hr1, hS, hK⟩
  obtain ⟨k, rfl⟩ := Int.eq_ofNat_of_zero_le hr0
  have hkm : k < m := by omega
  have HR1 := HR.out.kept hK (fun hn x hx => by have := HB.out hn x hx; simpa using this)
  obtain ⟨gb, off, rfl, hc⟩ := HR1.2.2 k hkm
  have HS := Lib.hid hS
  have HK := Lib.hid hK
  clear hS hK HR1
  go_wp2_with fail
  go_ret
  exact ⟨k, by have := HL.out; omega, rfl, HS.out, HK.out⟩

/-- What a draw of a natural answers: its limbs, in memory of the draw's own. -/
def DrawR (w : World) (g : Nat) (a : Option Addr) (n c : Nat) (bs : List Int) (at_ most : Int) (e : Ending) (w' : World) : Prop :=
  ∃ v x at2, e = .returned v ∧ Ow w.heap.size w' v (digits x) ∧ 0 ≤ x ∧ ((digits x).length : Int) ≤ most ∧ Src w' g a n c bs at2 ∧ at2 ≤ at_ + 1 + 2 * most ∧ Kept [g] w w'

set_option maxHeartbeats 1000000 in
theorem l1Draw_any (g : Nat) (a : Option Addr) (n c : Nat) (bs : List Int) (at_ most : Int) (w : World) (h : Src w g a n c bs at_) (ha : at_ ≤ 900000) (hm : 0 ≤ most ∧ most ≤ 1000) :
    Calls Try.prog 40 #[.pointer (some ⟨g, 0, none⟩), .int .i64 most] w (DrawR w g a n c bs at_ most) := by
  have HS := Lib.hid h
  clear h
  go_enter Try.func40, Try.ntmps40
  go_wp2_with fail
  refine (l1Next_any g a n c bs at_ (most + 1) _ (HS.out.kept0 ((Kept.refl [] w).alloc _)) (by omega) (by omega)).mono ?_
  rintro e w1 ⟨r, rfl, hr0, hr1, hS, hK⟩
  have HS1 := Lib.hid hS
  have HK1 := Lib.hid hK
  clear hS hK
  go_wp2_with fail
  go_loopw [5, 6] (fun v i wr => ∃ (k : Nat) (at2 : Int) (xs : List Int), i = .int .i64 k ∧ (k : Int) + xs.length ≤ most ∧ at2 + 2 * k ≤ at_ + 1 + 2 * most ∧ at_ ≤ at2 ∧ Hid (AllLimbs xs) ∧ Hid (Ow w.heap.size wr v xs) ∧ Hid (Src wr g a n c bs at2) ∧ Hid (Kept [g] w wr)) (fun _ i _ => (intOf i).toNat)
  case atStart =>
    obtain ⟨k, rfl⟩ := Int.eq_ofNat_of_zero_le hr0
    exact ⟨k, at_ + 1, [], rfl, by simp; omega, by omega, by omega, fun j hj => by simp at hj, (Ow.empty _ w (Nat.le_refl _)).kept HK1.out (fun y hy => by have := HS.out.lt; simp [Value.ownBlock] at hy; subst hy; simp; omega), HS1.out, ((Kept.refl [g] w).alloc _).trans HK1.out (fun _ h _ => h)⟩
  case round =>
    obtain ⟨k, at2, xs, rfl, h1, h2, h3, hA, hO, hS, hK⟩ := hrel
    by_cases hp : 0 < k
    · go_wp2_with fail
      refine (l1Next_any g a n c bs at2 200 _ hS.out (by omega) (by omega)).mono ?_
      rintro e w2 ⟨q, rfl, q0, q1, hS2, hK2⟩
      have HS2 := Lib.hid hS2
      have HK2 : Hid (Kept [g] w w2) := hK.out.trans hK2 (fun _ h _ => h)
      have HO2 : Hid (Ow w.heap.size w2 u5 xs) := hO.out.kept hK2 (fun y hy => by have := World.ownsRow.lt hO.out y hy; have := HS.out.lt; simp; omega)
      clear hS2 hK2
      go_wp2_with fail
      have hR7 := (Sl.ofBlk (Blk.new w2 [0, 1, 65535, 32768, 65535, 32767, q * 300 + 7]) (by simp)).rd
      refine (l1Pick_any g a n c bs (at2 + 1) _ 7 _ [0, 1, 65535, 32768, 65535, 32767, q * 300 + 7] _ (HS2.out.kept0 ((Kept.refl [] w2).alloc _)) (by omega) hR7 (fun _ y hy => by cases hy; have := HS2.out.lt; simp; omega) (by omega)).mono ?_
      rintro e w3 ⟨j, hj, rfl, hS3, hK3⟩
      have hy : 0 ≤ [0, 1, 65535, 32768, 65535, 32767, q * 300 + 7].getD j 0 ∧ [0, 1, 65535, 32768, 65535, 32767, q * 300 + 7].getD j 0 ≤ 65535 := by
        match j, hj with
        | 0, _ => show (0 : Int) ≤ 0 ∧ (0 : Int) ≤ 65535; omega
        | 1, _ => show (0 : Int) ≤ 1 ∧ (1 : Int) ≤ 65535; omega
        | 2, _ => show (0 : Int) ≤ 65535 ∧ (65535 : Int) ≤ 65535; omega
        | 3, _ => show (0 : Int) ≤ 32768 ∧ (32768 : Int) ≤ 65535; omega
        | 4, _ => show (0 : Int) ≤ 65535 ∧ (65535 : Int) ≤ 65535; omega
        | 5, _ => show (0 : Int) ≤ 32767 ∧ (32767 : Int) ≤ 65535; omega
        | 6, _ => show (0 : Int) ≤ q * 300 + 7 ∧ q * 300 + 7 ≤ 65535; omega
        | n + 7, h => exact absurd h (by simp)
      generalize [0, 1, 65535, 32768, 65535, 32767, q * 300 + 7].getD j 0 = y at hy
      have HS3 := Lib.hid hS3
      have HA3 := Lib.hid (hA.out.snoc hy)
      have HK3 : Hid (Kept [g] w w3) := HK2.out.trans (((Kept.refl [g] w2).alloc _).trans hK3 (fun _ h _ => h)) (fun _ h _ => h)
      have HO3 : Hid (Ow w.heap.size w3 u5 xs) := HO2.out.kept (((Kept.refl [g] w2).alloc _).trans hK3 (fun _ h _ => h)) (fun y hy => by have := World.ownsRow.lt HO2.out y hy; have := HS.out.lt; simp; omega)
      have hsz : w.heap.size ≤ w3.heap.size := HK3.out.size
      clear hS3 hK3 hR7 HK2 HO2 hj HS2 hO hS hK
      go_wp2_with (at_builtin; refine app1 rfl _ _ rfl w.heap.size u5 xs rfl (HO3.out.alloc _) w3.heap.size y rfl (by simp) (by omega) (by simp; omega) ?_)
      intro v' w4 hO4 hG
      have HO4 := Lib.hid hO4
      have HK4 : Hid (Kept [g] w w4) := kept_grown (HK3.out.alloc _) (HO3.out.alloc _) hG (Nat.le_refl _)
      have hk4 : Kept u5.ownBlock.toList w3 w4 := ((Kept.refl u5.ownBlock.toList w3).alloc _).grown hG (fun k hk _ => by rw [hk]; simp)
      have HS4 := Lib.hid (HS3.out.kept hk4 (fun hm => by rw [Option.mem_toList] at hm; have := (World.ownsRow.lt HO3.out g hm).1; have := HS.out.lt; omega)
        (fun hn x hx hm => by rw [Option.mem_toList] at hm; have := (World.ownsRow.lt HO3.out _ hm).1; have := HS.out.2.2.2.1.lt hn x hx; omega))
      clear hO4 hG hk4
      go_wp2
      go_roundw
      case rel => exact ⟨k - 1, at2 + 1 + 1, xs ++ [y], by congr 1; omega, by simp; omega, by omega, by omega, HA3.out, HO4.out, HS4.out, HK4.out⟩
      case measure => simp [intOf]; omega
    · obtain rfl : k = 0 := by omega
      obtain ⟨av, cv, rfl, hs, hf⟩ := hO.out.sl
      have HA := Lib.hid hA.out.val.1
      have HL := Lib.hid (digits_len xs.length _ hA.out.val.2)
      go_wp2_with fail
      refine (l1Trim_any _ _ _ _ _ hs hA.out (by omega)).mono ?_
      rintro e w2 ⟨v, rfl, hO2, hK2⟩
      have HO2 := Lib.hid hO2
      have HK2 := Lib.hid hK2
      clear hO2 hK2 hs hf
      go_wp2_with fail
      go_ret
      exact ⟨v, val xs, at2, rfl, HO2.out.mono hK.out.size, HA.out, by have := HL.out; omega, hS.out.kept0 HK2.out, by omega, hK.out.trans0 HK2.out⟩

end Go.Proofs.Ytlhiahhpmjiioaa
