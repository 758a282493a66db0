/-
  The draw of what is divided: contract of DrawDivNats. Condition: the bytes are at most 1048576.
-/
import Derived.Test.YtledbpiaipmgkaaDrwA
import Derived.Test.YtledbpiaipmgkaaSMul
import Derived.Test.YtledbpiaipmgkaaNatOf
namespace Go.Proofs.Ytledbpiaipmgkaa
open Go.RowKit

theorem draw_lt {x most : Int} (k : Nat) (hx : 0 ≤ x) (hl : ((digits x).length : Int) ≤ most) (hm : most ≤ k) : x < pw k := by
  have := (val_pw_le (canon_limbs (canon_digits' x)) (show (digits x).length ≤ k by omega)).2
  rwa [val_digits' hx] at this
theorem mul_lt8 {x y : Int} (hx : 0 ≤ x ∧ x < pw 4) (hy : 0 ≤ y ∧ y < pw 4) : 0 ≤ x * y ∧ x * y + 2 < pw 9 := by
  have h0 := Int.mul_nonneg hx.1 hy.1
  simp only [pw] at hx hy ⊢
  have h1 : x * y ≤ 18446744073709551615 * 18446744073709551615 := Int.mul_le_mul (by omega) (by omega) (by omega) (by omega)
  omega

set_option maxHeartbeats 2000000 in
theorem DrawDivNats_any (a : Option Addr) (n c : Nat) (bs : List Int) (w : World) (h : Rd8 w a n bs) :
    Calls Try.prog 28 #[.slice a n c] w (Draw2R w) := by
  have HR := Lib.hid h
  clear h
  go_enter Try.func28, Try.ntmps28
  go_wp2_with fail
  refine (l1Source_any _ _ _ _ _ HR.out).mono ?_
  rintro e w1 ⟨g, rfl, hg, hS, hK⟩
  go_wp2_with fail
  have hg1 : g < w1.heap.size := hS.lt
  have hR3 := (Sl.ofBlk (Blk.new w1 [1, 2, 4]) (by simp)).rd
  refine (l1Pick_any g a n c bs 0 _ 3 _ [1, 2, 4] _ (hS.kept0 ((Kept.refl [] w1).alloc _)) (by omega) hR3 (fun _ y hy => by cases hy; simp; omega) (by omega)).mono ?_
  rintro e w2 ⟨j, hj, rfl, hS2, hK2⟩
  have hy : 1 ≤ ([1, 2, 4] : List Int).getD j 0 ∧ ([1, 2, 4] : List Int).getD j 0 ≤ 4 := by
    match j, hj with
    | 0, _ => show (1 : Int) ≤ 1 ∧ (1 : Int) ≤ 4; omega
    | 1, _ => show (1 : Int) ≤ 2 ∧ (2 : Int) ≤ 4; omega
    | 2, _ => show (1 : Int) ≤ 4 ∧ (4 : Int) ≤ 4; omega
    | n + 3, h => exact absurd h (by simp)
  generalize ([1, 2, 4] : List Int).getD j 0 = y at hy
  have hK02 : Kept [g] w1 w2 := ((Kept.refl [g] w1).alloc _).trans hK2 (fun _ h _ => h)
  have hz2 := (((Kept.refl [g] w1).alloc _).trans hK2 (fun _ h _ => h)).size
  clear hR3 hj hK2
  go_wp2_with fail
  refine (l1Draw_any g a n c bs (0 + 1) y _ hS2 (by omega) (by omega)).mono ?_
  rintro e w3 ⟨vb, x, at3, rfl, hO3, hx0, hl3, hS3, hat3, hK3⟩
  obtain ⟨ab, cb, rfl, hsb, hfb0⟩ := hO3.sl
  have hnb := (canon_limbs (canon_digits' x)).near
  have hlb := draw_lt 4 hx0 hl3 (by omega)
  have hfb := hfb0.mono hz2
  have hz3 := hK3.size
  go_wp2_with fail
  refine (l1Bent_any g a n c bs at3 _ hS3 (by omega)).mono ?_
  rintro e w4 ⟨a4, c4, xs, at4, rfl, hs4, hf4, hn4, hl4, hS4, hat4, hK4⟩
  have hsb4 := hsb.kept hK4 (fun hn x hx => by have := hfb hn x hx; simp; omega)
  have hz4 := hK4.size
  have hK04 : Kept [g] w1 w4 := (hK02.trans hK3 (fun _ h _ => h)).trans hK4 (fun _ h _ => h)
  go_wp2_with fail
  refine (l1Next_any g a n c bs at4 4 _ hS4 (by omega) (by omega)).mono ?_
  rintro e w5 ⟨r, rfl, hr0, hr1, hS5, hK5⟩
  have hsb5 := hsb4.kept hK5 (fun hn x hx => by have := hfb hn x hx; simp; omega)
  have hs5 := hs4.kept hK5 (fun hn x hx => by have := hf4 hn x hx; simp; omega)
  have hz5 := hK5.size
  have hz1 := hK.size
  have hK05 : Kept [] w w5 := hK.trans (hK04.trans hK5 (fun _ h _ => h)) (fun x hx hlt => by simp at hx; omega)
  have hR5b : Rd w5 ab (digits x).length (digits x) := hsb5.rd
  clear hs4 hsb4 hsb hO3 hS hS2 hS3 hS4 hK3 hK4 hK5 hK02 hK04 hfb0
  by_cases r0 : r = 0
  · subst r0
    go_wp2_with fail
    refine (l1Draw_any g a n c bs (at4 + 1) 4 _ hS5 (by omega) (by omega)).mono ?_
    rintro e w6 ⟨vz, z, at6, rfl, hO6, hz0, hl6, hS6, hat6, hK6⟩
    obtain ⟨az, cz, rfl, hsz6, hfz⟩ := hO6.sl
    have hlz := draw_lt 4 hz0 hl6 (by omega)
    have hsb6 := hsb5.kept hK6 (fun hn x hx => by have := hfb hn x hx; simp; omega)
    have hzz6 := hK6.size
    have hxz := mul_lt8 ⟨hx0, hlb⟩ ⟨hz0, hlz⟩
    have hK06 : Kept [] w w6 := hK05.trans hK6 (fun x hx hlt => by simp at hx; omega)
    clear hO6
    go_wp2_with fail
    refine (l1Mul_any _ _ _ _ _ _ _ _ _ hsb6.rd hsz6.rd (canon_limbs (canon_digits' _)) (canon_limbs (canon_digits' _)) (by omega) (by omega)).mono ?_
    rw [val_digits' hx0, val_digits' hz0]
    rintro e w7 ⟨v7, rfl, hO7, hK7⟩
    obtain ⟨a7, c7, rfl, hs7, hf7⟩ := hO7.sl
    have hsb7 := hsb6.kept0 hK7
    have hS7 := hS6.kept0 hK7
    have hzz7 := hK7.size
    have hK07 : Kept [] w w7 := hK06.trans0 hK7
    have hl7 : (digits (x * z)).length ≤ 9 := digits_len 9 _ (by omega)
    have hn7 := (canon_limbs (canon_digits' (x * z))).near
    clear hO7
    go_wp2_with fail
    refine (l1Chance_any g a n c bs at6 12 _ hS7 (by omega) (by omega)).mono ?_
    rintro e w9 ⟨b9, rfl, hS9, hK9⟩
    have hsa9 := hs7.kept hK9 (fun hn x hx => by have := hf7 hn x hx; simp; omega)
    have hsb9 := hsb7.kept hK9 (fun hn x hx => by have := hfb hn x hx; simp; omega)
    have hK09 : Kept [] w w9 := hK07.trans hK9 (fun x hx hlt => by simp at hx; omega)
    cases b9
    · go_wp2_with fail
      go_ret2
      exact ⟨_, _, digits (x * z), _, _, digits x, rfl, ⟨hsa9, hf7.mono (by omega), hn7, by omega⟩, ⟨hsb9, hfb.mono (by omega), hnb, by omega⟩, hK09⟩
    · go_wp2_with fail
      refine (l1Bent_any g a n c bs (at6 + 1) _ hS9 (by omega)).mono ?_
      rintro e w10 ⟨a10, c10, zs, at10, rfl, hs10, hf10, hn10, hl10, hS10, hat10, hK10⟩
      have hsz9 := hK09.size
      go_wp2_with fail
      go_ret2
      exact ⟨_, _, digits (x * z), a10, c10, zs, rfl, ⟨hsa9.kept hK10 (fun hn x hx => by have := hf7 hn x hx; simp; omega), hf7.mono (by omega), hn7, by omega⟩, ⟨hs10, hf10.mono (by omega), hn10, by omega⟩, hK09.trans hK10 (fun x hx hlt => by simp at hx; omega)⟩
  · by_cases r1 : r = 1
    · subst r1
      go_wp2_with fail
      refine (l1Draw_any g a n c bs (at4 + 1) 4 _ hS5 (by omega) (by omega)).mono ?_
      rintro e w6 ⟨vz, z, at6, rfl, hO6, hz0, hl6, hS6, hat6, hK6⟩
      obtain ⟨az, cz, rfl, hsz6, hfz⟩ := hO6.sl
      have hlz := draw_lt 4 hz0 hl6 (by omega)
      have hsb6 := hsb5.kept hK6 (fun hn x hx => by have := hfb hn x hx; simp; omega)
      have hzz6 := hK6.size
      have hxz := mul_lt8 ⟨hx0, hlb⟩ ⟨hz0, hlz⟩
      have hK06 : Kept [] w w6 := hK05.trans hK6 (fun x hx hlt => by simp at hx; omega)
      clear hO6
      go_wp2_with fail
      refine (l1Mul_any _ _ _ _ _ _ _ _ _ hsb6.rd hsz6.rd (canon_limbs (canon_digits' _)) (canon_limbs (canon_digits' _)) (by omega) (by omega)).mono ?_
      rw [val_digits' hx0, val_digits' hz0]
      rintro e w7 ⟨v7, rfl, hO7, hK7⟩
      obtain ⟨a7, c7, rfl, hs7, hf7⟩ := hO7.sl
      have hsb7 := hsb6.kept0 hK7
      have hS7 := hS6.kept0 hK7
      have hzz7 := hK7.size
      have hK07 : Kept [] w w7 := hK06.trans0 hK7
      have hl7 : (digits (x * z)).length ≤ 9 := digits_len 9 _ (by omega)
      have hn7 := (canon_limbs (canon_digits' (x * z))).near
      clear hO7
      go_wp2_with fail
      refine (l1Next_any g a n c bs at6 3 _ hS7 (by omega) (by omega)).mono ?_
      rintro e w8 ⟨q, rfl, q0, q1, hS8, hK8⟩
      have hs8 := hs7.kept hK8 (fun hn x hx => by have := hf7 hn x hx; simp; omega)
      have hsb8 := hsb7.kept hK8 (fun hn x hx => by have := hfb hn x hx; simp; omega)
      have hK08 : Kept [] w w8 := hK07.trans hK8 (fun x hx hlt => by simp at hx; omega)
      have hzz8 := hK8.size
      go_wp2_with fail
      refine (l1Nat_any q _ (by omega)).mono ?_
      rintro e w11 ⟨v11, rfl, hO11, hK11⟩
      obtain ⟨a11, c11, rfl, hs11, hf11⟩ := hO11.sl
      have hs8' := hs8.kept0 hK11
      have hsb11 := hsb8.kept0 hK11
      have hS11 := hS8.kept0 hK11
      have hzz11 := hK11.size
      have hK011 : Kept [] w w11 := hK08.trans0 hK11
      have hl11 : (digits q).length ≤ 1 := digits_len 1 _ (by simp only [pw]; omega)
      clear hO11
      go_wp2_with fail
      refine (l1Add_any _ _ _ _ _ _ _ _ _ hs8'.rd hs11.rd (canon_digits' _) (canon_digits' _) (by omega) (by omega)).mono ?_
      rw [val_digits' hxz.1, val_digits' q0]
      rintro e w12 ⟨v12, rfl, hO12, hK12⟩
      obtain ⟨a12, c12, rfl, hs12, hf12⟩ := hO12.sl
      have hsb12 := hsb11.kept0 hK12
      have hS12 := hS11.kept0 hK12
      have hzz12 := hK12.size
      have hK012 : Kept [] w w12 := hK011.trans0 hK12
      have hl12 : (digits (x * z + q)).length ≤ 9 := digits_len 9 _ (by omega)
      have hn12 := (canon_limbs (canon_digits' (x * z + q))).near
      clear hO12
      go_wp2_with fail
      refine (l1Chance_any g a n c bs (at6 + 1) 12 _ hS12 (by omega) (by omega)).mono ?_
      rintro e w9 ⟨b9, rfl, hS9, hK9⟩
      have hsa9 := hs12.kept hK9 (fun hn x hx => by have := hf12 hn x hx; simp; omega)
      have hsb9 := hsb12.kept hK9 (fun hn x hx => by have := hfb hn x hx; simp; omega)
      have hK09 : Kept [] w w9 := hK012.trans hK9 (fun x hx hlt => by simp at hx; omega)
      cases b9
      · go_wp2_with fail
        go_ret2
        exact ⟨_, _, digits (x * z + q), _, _, digits x, rfl, ⟨hsa9, hf12.mono (by omega), hn12, by omega⟩, ⟨hsb9, hfb.mono (by omega), hnb, by omega⟩, hK09⟩
      · go_wp2_with fail
        refine (l1Bent_any g a n c bs ((at6 + 1) + 1) _ hS9 (by omega)).mono ?_
        rintro e w10 ⟨a10, c10, zs, at10, rfl, hs10, hf10, hn10, hl10, hS10, hat10, hK10⟩
        have hsz9 := hK09.size
        go_wp2_with fail
        go_ret2
        exact ⟨_, _, digits (x * z + q), a10, c10, zs, rfl, ⟨hsa9.kept hK10 (fun hn x hx => by have := hf12 hn x hx; simp; omega), hf12.mono (by omega), hn12, by omega⟩, ⟨hs10, hf10.mono (by omega), hn10, by omega⟩, hK09.trans hK10 (fun x hx hlt => by simp at hx; omega)⟩
    · have hr2 : ¬ r = 0 := r0
      go_wp2_with fail
      refine (l1Chance_any g a n c bs (at4 + 1) 12 _ hS5 (by omega) (by omega)).mono ?_
      rintro e w9 ⟨b9, rfl, hS9, hK9⟩
      have hsa9 := hs5.kept hK9 (fun hn x hx => by have := hf4 hn x hx; simp; omega)
      have hsb9 := hsb5.kept hK9 (fun hn x hx => by have := hfb hn x hx; simp; omega)
      have hK09 : Kept [] w w9 := hK05.trans hK9 (fun x hx hlt => by simp at hx; omega)
      cases b9
      · go_wp2_with fail
        go_ret2
        exact ⟨_, _, xs, _, _, digits x, rfl, ⟨hsa9, hf4.mono (by omega), hn4, by omega⟩, ⟨hsb9, hfb.mono (by omega), hnb, by omega⟩, hK09⟩
      · go_wp2_with fail
        refine (l1Bent_any g a n c bs ((at4 + 1) + 1) _ hS9 (by omega)).mono ?_
        rintro e w10 ⟨a10, c10, zs, at10, rfl, hs10, hf10, hn10, hl10, hS10, hat10, hK10⟩
        have hsz9 := hK09.size
        go_wp2_with fail
        go_ret2
        exact ⟨_, _, xs, a10, c10, zs, rfl, ⟨hsa9.kept hK10 (fun hn x hx => by have := hf4 hn x hx; simp; omega), hf4.mono (by omega), hn4, by omega⟩, ⟨hs10, hf10.mono (by omega), hn10, by omega⟩, hK09.trans hK10 (fun x hx hlt => by simp at hx; omega)⟩

end Go.Proofs.Ytledbpiaipmgkaa
