/-
 Contract of the model's l3Unit. Condition: the power is 96 at most.
-/
import Derived.Test.YtfafjijoeanbhaaJ5
import Derived.Test.YtfafjijoeanbhaaJ2
import Derived.Handy
namespace Go.Proofs.Ytfafjijoeanbhaa
open Go.RowKit

theorem digits_p2 (k : Nat) : digits (p2 k) = List.replicate (k / 16) 0 ++ [p2 (k % 16)] := by
 obtain ⟨q, hq⟩ : ∃ q, q = k / 16 := ⟨_, rfl⟩
 obtain ⟨r, hr⟩ : ∃ r, r = k % 16 := ⟨_, rfl⟩
 have h1 := p2_pos r
 have h2 := p2_mono r 15 (by omega)
 have h15 : p2 15 = 32768 := rfl
 rw [← hq, ← hr, ← digits_val (canon_pow q (y := p2 r) (by omega)), val_pow, pw_p2, ← p2_add, hq, hr, Nat.div_add_mod]

set_option maxHeartbeats 2000000 in
theorem l3Unit_any (k : Nat) (z : Int) (w : World) (hk : k ≤ 96) (hz : z = p2 k) :
  Calls Try.prog 57 #[.int .i64 (k : Int)] w (BigV w.heap.size w z) := by
 have hpos := p2_pos k
 have hm : mag z = List.replicate (k / 16) 0 ++ [p2 (k % 16)] := by rw [hz, mag_no (by omega)]; exact digits_p2 k
 have hn : isNeg z = false := by rw [hz]; exact isNeg_no (by omega)
 have HM := Lib.hid hm
 have HN := Lib.hid hn
 clear hm hn hz hpos
 go_enter Try.func57, Try.ntmps57
 go_wp2
 have k0 : Hid (Kept [] w (w.alloc (.cells #[.bool false, .slice none 0 0] 41))) := (Kept.refl [] w).alloc _
 go_loopw [0, 3] (fun p o wr => ∃ j : Nat, 16 * j ≤ k ∧ p = .int .i64 ((k : Int) - 16 * (j : Int)) ∧ Hid (Ow (w.heap.size + 1) wr o (List.replicate j 0)) ∧ Hid (Kept [] (w.alloc (.cells #[.bool false, .slice none 0 0] 41)) wr)) (fun p _ _ => (intOf p).toNat)
 case atStart => exact ⟨0, by omega, by congr 1 <;> omega, (by have h := Ow.empty (w.heap.size + 1) (w.alloc (.cells #[.bool false, .slice none 0 0] 41)) (by simp); simp only [World.size_alloc] at h; exact h), (Kept.refl [] _).alloc _⟩
 case round =>
  obtain ⟨j, hj, rfl, hO, hK⟩ := hrel
  by_cases hlt : 16 * (j + 1) ≤ k
  ·have hg : (16 : Int) ≤ (k : Int) - 16 * (j : Int) := by omega
   have e2 : IntKind.i64.wrap ((k : Int) - 16 * (j : Int) - 16) = (k : Int) - 16 * (j : Int) - 16 := IntWalk.i64_in _ (by omega)
   have hsz : w.heap.size + 1 ≤ wr.heap.size := by have := hK.out.size; simpa using this
   go_wp2_with (at_builtin; refine app1 rfl _ _ rfl (w.heap.size + 1) u3 (List.replicate j 0) rfl (hO.out.alloc _) wr.heap.size 0 rfl (by simp) (by simp; omega) (by simp; omega) ?_)
   intro v' w1 hO2 hG
   have HO2 := Lib.hid hO2
   have HK2 : Hid (Kept [] (w.alloc (.cells #[.bool false, .slice none 0 0] 41)) w1) := kept_grown (hK.out.alloc _) (hO.out.alloc _) hG (by simp)
   clear hO2 hG
   go_wp2
   go_roundw
   case rel => exact ⟨j + 1, by omega, by congr 1; omega, by rw [List.replicate_succ']; exact HO2.out, HK2⟩
   case measure => simp [intOf]; omega
  ·have hj2 : j = k / 16 := by omega
   have hg : ¬ (16 : Int) ≤ (k : Int) - 16 * (j : Int) := by omega
   obtain ⟨r, hr⟩ : ∃ r : Nat, r = k % 16 := ⟨_, rfl⟩
   have e3 : (k : Int) - 16 * (j : Int) = (r : Int) := by omega
   rw [e3] at hg ⊢
   have hr16 : r < 16 := by omega
   have HR := Lib.hid hr
   have HJ := Lib.hid hj2
   clear hr hj2 e3 hlt
   go_wp2
   go_loopw [0, 4] (fun p l wx => ∃ (i : Nat) (v : Int), i ≤ r ∧ p = .int .i64 ((r : Int) - (i : Int)) ∧ l = .int .i64 v ∧ 1 ≤ v ∧ v ≤ 32768 ∧ Hid (v = p2 i) ∧ wx = wr) (fun p _ _ => (intOf p).toNat)
   case atStart => exact ⟨0, 1, by omega, by congr 1 <;> omega, rfl, by omega, by omega, rfl, rfl⟩
   case round =>
    obtain ⟨i, v, hi, rfl, rfl, hv1, hv2, hv, rfl⟩ := hrel
    by_cases hlt : i < r
    ·have hv3 : v ≤ 16384 := by
      have h1 := p2_mono i 14 (by omega)
      have h2 : p2 14 = 16384 := rfl
      have := hv.out
      omega
     have e1 : IntKind.i64.wrap (v * 2) = v * 2 := IntWalk.i64_in _ (by omega)
     have e2 : IntKind.i64.wrap ((r : Int) - (i : Int) - 1) = (r : Int) - (i : Int) - 1 := IntWalk.i64_in _ (by omega)
     have HV2 : Hid (v * 2 = p2 (i + 1)) := by
      show v * 2 = 2 * p2 i
      rw [hv.out]; omega
     have hg2 : (0 : Int) < (r : Int) - (i : Int) := by omega
     go_wp2
     go_roundw
     case rel => exact ⟨i + 1, v * 2, by omega, by congr 1; omega, rfl, by omega, by omega, HV2, trivial⟩
     case measure => simp [intOf]; omega
    ·obtain rfl : i = r := by omega
     have hg2 : ¬ (0 : Int) < (i : Int) - (i : Int) := by omega
     have hsz : w.heap.size + 1 ≤ wr.heap.size := by have := hK.out.size; simpa using this
     go_wp2_with (at_builtin; refine app1 rfl _ _ rfl (w.heap.size + 1) u3 (List.replicate j 0) rfl (hO.out.alloc _) wr.heap.size v rfl (by simp) (by simp; omega) (by simp; omega) ?_)
     intro v' w1 hO2 hG
     have hK2 : Kept [] (w.alloc (.cells #[.bool false, .slice none 0 0] 41)) w1 := kept_grown (hK.out.alloc _) (hO.out.alloc _) hG (by simp)
     have hL : List.replicate j 0 ++ [v] = mag z := by rw [HM.out, HJ.out, hv.out, HR.out]
     rw [hL] at hO2
     obtain ⟨a1, c1, rfl, hs, hf⟩ := hO2.sl
     obtain ⟨d0, f0, _⟩ := hK2.top (g := w.heap.size) rfl (by simp) 0 (v := .bool false) rfl
     obtain ⟨d1, f1, _⟩ := hK2.top (g := w.heap.size) rfl (by simp) 1 (v := .slice none 0 0) rfl
     have HS := Lib.hid hs
     have HF := Lib.hid hf
     have HK := Lib.hid (hK2.peel)
     clear hs hf hO2 hG hK2 hL hO hK
     obtain ⟨_, eb, ec⟩ := cells2 (.bool false) (.slice a1 (mag z).length c1) d0 d1
     have hk9 : Kept [w.heap.size] w1 ((w1.setCell ⟨w.heap.size, 0, none⟩ (.bool false)).setCell ⟨w.heap.size, 1, none⟩ (.slice a1 (mag z).length c1)) := ((Kept.refl [w.heap.size] w1).setCell _ _ (by simp)).setCell _ _ (by simp)
     have HK9 := Lib.hid hk9
     clear hk9
     go_wp2_with fail
     refine bodyPost_ret (v := .agg #[.bool false, .slice a1 (mag z).length c1]) (by simp [results, Try.results57, go_sem, eb, ec]) rfl ?_
     exact ⟨a1, c1, by rw [HN.out], HS.out.kept HK9.out (fun hn x hx => by have := HF.out hn x hx; simp; omega), HF.out.mono (by omega), HK.out.trans HK9.out (fun x hx hlt => by simp at hx; omega)⟩

end Go.Proofs.Ytfafjijoeanbhaa
