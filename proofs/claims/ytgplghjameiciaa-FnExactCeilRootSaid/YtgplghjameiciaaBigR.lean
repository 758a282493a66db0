/-
  Contracts of FloorRoot, both sides. Condition: the limbs lie in a block of numbers.
-/
import Derived.Test.YtgplghjameiciaaSRoot
namespace Go.Proofs.Ytgplghjameiciaa
open Go.RowKit

/-- The square root, rounded up. -/
def csq (v : Int) : Int := if isq v * isq v < v then isq v + 1 else isq v
def rootB (f : Int → Int) (p : Bool) (xs : List Int) : BV := if bigFault p xs = 0 then (if p = true then noBig 3 else ⟨0, false, digits (f (val xs))⟩) else noBig (bigFault p xs)
theorem isq_le {v : Int} (h : 0 ≤ v) : 0 ≤ isq v ∧ isq v ≤ v := by
  have hr := isq_root h
  refine ⟨hr.pos, ?_⟩
  rcases (by have := hr.pos; omega : isq v = 0 ∨ 1 ≤ isq v) with e | e
  · omega
  · have h1 : isq v * 1 ≤ isq v * isq v := Int.mul_le_mul_of_nonneg_left e hr.pos
    have := hr.low; omega
theorem csq_le {v : Int} (h : 0 ≤ v) : 0 ≤ csq v ∧ csq v ≤ v := by
  have h1 := isq_le h
  have hr := isq_root h
  unfold csq
  split
  · rename_i hlt
    rcases (by omega : isq v = 0 ∨ 1 ≤ isq v) with e | e
    · rw [e] at hlt ⊢; simp at hlt; omega
    · have h3 : isq v * 1 ≤ isq v * isq v := Int.mul_le_mul_of_nonneg_left e hr.pos
      omega
  · exact h1
theorem rootB_len {f : Int → Int} (hf : ∀ v, 0 ≤ v → 0 ≤ f v ∧ f v ≤ v) (p : Bool) (xs : List Int) : (rootB f p xs).limbs.length ≤ 40 := by
  unfold rootB
  by_cases hz : bigFault p xs = 0
  · rw [if_pos hz]
    by_cases hp : p = true
    · rw [if_pos hp]; exact Nat.zero_le _
    · rw [if_neg hp]
      have hx := (bigFault_zero hz).n40
      have h0 := (canon_nonneg hx.canon).1
      have := digits_len_mono (hf _ h0).2
      rw [digits_val hx.canon] at this
      have := hx.len
      show (digits (f (val xs))).length ≤ 40
      omega
  · rw [if_neg hz]; exact Nat.zero_le _
/-- A big answer, stored into the result's block, which is the second one of the call. -/
theorem bigR_fin2 {w w1 : World} {r : BV} {a : Option Addr} {c : Nat} (hS : Sl w1 a r.limbs.length c r.limbs) (hF : Fr (w.heap.size + 1 + 1) a r.limbs.length) (hk : Kept [] w w1) :
    BigR w r (.returned (.agg #[.int .i64 r.code, .bool r.neg, .slice a r.limbs.length c])) (((w1.setCell ⟨w.heap.size + 1, 0, none⟩ (.int .i64 r.code)).setCell ⟨w.heap.size + 1, 1, none⟩ (.bool r.neg)).setCell ⟨w.heap.size + 1, 2, none⟩ (.slice a r.limbs.length c)) :=
  ⟨a, c, rfl, hS.kept ((((Kept.refl [w.heap.size + 1] w1).setCell _ _ (by simp)).setCell _ _ (by simp)).setCell _ _ (by simp)) (fun hn x hx => by have := hF hn x hx; simp; omega), hF.mono (by omega),
    ((hk.setCell _ _ (by simp)).setCell _ _ (by simp)).setCell _ _ (by simp)⟩

set_option maxHeartbeats 1000000 in
theorem l2Roots_any (p : Bool) (a : Option Addr) (n c : Nat) (xs : List Int) (w : World) (h : Rd w a n xs) :
    Calls Try.prog 90 #[.agg #[.bool p, .slice a n c]] w (Ans w (.int .i64 (if bigFault p xs = 0 then (if p = true then 3 else 0) else bigFault p xs))) := by
  have HR := Lib.hid h
  clear h
  have k0 : Kept [] w (w.alloc (.cells #[.bool p, .slice a n c] 40)) := (Kept.refl [] w).alloc _
  have K0 := Lib.hid k0
  clear k0
  by_cases hz : bigFault p xs = 0
  · rw [if_pos hz]
    have hz' := Lib.hid hz
    clear hz
    cases p
    · rw [if_neg (by simp)]
      go_enter Try.func90, Try.ntmps90
      go_wp2_with fail
      refine (sBigFault_any _ _ _ _ _ _ (HR.out.kept0 K0.out)).mono ?_
      rintro e w1 ⟨rfl, hk⟩
      rw [hz'.out]
      have c0 := (hk.top (g := w.heap.size) (by simp) (by simp) 0 (v := .bool false) rfl).1
      have HK := Lib.hid (K0.out.trans0 hk)
      clear hk
      go_wp2_with fail
      go_ret
      exact ⟨rfl, HK.out⟩
    · rw [if_pos rfl]
      go_enter Try.func90, Try.ntmps90
      go_wp2_with fail
      refine (sBigFault_any _ _ _ _ _ _ (HR.out.kept0 K0.out)).mono ?_
      rintro e w1 ⟨rfl, hk⟩
      rw [hz'.out]
      have c0 := (hk.top (g := w.heap.size) (by simp) (by simp) 0 (v := .bool true) rfl).1
      have HK := Lib.hid (K0.out.trans0 hk)
      clear hk
      go_wp2_with fail
      go_ret
      exact ⟨rfl, HK.out⟩
  · rw [if_neg hz]
    generalize hf : bigFault p xs = f at *
    have hne : (f == 0) = false := by rw [beq_eq_false_iff_ne]; exact hz
    have HF := Lib.hid hf
    clear hf hz
    go_enter Try.func90, Try.ntmps90
    go_wp2_with fail
    refine (sBigFault_any _ _ _ _ _ _ (HR.out.kept0 K0.out)).mono ?_
    rintro e w1 ⟨rfl, hk⟩
    rw [HF.out]
    have HK := Lib.hid (K0.out.trans0 hk)
    clear hk
    go_wp2_with fail
    go_ret
    exact ⟨rfl, HK.out⟩

set_option maxHeartbeats 2000000 in
theorem FloorRoot_any (p : Bool) (a : Option Addr) (n c : Nat) (xs : List Int) (w : World) (h : Sl w a n c xs) :
    Calls Try.prog 55 #[.agg #[.bool p, .slice a n c]] w (BigR w (rootB isq p xs)) := by
  have HS := Lib.hid h
  clear h
  have k0 : Kept [] w ((w.alloc (.cells #[.bool p, .slice a n c] 40)).alloc (.cells #[.int .i64 0, .bool false, .slice none 0 0] 42)) := ((Kept.refl [] w).alloc _).alloc _
  have K0 := Lib.hid k0
  clear k0
  unfold rootB
  by_cases hz : bigFault p xs = 0
  · rw [if_pos hz]
    have hz' := Lib.hid hz
    have HX := Lib.hid (bigFault_zero hz).n40
    clear hz
    cases p
    · rw [if_neg Bool.false_ne_true]
      go_enter Try.func55, Try.ntmps55
      go_wp2_with fail
      refine (BigFault_any _ _ _ _ _ _ (HS.out.rd.kept0 K0.out)).mono ?_
      rintro e w1 ⟨rfl, hk⟩
      rw [hz'.out]
      have c00 := (hk.peel.top (g := w.heap.size) (by simp) (by simp) 0 (v := .bool false) rfl).1
      have c01 := (hk.peel.top (g := w.heap.size) (by simp) (by simp) 1 (v := .slice a n c) rfl).1
      obtain ⟨rc0, rf0, hsz⟩ := hk.top (g := w.heap.size + 1) (by simp) (by simp) 0 (v := .int .i64 0) rfl
      obtain ⟨rc1, rf1, hsz⟩ := hk.top (g := w.heap.size + 1) (by simp) (by simp) 1 (v := .bool false) rfl
      obtain ⟨rc2, rf2, hsz⟩ := hk.top (g := w.heap.size + 1) (by simp) (by simp) 2 (v := .slice none 0 0) rfl
      have HK := Lib.hid (K0.out.trans0 hk)
      have hk1s := hk.size
      simp only [World.size_alloc] at hk1s
      clear hk
      go_wp2_with fail
      refine (rootOfNat_any _ _ _ _ _ (HS.out.rd.kept0 HK.out) HX.out).mono ?_
      rintro e w2 ⟨a2, x2, rfl, hs2, hf2, hk2⟩
      have hf2 := hf2.mono (B' := w.heap.size + 1 + 1) (by omega)
      have g0 := hk2.cell (p := ⟨w.heap.size + 1, 0, none⟩) rc0 (by simp)
      have g1 := hk2.cell (p := ⟨w.heap.size + 1, 1, none⟩) rc1 (by simp)
      have g2 := hk2.cell (p := ⟨w.heap.size + 1, 2, none⟩) rc2 (by simp)
      have e0 := hk2.free' (p := ⟨w.heap.size + 1, 0, none⟩) rc0 rf0 (by simp)
      have e1 := hk2.free' (p := ⟨w.heap.size + 1, 1, none⟩) rc1 rf1 (by simp)
      have e2 := hk2.free' (p := ⟨w.heap.size + 1, 2, none⟩) rc2 rf2 (by simp)
      have HS2 := Lib.hid hs2
      have HF2 := Lib.hid hf2
      have HK2 := Lib.hid (HK.out.trans0 hk2)
      obtain ⟨zs, hzs⟩ : ∃ zs, zs = digits (isq (val xs)) := ⟨_, rfl⟩
      rw [← hzs] at HS2 HF2 ⊢
      have HZS := Lib.hid hzs
      clear hzs hs2 hf2 hk2
      obtain ⟨ea, eb, ec⟩ := cells3' (.int .i64 0) (.bool false) (.slice a2 zs.length x2) g0 g1 g2
      go_wp2_with fail
      exact bodyPost_ret (v := .agg #[.int .i64 0, .bool false, .slice a2 zs.length x2]) (by simp [results, Try.results55, go_sem, ea, eb, ec]) rfl (by rw [← HZS.out]; exact bigR_fin2 (r := ⟨0, false, zs⟩) HS2.out HF2.out HK2.out)
    · rw [if_pos rfl]
      go_enter Try.func55, Try.ntmps55
      go_wp2_with fail
      refine (BigFault_any _ _ _ _ _ _ (HS.out.rd.kept0 K0.out)).mono ?_
      rintro e w1 ⟨rfl, hk⟩
      rw [hz'.out]
      have c00 := (hk.peel.top (g := w.heap.size) (by simp) (by simp) 0 (v := .bool true) rfl).1
      have c01 := (hk.peel.top (g := w.heap.size) (by simp) (by simp) 1 (v := .slice a n c) rfl).1
      obtain ⟨rc0, rf0, hsz⟩ := hk.top (g := w.heap.size + 1) (by simp) (by simp) 0 (v := .int .i64 0) rfl
      obtain ⟨rc1, rf1, hsz⟩ := hk.top (g := w.heap.size + 1) (by simp) (by simp) 1 (v := .bool false) rfl
      obtain ⟨rc2, rf2, hsz⟩ := hk.top (g := w.heap.size + 1) (by simp) (by simp) 2 (v := .slice none 0 0) rfl
      have HK := Lib.hid (K0.out.trans0 hk)
      clear hk
      obtain ⟨ea, eb, ec⟩ := cells3' (.int .i64 3) (.bool false) (.slice none 0 0) rc0 rc1 rc2
      go_wp2_with fail
      exact bodyPost_ret (v := .agg #[.int .i64 3, .bool false, .slice none 0 0]) (by simp [results, Try.results55, go_sem, ea, eb, ec]) rfl (bigR_fin2 (r := noBig 3) (a := none) (c := 0) (Sl.nil _) (fun h => by simp [noBig] at h) HK.out)
  · rw [if_neg hz]
    generalize hf : bigFault p xs = f at *
    have hne : (f == 0) = false := by rw [beq_eq_false_iff_ne]; exact hz
    have HF := Lib.hid hf
    have hfz := Lib.hid hz
    clear hf hz
    go_enter Try.func55, Try.ntmps55
    go_wp2_with fail
    refine (BigFault_any _ _ _ _ _ _ (HS.out.rd.kept0 K0.out)).mono ?_
    rintro e w1 ⟨rfl, hk⟩
    rw [HF.out]
    have c00 := (hk.peel.top (g := w.heap.size) (by simp) (by simp) 0 (v := .bool p) rfl).1
    have c01 := (hk.peel.top (g := w.heap.size) (by simp) (by simp) 1 (v := .slice a n c) rfl).1
    obtain ⟨rc0, rf0, hsz⟩ := hk.top (g := w.heap.size + 1) (by simp) (by simp) 0 (v := .int .i64 0) rfl
    obtain ⟨rc1, rf1, hsz⟩ := hk.top (g := w.heap.size + 1) (by simp) (by simp) 1 (v := .bool false) rfl
    obtain ⟨rc2, rf2, hsz⟩ := hk.top (g := w.heap.size + 1) (by simp) (by simp) 2 (v := .slice none 0 0) rfl
    have HK := Lib.hid (K0.out.trans0 hk)
    clear hk
    obtain ⟨ea, eb, ec⟩ := cells3' (.int .i64 f) (.bool false) (.slice none 0 0) rc0 rc1 rc2
    go_wp2_with fail
    exact bodyPost_ret (v := .agg #[.int .i64 f, .bool false, .slice none 0 0]) (by simp [results, Try.results55, go_sem, ea, eb, ec]) rfl (bigR_fin2 (r := noBig f) (a := none) (c := 0) (Sl.nil _) (fun h => by simp [noBig] at h) HK.out)

set_option maxHeartbeats 2000000 in
theorem sFloorRoot_any (p : Bool) (a : Option Addr) (n c : Nat) (xs : List Int) (w : World) (h : Sl w a n c xs) :
    Calls Try.prog 54 #[.agg #[.bool p, .slice a n c]] w (BigR w (rootB isq p xs)) := by
  have HS := Lib.hid h
  clear h
  have k0 : Kept [] w ((w.alloc (.cells #[.bool p, .slice a n c] 40)).alloc (.cells #[.int .i64 0, .bool false, .slice none 0 0] 42)) := ((Kept.refl [] w).alloc _).alloc _
  have K0 := Lib.hid k0
  clear k0
  unfold rootB
  by_cases hz : bigFault p xs = 0
  · rw [if_pos hz]
    have hz' := Lib.hid hz
    have HX := Lib.hid (bigFault_zero hz).n40
    clear hz
    cases p
    · rw [if_neg Bool.false_ne_true]
      go_enter Try.func54, Try.ntmps54
      go_wp2_with fail
      refine (l2Roots_any _ _ _ _ _ _ (HS.out.rd.kept0 K0.out)).mono ?_
      rintro e w1 ⟨rfl, hk⟩
      rw [if_pos hz'.out, if_neg Bool.false_ne_true]
      have c00 := (hk.peel.top (g := w.heap.size) (by simp) (by simp) 0 (v := .bool false) rfl).1
      have c01 := (hk.peel.top (g := w.heap.size) (by simp) (by simp) 1 (v := .slice a n c) rfl).1
      obtain ⟨rc0, rf0, hsz⟩ := hk.top (g := w.heap.size + 1) (by simp) (by simp) 0 (v := .int .i64 0) rfl
      obtain ⟨rc1, rf1, hsz⟩ := hk.top (g := w.heap.size + 1) (by simp) (by simp) 1 (v := .bool false) rfl
      obtain ⟨rc2, rf2, hsz⟩ := hk.top (g := w.heap.size + 1) (by simp) (by simp) 2 (v := .slice none 0 0) rfl
      have HK := Lib.hid (K0.out.trans0 hk)
      have hk1s := hk.size
      simp only [World.size_alloc] at hk1s
      clear hk
      go_wp2_with fail
      refine (l2Root_any _ _ _ _ _ (HS.out.kept0 HK.out) HX.out).mono ?_
      rintro e w2 ⟨a2, x2, rfl, hs2, hf2, hk2⟩
      have hf2 := hf2.mono (B' := w.heap.size + 1 + 1) (by omega)
      have g0 := hk2.cell (p := ⟨w.heap.size + 1, 0, none⟩) rc0 (by simp)
      have g1 := hk2.cell (p := ⟨w.heap.size + 1, 1, none⟩) rc1 (by simp)
      have g2 := hk2.cell (p := ⟨w.heap.size + 1, 2, none⟩) rc2 (by simp)
      have e0 := hk2.free' (p := ⟨w.heap.size + 1, 0, none⟩) rc0 rf0 (by simp)
      have e1 := hk2.free' (p := ⟨w.heap.size + 1, 1, none⟩) rc1 rf1 (by simp)
      have e2 := hk2.free' (p := ⟨w.heap.size + 1, 2, none⟩) rc2 rf2 (by simp)
      have HS2 := Lib.hid hs2
      have HF2 := Lib.hid hf2
      have HK2 := Lib.hid (HK.out.trans0 hk2)
      obtain ⟨zs, hzs⟩ : ∃ zs, zs = digits (isq (val xs)) := ⟨_, rfl⟩
      rw [← hzs] at HS2 HF2 ⊢
      have HZS := Lib.hid hzs
      clear hzs hs2 hf2 hk2
      go_wp2_with fail
      have hbig := l2Big_any false a2 zs.length x2 (isq (val xs)) w2 ((isq_le (canon_nonneg HX.out.canon).1).1) (by rw [HZS.out])
      refine hbig.mono ?_
      rintro e w3 ⟨rfl, hk3⟩
      have g0 := hk3.cell (p := ⟨w.heap.size + 1, 0, none⟩) g0 (by simp)
      have g1 := hk3.cell (p := ⟨w.heap.size + 1, 1, none⟩) g1 (by simp)
      have g2 := hk3.cell (p := ⟨w.heap.size + 1, 2, none⟩) g2 (by simp)
      have e0 := hk3.free' (p := ⟨w.heap.size + 1, 0, none⟩) (by assumption) e0 (by simp)
      have e1 := hk3.free' (p := ⟨w.heap.size + 1, 1, none⟩) (by assumption) e1 (by simp)
      have e2 := hk3.free' (p := ⟨w.heap.size + 1, 2, none⟩) (by assumption) e2 (by simp)
      have hneg : isNeg (sg false (isq (val xs))) = false := isNeg_no ((isq_le (canon_nonneg HX.out.canon).1).1)
      rw [hneg]
      have HS2 := Lib.hid (HS2.out.kept0 hk3)
      have HK2 := Lib.hid (HK2.out.trans0 hk3)
      clear hk3 hbig hneg
      obtain ⟨ea, eb, ec⟩ := cells3' (.int .i64 0) (.bool false) (.slice a2 zs.length x2) g0 g1 g2
      go_wp2_with fail
      exact bodyPost_ret (v := .agg #[.int .i64 0, .bool false, .slice a2 zs.length x2]) (by simp [results, Try.results54, go_sem, ea, eb, ec]) rfl (by rw [← HZS.out]; exact bigR_fin2 (r := ⟨0, false, zs⟩) HS2.out HF2.out HK2.out)
    · rw [if_pos rfl]
      go_enter Try.func54, Try.ntmps54
      go_wp2_with fail
      refine (l2Roots_any _ _ _ _ _ _ (HS.out.rd.kept0 K0.out)).mono ?_
      rintro e w1 ⟨rfl, hk⟩
      rw [if_pos hz'.out, if_pos rfl]
      have c00 := (hk.peel.top (g := w.heap.size) (by simp) (by simp) 0 (v := .bool true) rfl).1
      have c01 := (hk.peel.top (g := w.heap.size) (by simp) (by simp) 1 (v := .slice a n c) rfl).1
      obtain ⟨rc0, rf0, hsz⟩ := hk.top (g := w.heap.size + 1) (by simp) (by simp) 0 (v := .int .i64 0) rfl
      obtain ⟨rc1, rf1, hsz⟩ := hk.top (g := w.heap.size + 1) (by simp) (by simp) 1 (v := .bool false) rfl
      obtain ⟨rc2, rf2, hsz⟩ := hk.top (g := w.heap.size + 1) (by simp) (by simp) 2 (v := .slice none 0 0) rfl
      have HK := Lib.hid (K0.out.trans0 hk)
      clear hk
      obtain ⟨ea, eb, ec⟩ := cells3' (.int .i64 3) (.bool false) (.slice none 0 0) rc0 rc1 rc2
      go_wp2_with fail
      exact bodyPost_ret (v := .agg #[.int .i64 3, .bool false, .slice none 0 0]) (by simp [results, Try.results54, go_sem, ea, eb, ec]) rfl (bigR_fin2 (r := noBig 3) (a := none) (c := 0) (Sl.nil _) (fun h => by simp [noBig] at h) HK.out)
  · rw [if_neg hz]
    generalize hf : bigFault p xs = f at *
    have hne : (f == 0) = false := by rw [beq_eq_false_iff_ne]; exact hz
    have HF := Lib.hid hf
    have hfz := Lib.hid hz
    clear hf hz
    go_enter Try.func54, Try.ntmps54
    go_wp2_with fail
    refine (l2Roots_any _ _ _ _ _ _ (HS.out.rd.kept0 K0.out)).mono ?_
    rintro e w1 ⟨rfl, hk⟩
    rw [HF.out, if_neg hfz.out]
    have c00 := (hk.peel.top (g := w.heap.size) (by simp) (by simp) 0 (v := .bool p) rfl).1
    have c01 := (hk.peel.top (g := w.heap.size) (by simp) (by simp) 1 (v := .slice a n c) rfl).1
    obtain ⟨rc0, rf0, hsz⟩ := hk.top (g := w.heap.size + 1) (by simp) (by simp) 0 (v := .int .i64 0) rfl
    obtain ⟨rc1, rf1, hsz⟩ := hk.top (g := w.heap.size + 1) (by simp) (by simp) 1 (v := .bool false) rfl
    obtain ⟨rc2, rf2, hsz⟩ := hk.top (g := w.heap.size + 1) (by simp) (by simp) 2 (v := .slice none 0 0) rfl
    have HK := Lib.hid (K0.out.trans0 hk)
    clear hk
    obtain ⟨ea, eb, ec⟩ := cells3' (.int .i64 f) (.bool false) (.slice none 0 0) rc0 rc1 rc2
    go_wp2_with fail
    exact bodyPost_ret (v := .agg #[.int .i64 f, .bool false, .slice none 0 0]) (by simp [results, Try.results54, go_sem, ea, eb, ec]) rfl (bigR_fin2 (r := noBig f) (a := none) (c := 0) (Sl.nil _) (fun h => by simp [noBig] at h) HK.out)

end Go.Proofs.Ytgplghjameiciaa
