/-
  Contracts of divideBigs, FloorDiv, CeilDiv, the program's. Condition: the limbs lie in blocks of numbers.
-/
import Derived.Test.YtgplghjameiciaaBigE
import Derived.Test.YtgplghjameiciaaDiv
namespace Go.Proofs.Ytgplghjameiciaa
open Go.RowKit

theorem DivNats_zero (a b : Option Addr) (n c m c' : Nat) (xs ys : List Int) (w : World) (h : Rd w a n xs) (h' : Rd w b m ys) (hz : fault2 xs ys = 0) (hy : ys.length = 0) :
    Calls Try.prog 29 #[.slice a n c, .slice b m c'] w (DivR w 6 [] []) := by
  have := DivNats_any a b n c m c' xs ys w h h'
  unfold divCode divQuot divRest at this
  rwa [if_pos hz, if_pos hy, if_neg (fun hn => hn.2 hy), if_neg (fun hn => hn.2 hy)] at this
theorem DivNats_ok (a b : Option Addr) (n c m c' : Nat) (xs ys : List Int) (w : World) (h : Rd w a n xs) (h' : Rd w b m ys) (hz : fault2 xs ys = 0) (hy : ys.length ≠ 0) :
    Calls Try.prog 29 #[.slice a n c, .slice b m c'] w (DivR w 0 (digits (val xs / val ys)) (digits (val xs % val ys))) := by
  have := DivNats_any a b n c m c' xs ys w h h'
  unfold divCode divQuot divRest at this
  rwa [if_pos hz, if_neg hy, if_pos ⟨hz, hy⟩, if_pos ⟨hz, hy⟩] at this

/-- A big answer, stored into the result's block, which is the third one of the call. -/
theorem bigR_fin3 {w w1 : World} {r : BV} {a : Option Addr} {c : Nat} (hS : Sl w1 a r.limbs.length c r.limbs) (hF : Fr (w.heap.size + 1 + 1 + 1) a r.limbs.length) (hk : Kept [] w w1) :
    BigR w r (.returned (.agg #[.int .i64 r.code, .bool r.neg, .slice a r.limbs.length c])) (((w1.setCell ⟨w.heap.size + 1 + 1, 0, none⟩ (.int .i64 r.code)).setCell ⟨w.heap.size + 1 + 1, 1, none⟩ (.bool r.neg)).setCell ⟨w.heap.size + 1 + 1, 2, none⟩ (.slice a r.limbs.length c)) :=
  ⟨a, c, rfl, hS.kept ((((Kept.refl [w.heap.size + 1 + 1] w1).setCell _ _ (by simp)).setCell _ _ (by simp)).setCell _ _ (by simp)) (fun hn x hx => by have := hF hn x hx; simp; omega), hF.mono (by omega),
    ((hk.setCell _ _ (by simp; omega)).setCell _ _ (by simp; omega)).setCell _ _ (by simp; omega)⟩

/-- A row that holds the one limb 1. -/
theorem rd_row1 (w : World) {g : Nat} (hg : w.heap.size = g) : Rd (w.alloc (.cells #[.int .i64 1] 2)) (some ⟨g, 0, none⟩) 1 [1] := by
  subst hg
  have := Sl.ofBlk (Blk.new w [1]) (by simp)
  exact this.rd

set_option maxHeartbeats 3200000 in
theorem divideBigs_zero (p q up : Bool) (a b : Option Addr) (n c m d : Nat) (xs ys : List Int) (w : World) (h : Sl w a n c xs) (h' : Sl w b m d ys) (hx : BigOk p xs) (hy : BigOk q ys) (hy0 : ys.length = 0) :
    Calls Try.prog 88 #[.agg #[.bool p, .slice a n c], .agg #[.bool q, .slice b m d], .bool up] w (BigR w (noBig 6)) := by
  have hz : bigFault2 p xs q ys = 0 := by rw [bigFault2_second hx.fault]; exact hy.fault
  have hz' := Lib.hid hz
  have hz2 : fault2 xs ys = 0 := by rw [fault2_second hx.nat]; exact hy.nat
  have HX := Lib.hid hx.n40
  have HY := Lib.hid hy.n40
  have HZ := Lib.hid hz2
  have HY0 := Lib.hid hy0
  clear hy0
  have HS := Lib.hid h
  have HS' := Lib.hid h'
  clear h h' hx hy hz hz2
  have k0 : Kept [] w (((w.alloc (.cells #[.bool p, .slice a n c] 40)).alloc (.cells #[.bool q, .slice b m d] 40)).alloc (.cells #[.int .i64 0, .bool false, .slice none 0 0] 42)) := (((Kept.refl [] w).alloc _).alloc _).alloc _
  have K0 := Lib.hid k0
  clear k0
  go_enter Try.func88, Try.ntmps88
  go_wp2_with fail
  refine (firstBigFault_two _ _ _ _ _ _ _ _ _ _ _ _ (by simp) (HS.out.rd.kept0 K0.out) (HS'.out.rd.kept0 K0.out)).mono ?_
  rintro e w1 ⟨rfl, hk⟩
  rw [hz'.out]
  have c00 := (hk.peel.peel.top (g := w.heap.size) (by simp) (by simp) 0 (v := .bool p) rfl).1
  have c01 := (hk.peel.peel.top (g := w.heap.size) (by simp) (by simp) 1 (v := .slice a n c) rfl).1
  have c10 := (hk.peel.top (g := w.heap.size + 1) (by simp) (by simp) 0 (v := .bool q) rfl).1
  have c11 := (hk.peel.top (g := w.heap.size + 1) (by simp) (by simp) 1 (v := .slice b m d) rfl).1
  obtain ⟨rc0, rf0, hsz⟩ := hk.top (g := w.heap.size + 1 + 1) (by simp) (by simp) 0 (v := .int .i64 0) rfl
  obtain ⟨rc1, rf1, hsz⟩ := hk.top (g := w.heap.size + 1 + 1) (by simp) (by simp) 1 (v := .bool false) rfl
  obtain ⟨rc2, rf2, hsz⟩ := hk.top (g := w.heap.size + 1 + 1) (by simp) (by simp) 2 (v := .slice none 0 0) rfl
  have HK := Lib.hid (K0.out.trans0 hk)
  clear hk
  go_wp2_with fail
  refine (DivNats_zero _ _ _ _ _ _ _ _ _ (HS.out.rd.kept0 HK.out) (HS'.out.rd.kept0 HK.out) HZ.out HY0.out).mono ?_
  rintro e w2 ⟨a3, x3, a4, x4, rfl, hs3, hs4, hf3, hf4, hd, hk⟩
  have rf0 := hk.free' (p := ⟨w.heap.size + 1 + 1, 0, none⟩) rc0 rf0 (by simp)
  have rf1 := hk.free' (p := ⟨w.heap.size + 1 + 1, 1, none⟩) rc1 rf1 (by simp)
  have rf2 := hk.free' (p := ⟨w.heap.size + 1 + 1, 2, none⟩) rc2 rf2 (by simp)
  have c00 := hk.cell (p := ⟨w.heap.size, 0, none⟩) c00 (by simp)
  have c01 := hk.cell (p := ⟨w.heap.size, 1, none⟩) c01 (by simp)
  have c10 := hk.cell (p := ⟨w.heap.size + 1, 0, none⟩) c10 (by simp)
  have c11 := hk.cell (p := ⟨w.heap.size + 1, 1, none⟩) c11 (by simp)
  have rc0 := hk.cell (p := ⟨w.heap.size + 1 + 1, 0, none⟩) rc0 (by simp)
  have rc1 := hk.cell (p := ⟨w.heap.size + 1 + 1, 1, none⟩) rc1 (by simp)
  have rc2 := hk.cell (p := ⟨w.heap.size + 1 + 1, 2, none⟩) rc2 (by simp)
  have HK2 := Lib.hid (HK.out.trans0 hk)
  have hsz2 : w.heap.size + 1 + 1 < w2.heap.size := Nat.lt_of_lt_of_le hsz hk.size
  have e0 : ([] : List Int).length = 0 := rfl
  rw [e0]
  clear hk hs3 hs4 hf3 hf4 hd e0
  have k5 : Kept [] w2 ((w2.alloc (.cells #[.int .i64 6, .slice a3 0 x3, .slice a4 0 x4] 32)).alloc (.cells #[.int .i64 6, .slice a3 0 x3] 24)) := ((Kept.refl [] w2).alloc _).alloc _
  have rf0 := k5.free' (p := ⟨w.heap.size + 1 + 1, 0, none⟩) rc0 rf0 (by simp)
  have rf1 := k5.free' (p := ⟨w.heap.size + 1 + 1, 1, none⟩) rc1 rf1 (by simp)
  have rf2 := k5.free' (p := ⟨w.heap.size + 1 + 1, 2, none⟩) rc2 rf2 (by simp)
  have c00 := k5.cell (p := ⟨w.heap.size, 0, none⟩) c00 (by simp)
  have c01 := k5.cell (p := ⟨w.heap.size, 1, none⟩) c01 (by simp)
  have c10 := k5.cell (p := ⟨w.heap.size + 1, 0, none⟩) c10 (by simp)
  have c11 := k5.cell (p := ⟨w.heap.size + 1, 1, none⟩) c11 (by simp)
  have rc0 := k5.cell (p := ⟨w.heap.size + 1 + 1, 0, none⟩) rc0 (by simp)
  have rc1 := k5.cell (p := ⟨w.heap.size + 1 + 1, 1, none⟩) rc1 (by simp)
  have rc2 := k5.cell (p := ⟨w.heap.size + 1 + 1, 2, none⟩) rc2 (by simp)
  have K5 := Lib.hid (HK2.out.trans0 k5)
  clear k5
  go_wp2_with fail
  refine (bigResult_code _ _ _ _ _ _ (by omega)).mono ?_
  rintro e w6 ⟨a2, x2, rfl, hs2, hf2, hk⟩
  have rf0 := hk.free' (p := ⟨w.heap.size + 1 + 1, 0, none⟩) rc0 rf0 (by simp)
  have rf1 := hk.free' (p := ⟨w.heap.size + 1 + 1, 1, none⟩) rc1 rf1 (by simp)
  have rf2 := hk.free' (p := ⟨w.heap.size + 1 + 1, 2, none⟩) rc2 rf2 (by simp)
  have rc0 := hk.cell (p := ⟨w.heap.size + 1 + 1, 0, none⟩) rc0 (by simp)
  have rc1 := hk.cell (p := ⟨w.heap.size + 1 + 1, 1, none⟩) rc1 (by simp)
  have rc2 := hk.cell (p := ⟨w.heap.size + 1 + 1, 2, none⟩) rc2 (by simp)
  have HS2 := Lib.hid hs2
  have HF2 := Lib.hid hf2
  have HK6 := Lib.hid (K5.out.trans0 hk)
  clear hs2 hf2 hk
  obtain ⟨r, hr⟩ : ∃ r, r = noBig 6 := ⟨_, rfl⟩
  rw [← hr] at HS2 HF2 ⊢
  have HR := Lib.hid hr
  clear hr
  obtain ⟨ea, eb, ec⟩ := cells3' (.int .i64 r.code) (.bool r.neg) (.slice a2 r.limbs.length x2) rc0 rc1 rc2
  go_wp2_with fail
  exact bodyPost_ret (v := .agg #[.int .i64 r.code, .bool r.neg, .slice a2 r.limbs.length x2]) (by simp [results, Try.results88, go_sem, ea, eb, ec]) rfl (by rw [← HR.out]; exact bigR_fin (w0 := w2) (g := w.heap.size + 1 + 1) (by omega) HS2.out (HF2.out.mono (by simp; omega)) hsz2 HK6.out)

set_option maxHeartbeats 3200000 in
theorem divideBigs_flat0 (p q up : Bool) (a b : Option Addr) (n c m d : Nat) (xs ys : List Int) (w : World) (h : Sl w a n c xs) (h' : Sl w b m d ys) (hx : BigOk p xs) (hy : BigOk q ys) (hy0 : ys.length ≠ 0) (hflat : ¬ (val xs % val ys ≠ 0 ∧ (p != q) ≠ up)) (hR0 : val xs % val ys = 0) :
    Calls Try.prog 88 #[.agg #[.bool p, .slice a n c], .agg #[.bool q, .slice b m d], .bool up] w (BigR w (fitB (divZ up p q (val xs) (val ys)))) := by
  have hz : bigFault2 p xs q ys = 0 := by rw [bigFault2_second hx.fault]; exact hy.fault
  have hz' := Lib.hid hz
  have hz2 : fault2 xs ys = 0 := by rw [fault2_second hx.nat]; exact hy.nat
  have HX := Lib.hid hx.n40
  have HY := Lib.hid hy.n40
  have HZ := Lib.hid hz2
  have HY0 := Lib.hid hy0
  have hvx := (canon_nonneg hx.n40.canon).1
  have hvy : 0 < val ys := (canon_nonneg hy.n40.canon).2 (fun e => hy0 (by rw [e]; rfl))
  have hq0 : 0 ≤ val xs / val ys := Int.ediv_nonneg hvx (Int.le_of_lt hvy)
  have hqx : val xs / val ys ≤ val xs := Int.ediv_le_self _ hvx
  have hr0 : 0 ≤ val xs % val ys := Int.emod_nonneg _ (by omega)
  have hxl := hx.n40.len
  have hxv := (show AllLimbs xs from hx.n40.limb).val
  have hfit := fit_small (v := val xs / val ys) (n := xs.length) (by omega) hxl
  have HFIT := Lib.hid hfit
  obtain ⟨X, hX⟩ : ∃ X, X = val xs / val ys := ⟨_, rfl⟩
  obtain ⟨R, hR⟩ : ∃ R, R = val xs % val ys := ⟨_, rfl⟩
  rw [← hX] at hq0 HFIT
  have HV := Lib.hid hq0
  have HQX := Lib.hid hX
  have HRX := Lib.hid hR
  obtain ⟨s, hs⟩ : ∃ s, s = !(p == q) := ⟨_, rfl⟩
  have hpq : (p == q) = !s := by rw [hs]; simp
  have hsz0 : (!!s) = s := by simp
  obtain ⟨L, hL⟩ : ∃ L, L = (digits R).length := ⟨_, rfl⟩
  have HL := Lib.hid hL
  have hdz : divZ up p q (val xs) (val ys) = sg s X := by unfold divZ; rw [if_neg hflat, hs, hX]; rfl
  rw [hdz]
  have hL0 : L = 0 := by rw [hL, hR, hR0, digits_zero (by omega)]; rfl
  clear hy0 hvx hvy hq0 hqx hr0 hxl hxv hfit hX hR hs hL hR0 hflat hdz
  have HS := Lib.hid h
  have HS' := Lib.hid h'
  clear h h' hx hy hz hz2
  have k0 : Kept [] w (((w.alloc (.cells #[.bool p, .slice a n c] 40)).alloc (.cells #[.bool q, .slice b m d] 40)).alloc (.cells #[.int .i64 0, .bool false, .slice none 0 0] 42)) := (((Kept.refl [] w).alloc _).alloc _).alloc _
  have K0 := Lib.hid k0
  clear k0
  go_enter Try.func88, Try.ntmps88
  go_wp2_with fail
  refine (firstBigFault_two _ _ _ _ _ _ _ _ _ _ _ _ (by simp) (HS.out.rd.kept0 K0.out) (HS'.out.rd.kept0 K0.out)).mono ?_
  rintro e w1 ⟨rfl, hk⟩
  rw [hz'.out]
  have c00 := (hk.peel.peel.top (g := w.heap.size) (by simp) (by simp) 0 (v := .bool p) rfl).1
  have c01 := (hk.peel.peel.top (g := w.heap.size) (by simp) (by simp) 1 (v := .slice a n c) rfl).1
  have c10 := (hk.peel.top (g := w.heap.size + 1) (by simp) (by simp) 0 (v := .bool q) rfl).1
  have c11 := (hk.peel.top (g := w.heap.size + 1) (by simp) (by simp) 1 (v := .slice b m d) rfl).1
  obtain ⟨rc0, rf0, hsz⟩ := hk.top (g := w.heap.size + 1 + 1) (by simp) (by simp) 0 (v := .int .i64 0) rfl
  obtain ⟨rc1, rf1, hsz⟩ := hk.top (g := w.heap.size + 1 + 1) (by simp) (by simp) 1 (v := .bool false) rfl
  obtain ⟨rc2, rf2, hsz⟩ := hk.top (g := w.heap.size + 1 + 1) (by simp) (by simp) 2 (v := .slice none 0 0) rfl
  have HK := Lib.hid (K0.out.trans0 hk)
  clear hk
  go_wp2_with fail
  refine (DivNats_ok _ _ _ _ _ _ _ _ _ (HS.out.rd.kept0 HK.out) (HS'.out.rd.kept0 HK.out) HZ.out HY0.out).mono ?_
  rintro e w2 ⟨a3, x3, a4, x4, rfl, hs3, hs4, hf3, hf4, hd, hk⟩
  rw [← HQX.out, ← HRX.out, ← HL.out]
  rw [← HQX.out] at hs3 hf3
  have rf0 := hk.free' (p := ⟨w.heap.size + 1 + 1, 0, none⟩) rc0 rf0 (by simp)
  have rf1 := hk.free' (p := ⟨w.heap.size + 1 + 1, 1, none⟩) rc1 rf1 (by simp)
  have rf2 := hk.free' (p := ⟨w.heap.size + 1 + 1, 2, none⟩) rc2 rf2 (by simp)
  have c00 := hk.cell (p := ⟨w.heap.size, 0, none⟩) c00 (by simp)
  have c01 := hk.cell (p := ⟨w.heap.size, 1, none⟩) c01 (by simp)
  have c10 := hk.cell (p := ⟨w.heap.size + 1, 0, none⟩) c10 (by simp)
  have c11 := hk.cell (p := ⟨w.heap.size + 1, 1, none⟩) c11 (by simp)
  have rc0 := hk.cell (p := ⟨w.heap.size + 1 + 1, 0, none⟩) rc0 (by simp)
  have rc1 := hk.cell (p := ⟨w.heap.size + 1 + 1, 1, none⟩) rc1 (by simp)
  have rc2 := hk.cell (p := ⟨w.heap.size + 1 + 1, 2, none⟩) rc2 (by simp)
  have HK2 := Lib.hid (HK.out.trans0 hk)
  have H12 := Lib.hid hk
  have hsz2 : w.heap.size + 1 + 1 < w2.heap.size := Nat.lt_of_lt_of_le hsz hk.size
  have HS3 := Lib.hid hs3
  have HF3 := Lib.hid hf3
  have hs3s := hs3.lt
  have HLT := Lib.hid hs3s
  clear hk hs3 hs4 hf3 hf4 hd hs3s
  have k5 : Kept [] w2 ((w2.alloc (.cells #[.int .i64 0, .slice a3 (digits X).length x3, .slice a4 L x4] 32)).alloc (.cells #[.int .i64 0, .slice a3 (digits X).length x3] 24)) := ((Kept.refl [] w2).alloc _).alloc _
  have rf0 := k5.free' (p := ⟨w.heap.size + 1 + 1, 0, none⟩) rc0 rf0 (by simp)
  have rf1 := k5.free' (p := ⟨w.heap.size + 1 + 1, 1, none⟩) rc1 rf1 (by simp)
  have rf2 := k5.free' (p := ⟨w.heap.size + 1 + 1, 2, none⟩) rc2 rf2 (by simp)
  have c00 := k5.cell (p := ⟨w.heap.size, 0, none⟩) c00 (by simp)
  have c01 := k5.cell (p := ⟨w.heap.size, 1, none⟩) c01 (by simp)
  have c10 := k5.cell (p := ⟨w.heap.size + 1, 0, none⟩) c10 (by simp)
  have c11 := k5.cell (p := ⟨w.heap.size + 1, 1, none⟩) c11 (by simp)
  have rc0 := k5.cell (p := ⟨w.heap.size + 1 + 1, 0, none⟩) rc0 (by simp)
  have rc1 := k5.cell (p := ⟨w.heap.size + 1 + 1, 1, none⟩) rc1 (by simp)
  have rc2 := k5.cell (p := ⟨w.heap.size + 1 + 1, 2, none⟩) rc2 (by simp)
  have K5 := Lib.hid (HK2.out.trans0 k5)
  have KK5 := Lib.hid k5
  clear k5
  subst hL0
  go_wp2_with fail
  have e9 := bigResult_fit s a3 x3 X w1 _ HV.out (by rw [HFIT.out.2]; exact HS3.out.kept0 KK5.out) (by rw [HFIT.out.2]; exact HF3.out) (H12.out.trans0 KK5.out)
  rw [HFIT.out.1, HFIT.out.2] at e9
  refine e9.mono ?_
  rintro e w6 ⟨⟨a2, x2, rfl, hs2, hf2, _⟩, hk⟩
  have rf0 := hk.free' (p := ⟨w.heap.size + 1 + 1, 0, none⟩) rc0 rf0 (by simp)
  have rf1 := hk.free' (p := ⟨w.heap.size + 1 + 1, 1, none⟩) rc1 rf1 (by simp)
  have rf2 := hk.free' (p := ⟨w.heap.size + 1 + 1, 2, none⟩) rc2 rf2 (by simp)
  have rc0 := hk.cell (p := ⟨w.heap.size + 1 + 1, 0, none⟩) rc0 (by simp)
  have rc1 := hk.cell (p := ⟨w.heap.size + 1 + 1, 1, none⟩) rc1 (by simp)
  have rc2 := hk.cell (p := ⟨w.heap.size + 1 + 1, 2, none⟩) rc2 (by simp)
  have HS2 := Lib.hid hs2
  have HF2 := Lib.hid hf2
  have HK6 := Lib.hid (K5.out.trans0 hk)
  clear hs2 hf2 hk e9
  obtain ⟨r, hr⟩ : ∃ r, r = fitB (sg s X) := ⟨_, rfl⟩
  rw [← hr] at HS2 HF2 ⊢
  have HR := Lib.hid hr
  clear hr
  obtain ⟨ea, eb, ec⟩ := cells3' (.int .i64 r.code) (.bool r.neg) (.slice a2 r.limbs.length x2) rc0 rc1 rc2
  go_wp2_with fail
  exact bodyPost_ret (v := .agg #[.int .i64 r.code, .bool r.neg, .slice a2 r.limbs.length x2]) (by simp [results, Try.results88, go_sem, ea, eb, ec]) rfl (by rw [← HR.out]; exact bigR_fin (w0 := w1) (g := w.heap.size + 1 + 1) (by omega) HS2.out HF2.out hsz HK6.out)

set_option maxHeartbeats 3200000 in
theorem divideBigs_flat (p q up : Bool) (a b : Option Addr) (n c m d : Nat) (xs ys : List Int) (w : World) (h : Sl w a n c xs) (h' : Sl w b m d ys) (hx : BigOk p xs) (hy : BigOk q ys) (hy0 : ys.length ≠ 0) (hflat : ¬ (val xs % val ys ≠ 0 ∧ (p != q) ≠ up)) (hR0 : val xs % val ys ≠ 0) :
    Calls Try.prog 88 #[.agg #[.bool p, .slice a n c], .agg #[.bool q, .slice b m d], .bool up] w (BigR w (fitB (divZ up p q (val xs) (val ys)))) := by
  have hz : bigFault2 p xs q ys = 0 := by rw [bigFault2_second hx.fault]; exact hy.fault
  have hz' := Lib.hid hz
  have hz2 : fault2 xs ys = 0 := by rw [fault2_second hx.nat]; exact hy.nat
  have HX := Lib.hid hx.n40
  have HY := Lib.hid hy.n40
  have HZ := Lib.hid hz2
  have HY0 := Lib.hid hy0
  have hvx := (canon_nonneg hx.n40.canon).1
  have hvy : 0 < val ys := (canon_nonneg hy.n40.canon).2 (fun e => hy0 (by rw [e]; rfl))
  have hq0 : 0 ≤ val xs / val ys := Int.ediv_nonneg hvx (Int.le_of_lt hvy)
  have hqx : val xs / val ys ≤ val xs := Int.ediv_le_self _ hvx
  have hr0 : 0 ≤ val xs % val ys := Int.emod_nonneg _ (by omega)
  have hxl := hx.n40.len
  have hxv := (show AllLimbs xs from hx.n40.limb).val
  have hfit := fit_small (v := val xs / val ys) (n := xs.length) (by omega) hxl
  have HFIT := Lib.hid hfit
  obtain ⟨X, hX⟩ : ∃ X, X = val xs / val ys := ⟨_, rfl⟩
  obtain ⟨R, hR⟩ : ∃ R, R = val xs % val ys := ⟨_, rfl⟩
  rw [← hX] at hq0 HFIT
  have HV := Lib.hid hq0
  have HQX := Lib.hid hX
  have HRX := Lib.hid hR
  obtain ⟨s, hs⟩ : ∃ s, s = !(p == q) := ⟨_, rfl⟩
  have hpq : (p == q) = !s := by rw [hs]; simp
  have hsz0 : (!!s) = s := by simp
  obtain ⟨L, hL⟩ : ∃ L, L = (digits R).length := ⟨_, rfl⟩
  have HL := Lib.hid hL
  have hdz : divZ up p q (val xs) (val ys) = sg s X := by unfold divZ; rw [if_neg hflat, hs, hX]; rfl
  rw [hdz]
  have hne : (s == up) = true := by
    rw [beq_iff_eq]; rw [hs]; exact Classical.byContradiction (fun hn => hflat ⟨hR0, hn⟩)
  have hLp : 0 < L := by rw [hL]; exact digits_len_pos (by omega)
  clear hy0 hvx hvy hq0 hqx hr0 hxl hxv hfit hX hR hs hL hR0 hflat hdz
  have HS := Lib.hid h
  have HS' := Lib.hid h'
  clear h h' hx hy hz hz2
  have k0 : Kept [] w (((w.alloc (.cells #[.bool p, .slice a n c] 40)).alloc (.cells #[.bool q, .slice b m d] 40)).alloc (.cells #[.int .i64 0, .bool false, .slice none 0 0] 42)) := (((Kept.refl [] w).alloc _).alloc _).alloc _
  have K0 := Lib.hid k0
  clear k0
  go_enter Try.func88, Try.ntmps88
  go_wp2_with fail
  refine (firstBigFault_two _ _ _ _ _ _ _ _ _ _ _ _ (by simp) (HS.out.rd.kept0 K0.out) (HS'.out.rd.kept0 K0.out)).mono ?_
  rintro e w1 ⟨rfl, hk⟩
  rw [hz'.out]
  have c00 := (hk.peel.peel.top (g := w.heap.size) (by simp) (by simp) 0 (v := .bool p) rfl).1
  have c01 := (hk.peel.peel.top (g := w.heap.size) (by simp) (by simp) 1 (v := .slice a n c) rfl).1
  have c10 := (hk.peel.top (g := w.heap.size + 1) (by simp) (by simp) 0 (v := .bool q) rfl).1
  have c11 := (hk.peel.top (g := w.heap.size + 1) (by simp) (by simp) 1 (v := .slice b m d) rfl).1
  obtain ⟨rc0, rf0, hsz⟩ := hk.top (g := w.heap.size + 1 + 1) (by simp) (by simp) 0 (v := .int .i64 0) rfl
  obtain ⟨rc1, rf1, hsz⟩ := hk.top (g := w.heap.size + 1 + 1) (by simp) (by simp) 1 (v := .bool false) rfl
  obtain ⟨rc2, rf2, hsz⟩ := hk.top (g := w.heap.size + 1 + 1) (by simp) (by simp) 2 (v := .slice none 0 0) rfl
  have HK := Lib.hid (K0.out.trans0 hk)
  clear hk
  go_wp2_with fail
  refine (DivNats_ok _ _ _ _ _ _ _ _ _ (HS.out.rd.kept0 HK.out) (HS'.out.rd.kept0 HK.out) HZ.out HY0.out).mono ?_
  rintro e w2 ⟨a3, x3, a4, x4, rfl, hs3, hs4, hf3, hf4, hd, hk⟩
  rw [← HQX.out, ← HRX.out, ← HL.out]
  rw [← HQX.out] at hs3 hf3
  have rf0 := hk.free' (p := ⟨w.heap.size + 1 + 1, 0, none⟩) rc0 rf0 (by simp)
  have rf1 := hk.free' (p := ⟨w.heap.size + 1 + 1, 1, none⟩) rc1 rf1 (by simp)
  have rf2 := hk.free' (p := ⟨w.heap.size + 1 + 1, 2, none⟩) rc2 rf2 (by simp)
  have c00 := hk.cell (p := ⟨w.heap.size, 0, none⟩) c00 (by simp)
  have c01 := hk.cell (p := ⟨w.heap.size, 1, none⟩) c01 (by simp)
  have c10 := hk.cell (p := ⟨w.heap.size + 1, 0, none⟩) c10 (by simp)
  have c11 := hk.cell (p := ⟨w.heap.size + 1, 1, none⟩) c11 (by simp)
  have rc0 := hk.cell (p := ⟨w.heap.size + 1 + 1, 0, none⟩) rc0 (by simp)
  have rc1 := hk.cell (p := ⟨w.heap.size + 1 + 1, 1, none⟩) rc1 (by simp)
  have rc2 := hk.cell (p := ⟨w.heap.size + 1 + 1, 2, none⟩) rc2 (by simp)
  have HK2 := Lib.hid (HK.out.trans0 hk)
  have H12 := Lib.hid hk
  have hsz2 : w.heap.size + 1 + 1 < w2.heap.size := Nat.lt_of_lt_of_le hsz hk.size
  have HS3 := Lib.hid hs3
  have HF3 := Lib.hid hf3
  have hs3s := hs3.lt
  have HLT := Lib.hid hs3s
  clear hk hs3 hs4 hf3 hf4 hd hs3s
  have k5 : Kept [] w2 ((w2.alloc (.cells #[.int .i64 0, .slice a3 (digits X).length x3, .slice a4 L x4] 32)).alloc (.cells #[.int .i64 0, .slice a3 (digits X).length x3] 24)) := ((Kept.refl [] w2).alloc _).alloc _
  have rf0 := k5.free' (p := ⟨w.heap.size + 1 + 1, 0, none⟩) rc0 rf0 (by simp)
  have rf1 := k5.free' (p := ⟨w.heap.size + 1 + 1, 1, none⟩) rc1 rf1 (by simp)
  have rf2 := k5.free' (p := ⟨w.heap.size + 1 + 1, 2, none⟩) rc2 rf2 (by simp)
  have c00 := k5.cell (p := ⟨w.heap.size, 0, none⟩) c00 (by simp)
  have c01 := k5.cell (p := ⟨w.heap.size, 1, none⟩) c01 (by simp)
  have c10 := k5.cell (p := ⟨w.heap.size + 1, 0, none⟩) c10 (by simp)
  have c11 := k5.cell (p := ⟨w.heap.size + 1, 1, none⟩) c11 (by simp)
  have rc0 := k5.cell (p := ⟨w.heap.size + 1 + 1, 0, none⟩) rc0 (by simp)
  have rc1 := k5.cell (p := ⟨w.heap.size + 1 + 1, 1, none⟩) rc1 (by simp)
  have rc2 := k5.cell (p := ⟨w.heap.size + 1 + 1, 2, none⟩) rc2 (by simp)
  have K5 := Lib.hid (HK2.out.trans0 k5)
  have KK5 := Lib.hid k5
  clear k5
  go_wp2_with fail
  have e9 := bigResult_fit s a3 x3 X w1 _ HV.out (by rw [HFIT.out.2]; exact HS3.out.kept0 KK5.out) (by rw [HFIT.out.2]; exact HF3.out) (H12.out.trans0 KK5.out)
  rw [HFIT.out.1, HFIT.out.2] at e9
  refine e9.mono ?_
  rintro e w6 ⟨⟨a2, x2, rfl, hs2, hf2, _⟩, hk⟩
  have rf0 := hk.free' (p := ⟨w.heap.size + 1 + 1, 0, none⟩) rc0 rf0 (by simp)
  have rf1 := hk.free' (p := ⟨w.heap.size + 1 + 1, 1, none⟩) rc1 rf1 (by simp)
  have rf2 := hk.free' (p := ⟨w.heap.size + 1 + 1, 2, none⟩) rc2 rf2 (by simp)
  have rc0 := hk.cell (p := ⟨w.heap.size + 1 + 1, 0, none⟩) rc0 (by simp)
  have rc1 := hk.cell (p := ⟨w.heap.size + 1 + 1, 1, none⟩) rc1 (by simp)
  have rc2 := hk.cell (p := ⟨w.heap.size + 1 + 1, 2, none⟩) rc2 (by simp)
  have HS2 := Lib.hid hs2
  have HF2 := Lib.hid hf2
  have HK6 := Lib.hid (K5.out.trans0 hk)
  clear hs2 hf2 hk e9
  obtain ⟨r, hr⟩ : ∃ r, r = fitB (sg s X) := ⟨_, rfl⟩
  rw [← hr] at HS2 HF2 ⊢
  have HR := Lib.hid hr
  clear hr
  obtain ⟨ea, eb, ec⟩ := cells3' (.int .i64 r.code) (.bool r.neg) (.slice a2 r.limbs.length x2) rc0 rc1 rc2
  go_wp2_with fail
  exact bodyPost_ret (v := .agg #[.int .i64 r.code, .bool r.neg, .slice a2 r.limbs.length x2]) (by simp [results, Try.results88, go_sem, ea, eb, ec]) rfl (by rw [← HR.out]; exact bigR_fin (w0 := w1) (g := w.heap.size + 1 + 1) (by omega) HS2.out HF2.out hsz HK6.out)

set_option maxHeartbeats 3200000 in
theorem divideBigs_inc (p q up : Bool) (a b : Option Addr) (n c m d : Nat) (xs ys : List Int) (w : World) (h : Sl w a n c xs) (h' : Sl w b m d ys) (hx : BigOk p xs) (hy : BigOk q ys) (hy0 : ys.length ≠ 0) (hR0 : val xs % val ys ≠ 0) (hsu : (p != q) ≠ up) :
    Calls Try.prog 88 #[.agg #[.bool p, .slice a n c], .agg #[.bool q, .slice b m d], .bool up] w (BigR w (fitB (divZ up p q (val xs) (val ys)))) := by
  have hz : bigFault2 p xs q ys = 0 := by rw [bigFault2_second hx.fault]; exact hy.fault
  have hz' := Lib.hid hz
  have hz2 : fault2 xs ys = 0 := by rw [fault2_second hx.nat]; exact hy.nat
  have HX := Lib.hid hx.n40
  have HY := Lib.hid hy.n40
  have HZ := Lib.hid hz2
  have HY0 := Lib.hid hy0
  have hvx := (canon_nonneg hx.n40.canon).1
  have hvy : 0 < val ys := (canon_nonneg hy.n40.canon).2 (fun e => hy0 (by rw [e]; rfl))
  have hq0 : 0 ≤ val xs / val ys := Int.ediv_nonneg hvx (Int.le_of_lt hvy)
  have hqx : val xs / val ys ≤ val xs := Int.ediv_le_self _ hvx
  have hr0 : 0 ≤ val xs % val ys := Int.emod_nonneg _ (by omega)
  have hxl := hx.n40.len
  have hxv := (show AllLimbs xs from hx.n40.limb).val
  have hfit := fit_small (v := val xs / val ys) (n := xs.length) (by omega) hxl
  have HFIT := Lib.hid hfit
  obtain ⟨X, hX⟩ : ∃ X, X = val xs / val ys := ⟨_, rfl⟩
  obtain ⟨R, hR⟩ : ∃ R, R = val xs % val ys := ⟨_, rfl⟩
  rw [← hX] at hq0 HFIT
  have HV := Lib.hid hq0
  have HQX := Lib.hid hX
  have HRX := Lib.hid hR
  obtain ⟨s, hs⟩ : ∃ s, s = !(p == q) := ⟨_, rfl⟩
  have hpq : (p == q) = !s := by rw [hs]; simp
  have hsz0 : (!!s) = s := by simp
  obtain ⟨L, hL⟩ : ∃ L, L = (digits R).length := ⟨_, rfl⟩
  have HL := Lib.hid hL
  have hne : (s == up) = false := by
    rw [beq_eq_false_iff_ne]; intro e; exact hsu (by rw [← e, hs]; rfl)
  have hLp : 0 < L := by rw [hL]; exact digits_len_pos (by omega)
  have hv1 : 0 ≤ X + 1 := by omega
  have HV1 := Lib.hid hv1
  have hdz : divZ up p q (val xs) (val ys) = sg s (X + 1) := by unfold divZ; rw [if_pos ⟨hR0, hsu⟩, hs, hX]; rfl
  rw [hdz]
  have hqn : Nat40 (digits X) := nat40_of_canon (canon_digits' X) (by have := digits_len xs.length X (by omega); omega)
  have h1n : Nat40 [1] := ⟨by simp, fun i hi => by have : i = 0 := (by simpa using hi); subst this; simp, fun _ => by simp⟩
  have hz3 : fault2 (digits X) [1] = 0 := by rw [fault2_second (nat40_fault hqn)]; exact nat40_fault h1n
  have HZ3 := Lib.hid hz3
  have hval : val (digits X) + val [1] = X + 1 := by rw [val_digits' hq0]; rfl
  have HVAL := Lib.hid hval
  clear hy0 hvx hvy hq0 hqx hr0 hxl hxv hfit hX hR hs hL hR0 hsu hv1 hdz hqn h1n hz3 hval
  have HS := Lib.hid h
  have HS' := Lib.hid h'
  clear h h' hx hy hz hz2
  have k0 : Kept [] w (((w.alloc (.cells #[.bool p, .slice a n c] 40)).alloc (.cells #[.bool q, .slice b m d] 40)).alloc (.cells #[.int .i64 0, .bool false, .slice none 0 0] 42)) := (((Kept.refl [] w).alloc _).alloc _).alloc _
  have K0 := Lib.hid k0
  clear k0
  go_enter Try.func88, Try.ntmps88
  go_wp2_with fail
  refine (firstBigFault_two _ _ _ _ _ _ _ _ _ _ _ _ (by simp) (HS.out.rd.kept0 K0.out) (HS'.out.rd.kept0 K0.out)).mono ?_
  rintro e w1 ⟨rfl, hk⟩
  rw [hz'.out]
  have c00 := (hk.peel.peel.top (g := w.heap.size) (by simp) (by simp) 0 (v := .bool p) rfl).1
  have c01 := (hk.peel.peel.top (g := w.heap.size) (by simp) (by simp) 1 (v := .slice a n c) rfl).1
  have c10 := (hk.peel.top (g := w.heap.size + 1) (by simp) (by simp) 0 (v := .bool q) rfl).1
  have c11 := (hk.peel.top (g := w.heap.size + 1) (by simp) (by simp) 1 (v := .slice b m d) rfl).1
  obtain ⟨rc0, rf0, hsz⟩ := hk.top (g := w.heap.size + 1 + 1) (by simp) (by simp) 0 (v := .int .i64 0) rfl
  obtain ⟨rc1, rf1, hsz⟩ := hk.top (g := w.heap.size + 1 + 1) (by simp) (by simp) 1 (v := .bool false) rfl
  obtain ⟨rc2, rf2, hsz⟩ := hk.top (g := w.heap.size + 1 + 1) (by simp) (by simp) 2 (v := .slice none 0 0) rfl
  have HK := Lib.hid (K0.out.trans0 hk)
  clear hk
  go_wp2_with fail
  refine (DivNats_ok _ _ _ _ _ _ _ _ _ (HS.out.rd.kept0 HK.out) (HS'.out.rd.kept0 HK.out) HZ.out HY0.out).mono ?_
  rintro e w2 ⟨a3, x3, a4, x4, rfl, hs3, hs4, hf3, hf4, hd, hk⟩
  rw [← HQX.out, ← HRX.out, ← HL.out]
  rw [← HQX.out] at hs3 hf3
  have rf0 := hk.free' (p := ⟨w.heap.size + 1 + 1, 0, none⟩) rc0 rf0 (by simp)
  have rf1 := hk.free' (p := ⟨w.heap.size + 1 + 1, 1, none⟩) rc1 rf1 (by simp)
  have rf2 := hk.free' (p := ⟨w.heap.size + 1 + 1, 2, none⟩) rc2 rf2 (by simp)
  have c00 := hk.cell (p := ⟨w.heap.size, 0, none⟩) c00 (by simp)
  have c01 := hk.cell (p := ⟨w.heap.size, 1, none⟩) c01 (by simp)
  have c10 := hk.cell (p := ⟨w.heap.size + 1, 0, none⟩) c10 (by simp)
  have c11 := hk.cell (p := ⟨w.heap.size + 1, 1, none⟩) c11 (by simp)
  have rc0 := hk.cell (p := ⟨w.heap.size + 1 + 1, 0, none⟩) rc0 (by simp)
  have rc1 := hk.cell (p := ⟨w.heap.size + 1 + 1, 1, none⟩) rc1 (by simp)
  have rc2 := hk.cell (p := ⟨w.heap.size + 1 + 1, 2, none⟩) rc2 (by simp)
  have HK2 := Lib.hid (HK.out.trans0 hk)
  have H12 := Lib.hid hk
  have hsz2 : w.heap.size + 1 + 1 < w2.heap.size := Nat.lt_of_lt_of_le hsz hk.size
  have HS3 := Lib.hid hs3
  have HF3 := Lib.hid hf3
  have hs3s := hs3.lt
  have HLT := Lib.hid hs3s
  clear hk hs3 hs4 hf3 hf4 hd hs3s
  have k5 : Kept [] w2 ((w2.alloc (.cells #[.int .i64 0, .slice a3 (digits X).length x3, .slice a4 L x4] 32)).alloc (.cells #[.int .i64 0, .slice a3 (digits X).length x3] 24)) := ((Kept.refl [] w2).alloc _).alloc _
  have rf0 := k5.free' (p := ⟨w.heap.size + 1 + 1, 0, none⟩) rc0 rf0 (by simp)
  have rf1 := k5.free' (p := ⟨w.heap.size + 1 + 1, 1, none⟩) rc1 rf1 (by simp)
  have rf2 := k5.free' (p := ⟨w.heap.size + 1 + 1, 2, none⟩) rc2 rf2 (by simp)
  have c00 := k5.cell (p := ⟨w.heap.size, 0, none⟩) c00 (by simp)
  have c01 := k5.cell (p := ⟨w.heap.size, 1, none⟩) c01 (by simp)
  have c10 := k5.cell (p := ⟨w.heap.size + 1, 0, none⟩) c10 (by simp)
  have c11 := k5.cell (p := ⟨w.heap.size + 1, 1, none⟩) c11 (by simp)
  have rc0 := k5.cell (p := ⟨w.heap.size + 1 + 1, 0, none⟩) rc0 (by simp)
  have rc1 := k5.cell (p := ⟨w.heap.size + 1 + 1, 1, none⟩) rc1 (by simp)
  have rc2 := k5.cell (p := ⟨w.heap.size + 1 + 1, 2, none⟩) rc2 (by simp)
  have K5 := Lib.hid (HK2.out.trans0 k5)
  have KK5 := Lib.hid k5
  clear k5
  go_wp2_with fail
  have k7 : Kept [] ((w2.alloc (.cells #[.int .i64 0, .slice a3 (digits X).length x3, .slice a4 L x4] 32)).alloc (.cells #[.int .i64 0, .slice a3 (digits X).length x3] 24)) (((w2.alloc (.cells #[.int .i64 0, .slice a3 (digits X).length x3, .slice a4 L x4] 32)).alloc (.cells #[.int .i64 0, .slice a3 (digits X).length x3] 24)).alloc (.cells #[.int .i64 1] 2)) := (Kept.refl [] _).alloc _
  have K7 := Lib.hid k7
  clear k7
  refine (AddNats_fit _ _ _ _ _ _ _ _ _ ((HS3.out.kept0 KK5.out).kept0 K7.out).rd (rd_row1 _ (by simp)) HZ3.out).mono ?_
  rintro e w6 ⟨a6, x6, rfl, hs6, hf6, hk⟩
  rw [HVAL.out] at hs6 hf6 ⊢
  obtain ⟨n0, nf0, nsz⟩ := hk.peel.top (g := w2.heap.size + 1) (by simp) (by simp) 0 (v := .int .i64 0) rfl
  obtain ⟨n1, nf1, _⟩ := hk.peel.top (g := w2.heap.size + 1) (by simp) (by simp) 1 (v := .slice a3 (digits X).length x3) rfl
  have rf0 := hk.peel.free' (p := ⟨w.heap.size + 1 + 1, 0, none⟩) rc0 rf0 (by simp)
  have rf1 := hk.peel.free' (p := ⟨w.heap.size + 1 + 1, 1, none⟩) rc1 rf1 (by simp)
  have rf2 := hk.peel.free' (p := ⟨w.heap.size + 1 + 1, 2, none⟩) rc2 rf2 (by simp)
  have rc0 := hk.peel.cell (p := ⟨w.heap.size + 1 + 1, 0, none⟩) rc0 (by simp)
  have rc1 := hk.peel.cell (p := ⟨w.heap.size + 1 + 1, 1, none⟩) rc1 (by simp)
  have rc2 := hk.peel.cell (p := ⟨w.heap.size + 1 + 1, 2, none⟩) rc2 (by simp)
  have HK6 := Lib.hid (K5.out.trans0 hk.peel)
  have HK26 := Lib.hid (KK5.out.trans0 hk.peel)
  have hks := hk.size
  simp only [World.size_alloc] at hks
  have HS6 := Lib.hid hs6
  have HF6 := Lib.hid (hf6.mono (B' := w2.heap.size + 1 + 1 + 1) (by simp))
  clear hk hs6 hf6
  obtain ⟨c, hc⟩ : ∃ c, c = fitCode (X + 1) := ⟨_, rfl⟩
  obtain ⟨l, hl⟩ : ∃ l, l = fitList (X + 1) := ⟨_, rfl⟩
  rw [← hl] at HS6 HF6 ⊢
  rw [← hc]
  have HC := Lib.hid hc
  have HLI := Lib.hid hl
  clear hc hl
  obtain ⟨_, m1, m2⟩ := cells2 (.int .i64 c) (.slice a6 l.length x6) n0 n1
  have q0 := rc0
  have kk : Kept [w2.heap.size + 1] w6 ((w6.setCell ⟨w2.heap.size + 1, 0, none⟩ (.int .i64 c)).setCell ⟨w2.heap.size + 1, 1, none⟩ (.slice a6 l.length x6)) := ((Kept.refl _ w6).setCell _ _ (by simp)).setCell _ _ (by simp)
  have HKK := Lib.hid kk
  have hdis : w.heap.size + 1 + 1 ≠ w2.heap.size + 1 := by omega
  have rf0 := kk.free' (p := ⟨w.heap.size + 1 + 1, 0, none⟩) rc0 rf0 (by simp; omega)
  have rf1 := kk.free' (p := ⟨w.heap.size + 1 + 1, 1, none⟩) rc1 rf1 (by simp; omega)
  have rf2 := kk.free' (p := ⟨w.heap.size + 1 + 1, 2, none⟩) rc2 rf2 (by simp; omega)
  have rc0 := kk.cell (p := ⟨w.heap.size + 1 + 1, 0, none⟩) rc0 (by simp; omega)
  have rc1 := kk.cell (p := ⟨w.heap.size + 1 + 1, 1, none⟩) rc1 (by simp; omega)
  have rc2 := kk.cell (p := ⟨w.heap.size + 1 + 1, 2, none⟩) rc2 (by simp; omega)
  have HK8 := Lib.hid ((HK6.out.setCell ⟨w2.heap.size + 1, 0, none⟩ (.int .i64 c) (by simp; omega)).setCell ⟨w2.heap.size + 1, 1, none⟩ (.slice a6 l.length x6) (by simp; omega))
  have HK18 := Lib.hid (((H12.out.trans0 HK26.out).setCell ⟨w2.heap.size + 1, 0, none⟩ (.int .i64 c) (by have := H12.out.size; simp; omega)).setCell ⟨w2.heap.size + 1, 1, none⟩ (.slice a6 l.length x6) (by have := H12.out.size; simp; omega))
  have HS8 := Lib.hid (HS6.out.kept kk (fun hn x hx => by have := HF6.out hn x hx; simp; omega))
  have h12s := H12.out.size
  clear kk
  go_wp2_with fail
  have e9 := bigResult_fit s a6 x6 (X + 1) w1 _ HV1.out (by rw [← HLI.out]; exact HS8.out) (by rw [← HLI.out]; exact HF6.out.mono (by omega)) HK18.out
  rw [← HC.out, ← HLI.out] at e9
  refine e9.mono ?_
  rintro e w9 ⟨⟨a2, x2, rfl, hs2, hf2, _⟩, hk⟩
  have rf0 := hk.free' (p := ⟨w.heap.size + 1 + 1, 0, none⟩) rc0 rf0 (by simp)
  have rf1 := hk.free' (p := ⟨w.heap.size + 1 + 1, 1, none⟩) rc1 rf1 (by simp)
  have rf2 := hk.free' (p := ⟨w.heap.size + 1 + 1, 2, none⟩) rc2 rf2 (by simp)
  have rc0 := hk.cell (p := ⟨w.heap.size + 1 + 1, 0, none⟩) rc0 (by simp)
  have rc1 := hk.cell (p := ⟨w.heap.size + 1 + 1, 1, none⟩) rc1 (by simp)
  have rc2 := hk.cell (p := ⟨w.heap.size + 1 + 1, 2, none⟩) rc2 (by simp)
  have HS2 := Lib.hid hs2
  have HF2 := Lib.hid hf2
  have HK9 := Lib.hid (HK8.out.trans0 hk)
  clear hs2 hf2 hk e9
  obtain ⟨r, hr⟩ : ∃ r, r = fitB (sg s (X + 1)) := ⟨_, rfl⟩
  rw [← hr] at HS2 HF2 ⊢
  have HR := Lib.hid hr
  clear hr
  obtain ⟨ea, eb, ec⟩ := cells3' (.int .i64 r.code) (.bool r.neg) (.slice a2 r.limbs.length x2) rc0 rc1 rc2
  go_wp2_with fail
  exact bodyPost_ret (v := .agg #[.int .i64 r.code, .bool r.neg, .slice a2 r.limbs.length x2]) (by simp [results, Try.results88, go_sem, ea, eb, ec]) rfl (by rw [← HR.out]; exact bigR_fin (w0 := w1) (g := w.heap.size + 1 + 1) (by omega) HS2.out HF2.out hsz HK9.out)

theorem divideBigs_ok (p q up : Bool) (a b : Option Addr) (n c m d : Nat) (xs ys : List Int) (w : World) (h : Sl w a n c xs) (h' : Sl w b m d ys) (hx : BigOk p xs) (hy : BigOk q ys) (hy0 : ys.length ≠ 0) :
    Calls Try.prog 88 #[.agg #[.bool p, .slice a n c], .agg #[.bool q, .slice b m d], .bool up] w (BigR w (fitB (divZ up p q (val xs) (val ys)))) := by
  by_cases hc : val xs % val ys ≠ 0 ∧ (p != q) ≠ up
  · exact divideBigs_inc p q up a b n c m d xs ys w h h' hx hy hy0 hc.1 hc.2
  · by_cases hr : val xs % val ys = 0
    · exact divideBigs_flat0 p q up a b n c m d xs ys w h h' hx hy hy0 hc hr
    · exact divideBigs_flat p q up a b n c m d xs ys w h h' hx hy hy0 hc hr

set_option maxHeartbeats 2000000 in
theorem divideBigs_any (p q up : Bool) (a b : Option Addr) (n c m d : Nat) (xs ys : List Int) (w : World) (h : Sl w a n c xs) (h' : Sl w b m d ys) :
    Calls Try.prog 88 #[.agg #[.bool p, .slice a n c], .agg #[.bool q, .slice b m d], .bool up] w (BigR w (divB up p xs q ys)) := by
  unfold divB
  by_cases hz : bigFault2 p xs q ys = 0
  · rw [twoB_zero hz]
    obtain ⟨hx, hy⟩ := bigFault2_zero hz
    by_cases hy0 : ys.length = 0
    · rw [if_pos hy0]; exact divideBigs_zero p q up a b n c m d xs ys w h h' hx hy hy0
    · rw [if_neg hy0]; exact divideBigs_ok p q up a b n c m d xs ys w h h' hx hy hy0
  have k0 : Kept [] w (((w.alloc (.cells #[.bool p, .slice a n c] 40)).alloc (.cells #[.bool q, .slice b m d] 40)).alloc (.cells #[.int .i64 0, .bool false, .slice none 0 0] 42)) := (((Kept.refl [] w).alloc _).alloc _).alloc _
  have K0 := Lib.hid k0
  have HS := Lib.hid h
  have HS' := Lib.hid h'
  clear k0 h h'
  · rw [twoB_not hz]
    generalize hf : bigFault2 p xs q ys = f at *
    have hne : (f == 0) = false := by rw [beq_eq_false_iff_ne]; exact hz
    have HF := Lib.hid hf
    clear hf hz
    go_enter Try.func88, Try.ntmps88
    go_wp2_with fail
    refine (firstBigFault_two _ _ _ _ _ _ _ _ _ _ _ _ (by simp) (HS.out.rd.kept0 K0.out) (HS'.out.rd.kept0 K0.out)).mono ?_
    rintro e w1 ⟨rfl, hk⟩
    rw [HF.out]
    obtain ⟨rc0, rf0, hsz⟩ := hk.top (g := w.heap.size + 1 + 1) (by simp) (by simp) 0 (v := .int .i64 0) rfl
    obtain ⟨rc1, rf1, hsz⟩ := hk.top (g := w.heap.size + 1 + 1) (by simp) (by simp) 1 (v := .bool false) rfl
    obtain ⟨rc2, rf2, hsz⟩ := hk.top (g := w.heap.size + 1 + 1) (by simp) (by simp) 2 (v := .slice none 0 0) rfl
    have HK := Lib.hid (K0.out.trans0 hk)
    clear hk
    obtain ⟨ea, eb, ec⟩ := cells3' (.int .i64 f) (.bool false) (.slice none 0 0) rc0 rc1 rc2
    go_wp2_with fail
    exact bodyPost_ret (v := .agg #[.int .i64 f, .bool false, .slice none 0 0]) (by simp [results, Try.results88, go_sem, ea, eb, ec]) rfl (bigR_fin (w0 := w1) (r := noBig f) (a := none) (c := 0) (g := w.heap.size + 1 + 1) (by omega) (Sl.nil _) (fun h => by simp [noBig] at h) hsz HK.out)

set_option maxHeartbeats 2000000 in
theorem FloorDiv_any (p q : Bool) (a b : Option Addr) (n c m d : Nat) (xs ys : List Int) (w : World) (h : Sl w a n c xs) (h' : Sl w b m d ys) :
    Calls Try.prog 51 #[.agg #[.bool p, .slice a n c], .agg #[.bool q, .slice b m d]] w (BigR w (divB false p xs q ys)) := by
  have HS := Lib.hid h
  have HS' := Lib.hid h'
  clear h h'
  have k0 : Kept [] w (((w.alloc (.cells #[.bool p, .slice a n c] 40)).alloc (.cells #[.bool q, .slice b m d] 40)).alloc (.cells #[.int .i64 0, .bool false, .slice none 0 0] 42)) := (((Kept.refl [] w).alloc _).alloc _).alloc _
  have K0 := Lib.hid k0
  clear k0
  go_enter Try.func51, Try.ntmps51
  go_wp2_with fail
  have k9 : Kept [] (((w.alloc (.cells #[.bool p, .slice a n c] 40)).alloc (.cells #[.bool q, .slice b m d] 40)).alloc (.cells #[.int .i64 0, .bool false, .slice none 0 0] 42)) (((w.alloc (.cells #[.bool p, .slice a n c] 40)).alloc (.cells #[.bool q, .slice b m d] 40)).alloc (.cells #[.int .i64 0, .bool false, .slice none 0 0] 42)) := Kept.refl _ _
  refine (divideBigs_any _ _ _ _ _ _ _ _ _ _ _ _ (HS.out.kept0 K0.out) (HS'.out.kept0 K0.out)).mono ?_
  rintro e w2 ⟨a2, x2, rfl, hs2, hf2, hk2⟩
  obtain ⟨rc0, rf0, hsz⟩ := hk2.top (g := w.heap.size + 1 + 1) (by simp) (by simp) 0 (v := .int .i64 0) rfl
  obtain ⟨rc1, rf1, hsz⟩ := hk2.top (g := w.heap.size + 1 + 1) (by simp) (by simp) 1 (v := .bool false) rfl
  obtain ⟨rc2, rf2, hsz⟩ := hk2.top (g := w.heap.size + 1 + 1) (by simp) (by simp) 2 (v := .slice none 0 0) rfl
  have hf2 := hf2.mono (B' := w.heap.size + 1 + 1 + 1) (by simp)
  obtain ⟨r, hr⟩ : ∃ r, r = divB false p xs q ys := ⟨_, rfl⟩
  rw [← hr] at hs2 hf2 ⊢
  have HR := Lib.hid hr
  have HS2 := Lib.hid hs2
  have HF2 := Lib.hid hf2
  have HK2 := Lib.hid (K0.out.trans0 hk2)
  clear hr hs2 hf2 hk2 k9
  obtain ⟨ea, eb, ec⟩ := cells3' (.int .i64 r.code) (.bool r.neg) (.slice a2 r.limbs.length x2) rc0 rc1 rc2
  go_wp2_with fail
  exact bodyPost_ret (v := .agg #[.int .i64 r.code, .bool r.neg, .slice a2 r.limbs.length x2]) (by simp [results, Try.results51, go_sem, ea, eb, ec]) rfl (by rw [← HR.out]; exact bigR_fin3 HS2.out HF2.out HK2.out)

set_option maxHeartbeats 2000000 in
theorem CeilDiv_any (p q : Bool) (a b : Option Addr) (n c m d : Nat) (xs ys : List Int) (w : World) (h : Sl w a n c xs) (h' : Sl w b m d ys) :
    Calls Try.prog 53 #[.agg #[.bool p, .slice a n c], .agg #[.bool q, .slice b m d]] w (BigR w (divB true p xs q ys)) := by
  have HS := Lib.hid h
  have HS' := Lib.hid h'
  clear h h'
  have k0 : Kept [] w (((w.alloc (.cells #[.bool p, .slice a n c] 40)).alloc (.cells #[.bool q, .slice b m d] 40)).alloc (.cells #[.int .i64 0, .bool false, .slice none 0 0] 42)) := (((Kept.refl [] w).alloc _).alloc _).alloc _
  have K0 := Lib.hid k0
  clear k0
  go_enter Try.func53, Try.ntmps53
  go_wp2_with fail
  have k9 : Kept [] (((w.alloc (.cells #[.bool p, .slice a n c] 40)).alloc (.cells #[.bool q, .slice b m d] 40)).alloc (.cells #[.int .i64 0, .bool false, .slice none 0 0] 42)) (((w.alloc (.cells #[.bool p, .slice a n c] 40)).alloc (.cells #[.bool q, .slice b m d] 40)).alloc (.cells #[.int .i64 0, .bool false, .slice none 0 0] 42)) := Kept.refl _ _
  refine (divideBigs_any _ _ _ _ _ _ _ _ _ _ _ _ (HS.out.kept0 K0.out) (HS'.out.kept0 K0.out)).mono ?_
  rintro e w2 ⟨a2, x2, rfl, hs2, hf2, hk2⟩
  obtain ⟨rc0, rf0, hsz⟩ := hk2.top (g := w.heap.size + 1 + 1) (by simp) (by simp) 0 (v := .int .i64 0) rfl
  obtain ⟨rc1, rf1, hsz⟩ := hk2.top (g := w.heap.size + 1 + 1) (by simp) (by simp) 1 (v := .bool false) rfl
  obtain ⟨rc2, rf2, hsz⟩ := hk2.top (g := w.heap.size + 1 + 1) (by simp) (by simp) 2 (v := .slice none 0 0) rfl
  have hf2 := hf2.mono (B' := w.heap.size + 1 + 1 + 1) (by simp)
  obtain ⟨r, hr⟩ : ∃ r, r = divB true p xs q ys := ⟨_, rfl⟩
  rw [← hr] at hs2 hf2 ⊢
  have HR := Lib.hid hr
  have HS2 := Lib.hid hs2
  have HF2 := Lib.hid hf2
  have HK2 := Lib.hid (K0.out.trans0 hk2)
  clear hr hs2 hf2 hk2 k9
  obtain ⟨ea, eb, ec⟩ := cells3' (.int .i64 r.code) (.bool r.neg) (.slice a2 r.limbs.length x2) rc0 rc1 rc2
  go_wp2_with fail
  exact bodyPost_ret (v := .agg #[.int .i64 r.code, .bool r.neg, .slice a2 r.limbs.length x2]) (by simp [results, Try.results53, go_sem, ea, eb, ec]) rfl (by rw [← HR.out]; exact bigR_fin3 HS2.out HF2.out HK2.out)

end Go.Proofs.Ytgplghjameiciaa
