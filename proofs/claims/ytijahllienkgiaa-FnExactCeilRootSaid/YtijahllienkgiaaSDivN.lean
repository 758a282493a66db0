/-
  Contract of the model's DivNats. Condition: the slices read as lists of numbers.
-/
import Derived.Test.YtijahllienkgiaaSDiv
import Derived.Test.YtijahllienkgiaaMarks
namespace Go.Proofs.Ytijahllienkgiaa
open Go.RowKit

theorem l1Div_any (a b : Option Addr) (n c m d : Nat) (xs ys : List Int) (w : World) (h : Sl w a n c xs) (h' : Rd w b m ys) (hx : Canon xs) (hy : Canon ys) (hn : n ≤ 900) (hm1 : 1 ≤ m) (hm2 : m ≤ 900) :
    Calls Try.prog 125 #[.slice a n c, .slice b m d] w (DivT w (digits (val xs / val ys)) (digits (val xs % val ys))) := by
  by_cases hlt : val xs < val ys
  · exact l1Div_small a b n c m d xs ys w h h' hx hy (by omega) hlt
  · rcases (by omega : m = 1 ∨ 2 ≤ m) with e | e
    · subst e
      obtain ⟨y, rfl⟩ : ∃ y, ys = [y] := by
        have := h'.1
        match ys, this with
        | [y], _ => exact ⟨y, rfl⟩
      exact l1Div_one a b n c d xs y w h h' hx hy (by omega) hlt
    · exact l1Div_many a b n c m d xs ys w h h' hx hy hn e (by omega) hlt

/-- A call that answers a code and two slices of new memory. -/
def DivS (w : World) (code : Int) (qs rs : List Int) (e : Ending) (w' : World) : Prop :=
  ∃ a c a' c', e = .returned (.agg #[.int .i64 code, .slice a qs.length c, .slice a' rs.length c']) ∧ Sl w' a qs.length c qs ∧ Sl w' a' rs.length c' rs ∧ Fr w.heap.size a qs.length ∧ Fr w.heap.size a' rs.length ∧ Kept [] w w'
theorem divS_fin {w w1 : World} {a a' : Option Addr} {c c' : Nat} {qs rs : List Int} (code : Int) (hK : Kept [] (w.alloc (.cells #[.int .i64 0, .slice none 0 0, .slice none 0 0] 45)) w1) (hS : Sl w1 a qs.length c qs) (hS' : Sl w1 a' rs.length c' rs) (hF : Fr (w.heap.size + 1) a qs.length) (hF' : Fr (w.heap.size + 1) a' rs.length) :
    DivS w code qs rs (.returned (.agg #[.int .i64 code, .slice a qs.length c, .slice a' rs.length c'])) (((w1.setCell ⟨w.heap.size, 0, none⟩ (.int .i64 code)).setCell ⟨w.heap.size, 1, none⟩ (.slice a qs.length c)).setCell ⟨w.heap.size, 2, none⟩ (.slice a' rs.length c')) :=
  ⟨a, c, a', c', rfl, hS.kept ((((Kept.refl [w.heap.size] w1).setCell _ _ (by simp)).setCell _ _ (by simp)).setCell _ _ (by simp)) (fun hn y hy => by have := hF hn y hy; simp; omega),
    hS'.kept ((((Kept.refl [w.heap.size] w1).setCell _ _ (by simp)).setCell _ _ (by simp)).setCell _ _ (by simp)) (fun hn y hy => by have := hF' hn y hy; simp; omega), hF.mono (by omega), hF'.mono (by omega),
    (((((Kept.refl [] w).alloc _).trans0 hK).setCell _ _ (by simp)).setCell _ _ (by simp)).setCell _ _ (by simp)⟩

set_option maxHeartbeats 2000000 in
theorem sDivNats_any (a b : Option Addr) (n c m c' : Nat) (xs ys : List Int) (w : World) (h : Sl w a n c xs) (h' : Rd w b m ys) :
    Calls Try.prog 47 #[.slice a n c, .slice b m c'] w (DivS w (divCode xs ys) (divQuot xs ys) (divRest xs ys)) := by
  have k0 : Kept [] w (w.alloc (.cells #[.int .i64 0, .slice none 0 0, .slice none 0 0] 45)) := (Kept.refl [] w).alloc _
  have HK0 := Lib.hid k0
  have HS := Lib.hid h
  have HR' := Lib.hid h'
  have HL := Lib.hid h.1
  have HL' := Lib.hid h'.1
  clear h h' k0
  by_cases hz : fault2 xs ys = 0
  · have hz' := Lib.hid hz
    have hx := Lib.hid (natFault_zero (fault2_zero hz).1)
    have hy := Lib.hid (natFault_zero (fault2_zero hz).2)
    have hn40 : n ≤ 40 := by have := hx.out.len; rw [HL.out] at this; exact this
    have hm40 : m ≤ 40 := by have := hy.out.len; rw [HL'.out] at this; exact this
    by_cases hm0 : m = 0
    · have e1 : divCode xs ys = 6 := by unfold divCode; rw [if_pos hz, if_pos (by rw [HL'.out]; exact hm0)]
      have e2 : divQuot xs ys = [] := by unfold divQuot; rw [if_neg (fun h => h.2 (by rw [HL'.out]; exact hm0))]
      have e3 : divRest xs ys = [] := by unfold divRest; rw [if_neg (fun h => h.2 (by rw [HL'.out]; exact hm0))]
      rw [e1, e2, e3]
      clear e1 e2 e3 hz
      subst hm0
      go_enter Try.func47, Try.ntmps47
      go_wp2_with fail
      refine (l1Two_any _ _ _ _ _ _ _ _ _ (HS.out.rd.kept0 HK0.out) (HR'.out.kept0 HK0.out)).mono ?_
      rintro e w1 ⟨rfl, hq⟩
      rw [hz'.out]
      obtain ⟨hc0, hc1, hc2, hf0, hf1, hf2, hsz⟩ := resCellsD hq (by simp)
      obtain ⟨ea, eb, ec⟩ := cells3 (.int .i64 6) (.slice none 0 0) (.slice none 0 0) hc0 hc1 hc2
      have HQ := Lib.hid hq
      clear hq
      go_wp2_with fail
      exact bodyPost_ret (v := .agg #[.int .i64 6, .slice none 0 0, .slice none 0 0]) (by simp [results, Try.results47, go_sem, ea, eb, ec]) rfl (divS_fin (qs := []) (rs := []) 6 HQ.out (Sl.nil _) (Sl.nil _) (fun h => by simp at h) (fun h => by simp at h))
    · have e1 : divCode xs ys = 0 := by unfold divCode; rw [if_pos hz, if_neg (by rw [HL'.out]; exact hm0)]
      have e2 : divQuot xs ys = digits (val xs / val ys) := by unfold divQuot; rw [if_pos ⟨hz, by rw [HL'.out]; exact hm0⟩]
      have e3 : divRest xs ys = digits (val xs % val ys) := by unfold divRest; rw [if_pos ⟨hz, by rw [HL'.out]; exact hm0⟩]
      rw [e1, e2, e3]
      have hmz : ((m : Int) == 0) = false := by rw [beq_eq_false_iff_ne]; omega
      clear e1 e2 e3 hz
      go_enter Try.func47, Try.ntmps47
      go_wp2_with fail
      refine (l1Two_any _ _ _ _ _ _ _ _ _ (HS.out.rd.kept0 HK0.out) (HR'.out.kept0 HK0.out)).mono ?_
      rintro e w1 ⟨rfl, hq⟩
      rw [hz'.out]
      have HQ := Lib.hid (HK0.out.trans0 hq)
      have HQ1 := Lib.hid hq
      clear hq
      go_wp2_with fail
      refine (l1Div_any _ _ _ _ _ _ xs ys _ (HS.out.kept0 HQ.out) (HR'.out.kept0 HQ.out) hx.out.canon hy.out.canon (by omega) (by omega) (by omega)).mono ?_
      rintro e w2 ⟨a1, c1, a2, c2, rfl, t1, t2, t3, t4, hk⟩
      have hsz2 : w.heap.size + 1 ≤ w1.heap.size := by have := HQ1.out.size; simpa using this
      have T1 := Lib.hid t1
      have T2 := Lib.hid t2
      have T3 := Lib.hid (t3.mono hsz2)
      have T4 := Lib.hid (t4.mono hsz2)
      have HK2 := Lib.hid (HQ1.out.trans0 hk)
      obtain ⟨hc0, hc1, hc2, hf0, hf1, hf2, hsz⟩ := resCellsD HK2.out (by simp)
      obtain ⟨ea, eb, ec⟩ := cells3 (.int .i64 0) (.slice a1 (digits (val xs / val ys)).length c1) (.slice a2 (digits (val xs % val ys)).length c2) hc0 hc1 hc2
      clear t1 t2 t3 t4 hk
      go_wp2_with fail
      exact bodyPost_ret (v := .agg #[.int .i64 0, .slice a1 (digits (val xs / val ys)).length c1, .slice a2 (digits (val xs % val ys)).length c2]) (by simp [results, Try.results47, go_sem, ea, eb, ec]) rfl (divS_fin 0 HK2.out T1.out T2.out T3.out T4.out)
  · have e1 : divCode xs ys = fault2 xs ys := if_neg hz
    have e2 : divQuot xs ys = [] := if_neg (fun h => hz h.1)
    have e3 : divRest xs ys = [] := if_neg (fun h => hz h.1)
    rw [e1, e2, e3]
    clear e1 e2 e3
    go_enter Try.func47, Try.ntmps47
    go_wp2_with fail
    refine (l1Two_any _ _ _ _ _ _ _ _ _ (HS.out.rd.kept0 HK0.out) (HR'.out.kept0 HK0.out)).mono ?_
    rintro e w1 ⟨rfl, hq⟩
    generalize hf : fault2 xs ys = f at *
    have hne : (f == 0) = false := by rw [beq_eq_false_iff_ne]; exact hz
    obtain ⟨hc0, hc1, hc2, hf0, hf1, hf2, hsz⟩ := resCellsD hq (by simp)
    obtain ⟨ea, eb, ec⟩ := cells3 (.int .i64 f) (.slice none 0 0) (.slice none 0 0) hc0 hc1 hc2
    have HQ := Lib.hid hq
    have HF := Lib.hid hf
    clear hf hz hq
    go_wp2_with fail
    exact bodyPost_ret (v := .agg #[.int .i64 f, .slice none 0 0, .slice none 0 0]) (by simp [results, Try.results47, go_sem, ea, eb, ec]) rfl (divS_fin (qs := []) (rs := []) f HQ.out (Sl.nil _) (Sl.nil _) (fun h => by simp at h) (fun h => by simp at h))

theorem div_len (xs ys : List Int) : (divQuot xs ys).length ≤ 100 ∧ (divRest xs ys).length ≤ 100 := by
  by_cases hc : fault2 xs ys = 0 ∧ ys.length ≠ 0
  · have hx := natFault_zero (fault2_zero hc.1).1
    have hy := natFault_zero (fault2_zero hc.1).2
    have hxv := (show AllLimbs xs from hx.limb).val
    have hyv : 0 < val ys := (canon_nonneg hy.canon).2 (fun e => hc.2 (by rw [e]; rfl))
    have hl := hx.len
    have h1 := Int.ediv_le_self (b := val ys) hxv.1
    have h2 := (ediv_spec (X := val xs) hyv)
    have h3 := Int.mul_nonneg (Int.le_of_lt hyv) (Int.ediv_nonneg hxv.1 (Int.le_of_lt hyv))
    have d1 := digits_len xs.length (val xs / val ys) (by omega)
    have d2 := digits_len xs.length (val xs % val ys) (by omega)
    unfold divQuot divRest
    rw [if_pos hc, if_pos hc]; omega
  · unfold divQuot divRest
    rw [if_neg hc, if_neg hc]; simp

end Go.Proofs.Ytijahllienkgiaa
