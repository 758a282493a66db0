/-
  Contracts of BigText, the program's and the model's. Condition: the limbs lie in a block of numbers.
-/
import Derived.Test.YtijahllienkgiaaBigC
import Derived.Test.YtijahllienkgiaaNText
namespace Go.Proofs.Ytijahllienkgiaa
open Go.RowKit

/-- The text that BigText answers. -/
def bigText (b : Bool) (xs : List Int) : ByteArray := if bigFault b xs = 0 then (if b = true then ⟨#[45]⟩ ++ strOfNums (decText (val xs)) else strOfNums (decText (val xs))) else ⟨#[]⟩
theorem textVal_ok {xs : List Int} (h : natFault xs = 0) : textVal xs = strOfNums (decText (val xs)) := if_pos h

theorem size_strOfNums (l : List Int) : (strOfNums l).size = l.length := by
  unfold strOfNums; simp [ByteArray.size]
theorem text_short {xs : List Int} (h : Nat40 xs) : (strOfNums (decText (val xs))).size ≤ 700 := by
  rw [size_strOfNums]
  have h1 := (show AllLimbs xs from h.limb).val
  have h2 := dec_len (n := val xs) (k := xs.length) h1.2
  have h3 := h.len
  unfold decText
  split
  · simp
  · simp; omega

theorem resCellsT2 {w w1 : World} {b : Bool} {a : Option Addr} {n c : Nat} {L : List Nat} (hK : Kept L ((w.alloc (.cells #[.bool b, .slice a n c] 51)).alloc (.cells #[.int .i64 0, .string ⟨#[]⟩] 42)) w1) (hL : ∀ x, x ∈ L → w1.heap.size ≤ x ∨ x < w.heap.size) :
    w1.cell? ⟨w.heap.size, 0, none⟩ = some (.bool b) ∧ w1.cell? ⟨w.heap.size, 1, none⟩ = some (.slice a n c) ∧ w1.cell? ⟨w.heap.size + 1, 0, none⟩ = some (.int .i64 0) ∧ w1.cell? ⟨w.heap.size + 1, 1, none⟩ = some (.string ⟨#[]⟩) ∧ w1.frozen? ⟨w.heap.size + 1, 0, none⟩ = false ∧ w1.frozen? ⟨w.heap.size + 1, 1, none⟩ = false := by
  have hs := hK.size
  simp only [World.size_alloc] at hs
  have h0 : w.heap.size ∉ L := fun h => by have := hL _ h; omega
  have h1 : w.heap.size + 1 ∉ L := fun h => by have := hL _ h; omega
  exact ⟨(hK.peel.top (g := w.heap.size) rfl h0 0 rfl).1, (hK.peel.top (g := w.heap.size) rfl h0 1 rfl).1, (hK.top (g := w.heap.size + 1) (by simp) h1 0 rfl).1, (hK.top (g := w.heap.size + 1) (by simp) h1 1 rfl).1, (hK.top (g := w.heap.size + 1) (by simp) h1 0 rfl).2.1, (hK.top (g := w.heap.size + 1) (by simp) h1 1 rfl).2.1⟩

theorem textFin {w w1 : World} {u : Int} {v : ByteArray} (hk : Kept [] w w1) : Ans w (.agg #[.int .i64 u, .string v]) (.returned (.agg #[.int .i64 u, .string v])) ((w1.setCell ⟨w.heap.size + 1, 0, none⟩ (.int .i64 u)).setCell ⟨w.heap.size + 1, 1, none⟩ (.string v)) :=
  ⟨rfl, (hk.setCell _ _ (by simp)).setCell _ _ (by simp)⟩

set_option maxHeartbeats 1000000 in
theorem BigText_any (b : Bool) (a : Option Addr) (n c : Nat) (xs : List Int) (w : World) (h : Sl w a n c xs) :
    Calls Try.prog 72 #[.agg #[.bool b, .slice a n c]] w (Ans w (.agg #[.int .i64 (bigFault b xs), .string (bigText b xs)])) := by
  have HS := Lib.hid h
  clear h
  have k0 : Kept [] w ((w.alloc (.cells #[.bool b, .slice a n c] 51)).alloc (.cells #[.int .i64 0, .string ⟨#[]⟩] 42)) := ((Kept.refl [] w).alloc _).alloc _
  have K0 := Lib.hid k0
  clear k0
  by_cases hz : bigFault b xs = 0
  · have hz' := Lib.hid hz
    have HN := Lib.hid (bigFault_zero hz).nat
    obtain ⟨T, hT⟩ : ∃ T, T = strOfNums (decText (val xs)) := ⟨_, rfl⟩
    have HT := Lib.hid hT
    have htv : textVal xs = T := by rw [textVal_ok HN.out, hT]
    have hts : T.size ≤ 700 := by rw [hT]; exact text_short (natFault_zero HN.out)
    have HTV := Lib.hid htv
    cases b with
    | false =>
      have hbt : bigText false xs = T := by unfold bigText; rw [if_pos hz, if_neg (by simp), hT]
      rw [hz, hbt]
      clear hz hT htv hbt
      go_enter Try.func72, Try.ntmps72
      go_wp2_with fail
      refine (BigFault_any _ _ _ _ _ _ (HS.out.rd.kept0 K0.out)).mono ?_
      rintro e w1 ⟨rfl, hk⟩
      rw [hz'.out]
      obtain ⟨c0, c1, c2, c3, f2, f3⟩ := resCellsT2 hk (by simp)
      have HK := Lib.hid (K0.out.trans0 hk)
      clear hk
      go_wp2_with fail
      refine (NatText_any _ _ _ _ _ (HS.out.kept0 HK.out)).mono ?_
      rintro e w2 ⟨rfl, hk⟩
      rw [HN.out, HTV.out]
      have hks := hk.size
      have d0 := hk.cell (p := ⟨w.heap.size, 0, none⟩) c0 (by simp)
      have d2 := hk.cell (p := ⟨w.heap.size + 1, 0, none⟩) c2 (by simp)
      have d3 := hk.cell (p := ⟨w.heap.size + 1, 1, none⟩) c3 (by simp)
      have g2 := hk.free' (p := ⟨w.heap.size + 1, 0, none⟩) c2 f2 (by simp)
      have g3 := hk.free' (p := ⟨w.heap.size + 1, 1, none⟩) c3 f3 (by simp)
      have k3 : Kept [] w2 (w2.alloc (.cells #[.int .i64 0, .string T] 42)) := (Kept.refl [] _).alloc _
      have g2 := k3.free' (p := ⟨w.heap.size + 1, 0, none⟩) d2 g2 (by simp)
      have g3 := k3.free' (p := ⟨w.heap.size + 1, 1, none⟩) d3 g3 (by simp)
      have d0 := k3.cell (p := ⟨w.heap.size, 0, none⟩) d0 (by simp)
      have d2 := k3.cell (p := ⟨w.heap.size + 1, 0, none⟩) d2 (by simp)
      have d3 := k3.cell (p := ⟨w.heap.size + 1, 1, none⟩) d3 (by simp)
      have HK3 := Lib.hid ((HK.out.trans0 hk).trans0 k3)
      obtain ⟨_, eb, ec⟩ := cells2 (.int .i64 0) (.string T) d2 d3
      clear hk k3 c0 c1 c2 c3 f2 f3
      go_wp2_with fail
      exact bodyPost_ret (v := .agg #[.int .i64 0, .string T]) (by simp [results, Try.results72, go_sem, eb, ec]) rfl (textFin HK3.out)
    | true =>
      have hbt : bigText true xs = ⟨#[45]⟩ ++ T := by unfold bigText; rw [if_pos hz, if_pos rfl, hT]
      rw [hz, hbt]
      clear hz hT htv hbt
      go_enter Try.func72, Try.ntmps72
      go_wp2_with fail
      refine (BigFault_any _ _ _ _ _ _ (HS.out.rd.kept0 K0.out)).mono ?_
      rintro e w1 ⟨rfl, hk⟩
      rw [hz'.out]
      obtain ⟨c0, c1, c2, c3, f2, f3⟩ := resCellsT2 hk (by simp)
      have HK := Lib.hid (K0.out.trans0 hk)
      clear hk
      go_wp2_with fail
      refine (NatText_any _ _ _ _ _ (HS.out.kept0 HK.out)).mono ?_
      rintro e w2 ⟨rfl, hk⟩
      rw [HN.out, HTV.out]
      have d0 := hk.cell (p := ⟨w.heap.size, 0, none⟩) c0 (by simp)
      have d2 := hk.cell (p := ⟨w.heap.size + 1, 0, none⟩) c2 (by simp)
      have d3 := hk.cell (p := ⟨w.heap.size + 1, 1, none⟩) c3 (by simp)
      have g2 := hk.free' (p := ⟨w.heap.size + 1, 0, none⟩) c2 f2 (by simp)
      have g3 := hk.free' (p := ⟨w.heap.size + 1, 1, none⟩) c3 f3 (by simp)
      have k3 : Kept [] w2 (w2.alloc (.cells #[.int .i64 0, .string T] 42)) := (Kept.refl [] _).alloc _
      have g2 := k3.free' (p := ⟨w.heap.size + 1, 0, none⟩) d2 g2 (by simp)
      have g3 := k3.free' (p := ⟨w.heap.size + 1, 1, none⟩) d3 g3 (by simp)
      have d0 := k3.cell (p := ⟨w.heap.size, 0, none⟩) d0 (by simp)
      have d2 := k3.cell (p := ⟨w.heap.size + 1, 0, none⟩) d2 (by simp)
      have d3 := k3.cell (p := ⟨w.heap.size + 1, 1, none⟩) d3 (by simp)
      have HK3 := Lib.hid ((HK.out.trans0 hk).trans0 k3)
      obtain ⟨_, eb, ec⟩ := cells2 (.int .i64 0) (.string (⟨#[45]⟩ ++ T)) d2 d3
      clear hk k3 c0 c1 c2 c3 f2 f3
      go_wp2_with fail
      exact bodyPost_ret (v := .agg #[.int .i64 0, .string (⟨#[45]⟩ ++ T)]) (by simp [results, Try.results72, go_sem, eb, ec]) rfl (textFin HK3.out)
  · have hbt : bigText b xs = ⟨#[]⟩ := by unfold bigText; rw [if_neg hz]
    rw [hbt]
    generalize hf : bigFault b xs = f at *
    have hne : (f == 0) = false := by rw [beq_eq_false_iff_ne]; exact hz
    have HF := Lib.hid hf
    clear hf hz hbt
    go_enter Try.func72, Try.ntmps72
    go_wp2_with fail
    refine (BigFault_any _ _ _ _ _ _ (HS.out.rd.kept0 K0.out)).mono ?_
    rintro e w1 ⟨rfl, hk⟩
    rw [HF.out]
    obtain ⟨c0, c1, c2, c3, f2, f3⟩ := resCellsT2 hk (by simp)
    have HK := Lib.hid (K0.out.trans0 hk)
    obtain ⟨_, eb, ec⟩ := cells2 (.int .i64 f) (.string ⟨#[]⟩) c2 c3
    clear hk
    go_wp2_with fail
    exact bodyPost_ret (v := .agg #[.int .i64 f, .string ⟨#[]⟩]) (by simp [results, Try.results72, go_sem, eb, ec]) rfl (textFin HK.out)

set_option maxHeartbeats 1000000 in
theorem sBigText_any (b : Bool) (a : Option Addr) (n c : Nat) (xs : List Int) (w : World) (h : Sl w a n c xs) :
    Calls Try.prog 73 #[.agg #[.bool b, .slice a n c]] w (Ans w (.agg #[.int .i64 (bigFault b xs), .string (bigText b xs)])) := by
  have HS := Lib.hid h
  clear h
  have k0 : Kept [] w ((w.alloc (.cells #[.bool b, .slice a n c] 51)).alloc (.cells #[.int .i64 0, .string ⟨#[]⟩] 42)) := ((Kept.refl [] w).alloc _).alloc _
  have K0 := Lib.hid k0
  clear k0
  by_cases hz : bigFault b xs = 0
  · have hz' := Lib.hid hz
    have HN := Lib.hid (bigFault_zero hz).n40
    have hn : n ≤ 1000 := by have := HN.out.len; have := HS.out.1; omega
    obtain ⟨T, hT⟩ : ∃ T, T = strOfNums (decText (val xs)) := ⟨_, rfl⟩
    have hts : T.size ≤ 700 := by rw [hT]; exact text_short HN.out
    have HT := Lib.hid hT
    cases b with
    | false =>
      have hbt : bigText false xs = T := by unfold bigText; rw [if_pos hz, if_neg (by simp), hT]
      rw [hz, hbt]
      clear hz hT hbt
      go_enter Try.func73, Try.ntmps73
      go_wp2_with fail
      refine (sBigFault_any _ _ _ _ _ _ (HS.out.rd.kept0 K0.out)).mono ?_
      rintro e w1 ⟨rfl, hk⟩
      rw [hz'.out]
      obtain ⟨c0, c1, c2, c3, f2, f3⟩ := resCellsT2 hk (by simp)
      have HK := Lib.hid (K0.out.trans0 hk)
      clear hk
      go_wp2_with fail
      refine (l1Text_any _ _ _ _ _ (HS.out.rd.kept0 HK.out) HN.out.canon hn).mono ?_
      rintro e w2 ⟨rfl, hk⟩
      rw [← HT.out]
      have d2 := hk.cell (p := ⟨w.heap.size + 1, 0, none⟩) c2 (by simp)
      have d3 := hk.cell (p := ⟨w.heap.size + 1, 1, none⟩) c3 (by simp)
      have g2 := hk.free' (p := ⟨w.heap.size + 1, 0, none⟩) c2 f2 (by simp)
      have g3 := hk.free' (p := ⟨w.heap.size + 1, 1, none⟩) c3 f3 (by simp)
      have HK3 := Lib.hid (HK.out.trans0 hk)
      obtain ⟨_, eb, ec⟩ := cells2 (.int .i64 0) (.string T) d2 d3
      clear hk c0 c1 c2 c3 f2 f3
      go_wp2_with fail
      exact bodyPost_ret (v := .agg #[.int .i64 0, .string T]) (by simp [results, Try.results73, go_sem, eb, ec]) rfl (textFin HK3.out)
    | true =>
      have hbt : bigText true xs = ⟨#[45]⟩ ++ T := by unfold bigText; rw [if_pos hz, if_pos rfl, hT]
      rw [hz, hbt]
      clear hz hT hbt
      go_enter Try.func73, Try.ntmps73
      go_wp2_with fail
      refine (sBigFault_any _ _ _ _ _ _ (HS.out.rd.kept0 K0.out)).mono ?_
      rintro e w1 ⟨rfl, hk⟩
      rw [hz'.out]
      obtain ⟨c0, c1, c2, c3, f2, f3⟩ := resCellsT2 hk (by simp)
      have HK := Lib.hid (K0.out.trans0 hk)
      clear hk
      go_wp2_with fail
      refine (l1Text_any _ _ _ _ _ (HS.out.rd.kept0 HK.out) HN.out.canon hn).mono ?_
      rintro e w2 ⟨rfl, hk⟩
      rw [← HT.out]
      have d2 := hk.cell (p := ⟨w.heap.size + 1, 0, none⟩) c2 (by simp)
      have d3 := hk.cell (p := ⟨w.heap.size + 1, 1, none⟩) c3 (by simp)
      have g2 := hk.free' (p := ⟨w.heap.size + 1, 0, none⟩) c2 f2 (by simp)
      have g3 := hk.free' (p := ⟨w.heap.size + 1, 1, none⟩) c3 f3 (by simp)
      have HK3 := Lib.hid (HK.out.trans0 hk)
      obtain ⟨_, eb, ec⟩ := cells2 (.int .i64 0) (.string (⟨#[45]⟩ ++ T)) d2 d3
      clear hk c0 c1 c2 c3 f2 f3
      go_wp2_with fail
      exact bodyPost_ret (v := .agg #[.int .i64 0, .string (⟨#[45]⟩ ++ T)]) (by simp [results, Try.results73, go_sem, eb, ec]) rfl (textFin HK3.out)
  · have hbt : bigText b xs = ⟨#[]⟩ := by unfold bigText; rw [if_neg hz]
    rw [hbt]
    generalize hf : bigFault b xs = f at *
    have hne : (f == 0) = false := by rw [beq_eq_false_iff_ne]; exact hz
    have HF := Lib.hid hf
    clear hf hz hbt
    go_enter Try.func73, Try.ntmps73
    go_wp2_with fail
    refine (sBigFault_any _ _ _ _ _ _ (HS.out.rd.kept0 K0.out)).mono ?_
    rintro e w1 ⟨rfl, hk⟩
    rw [HF.out]
    obtain ⟨c0, c1, c2, c3, f2, f3⟩ := resCellsT2 hk (by simp)
    have HK := Lib.hid (K0.out.trans0 hk)
    obtain ⟨_, eb, ec⟩ := cells2 (.int .i64 f) (.string ⟨#[]⟩) c2 c3
    clear hk
    go_wp2_with fail
    exact bodyPost_ret (v := .agg #[.int .i64 f, .string ⟨#[]⟩]) (by simp [results, Try.results73, go_sem, eb, ec]) rfl (textFin HK.out)

end Go.Proofs.Ytijahllienkgiaa
