/-
  Contract of DivNats, the program's. Condition: the slices read as lists of numbers.
-/
import Derived.Test.YtgplghjameiciaaTake
import Derived.Test.YtgplghjameiciaaJ1
import Derived.Deep.DeepFit
namespace Go.Proofs.Ytgplghjameiciaa
open Go.RowKit

/-- A call that answers a code and two slices in memory of its own, apart from each other. -/
def DivR (w : World) (code : Int) (qs rs : List Int) (e : Ending) (w' : World) : Prop :=
  ∃ a c a' c', e = .returned (.agg #[.int .i64 code, .slice a qs.length c, .slice a' rs.length c']) ∧ Sl w' a qs.length c qs ∧ Sl w' a' rs.length c' rs ∧ Fr w.heap.size a qs.length ∧ Fr w.heap.size a' rs.length ∧
    (0 < qs.length → 0 < rs.length → ∀ x y, a = some x → a' = some y → x.block ≠ y.block) ∧ Kept [] w w'

def divCode (xs ys : List Int) : Int := if fault2 xs ys = 0 then (if ys.length = 0 then 6 else 0) else fault2 xs ys
def divQuot (xs ys : List Int) : List Int := if fault2 xs ys = 0 ∧ ys.length ≠ 0 then digits (val xs / val ys) else []
def divRest (xs ys : List Int) : List Int := if fault2 xs ys = 0 ∧ ys.length ≠ 0 then digits (val xs % val ys) else []

theorem cells3 {w : World} {g : Nat} {x y z : Value} (u v t : Value) (h0 : w.cell? ⟨g, 0, none⟩ = some x) (h1 : w.cell? ⟨g, 1, none⟩ = some y) (h2 : w.cell? ⟨g, 2, none⟩ = some z) :
    (((w.setCell ⟨g, 0, none⟩ u).setCell ⟨g, 1, none⟩ v).setCell ⟨g, 2, none⟩ t).cell? ⟨g, 0, none⟩ = some u ∧ (((w.setCell ⟨g, 0, none⟩ u).setCell ⟨g, 1, none⟩ v).setCell ⟨g, 2, none⟩ t).cell? ⟨g, 1, none⟩ = some v ∧ (((w.setCell ⟨g, 0, none⟩ u).setCell ⟨g, 1, none⟩ v).setCell ⟨g, 2, none⟩ t).cell? ⟨g, 2, none⟩ = some t := by
  obtain ⟨_, e2, e3⟩ := cells2 u v h0 h1
  have e4 : ((w.setCell ⟨g, 0, none⟩ u).setCell ⟨g, 1, none⟩ v).cell? ⟨g, 2, none⟩ = some z := by
    rw [World.cell?_setCell_other _ _ _ _ (by simp), World.cell?_setCell_other _ _ _ _ (by simp)]; exact h2
  exact ⟨by rw [World.cell?_setCell_other _ _ _ _ (by simp)]; exact e2, by rw [World.cell?_setCell_other _ _ _ _ (by simp)]; exact e3, World.cell?_setCell_same _ _ _ e4⟩
theorem resCellsD {w w1 : World} {L : List Nat} (hK : Kept L (w.alloc (.cells #[.int .i64 0, .slice none 0 0, .slice none 0 0] 32)) w1) (hL : w.heap.size ∉ L) :
    w1.cell? ⟨w.heap.size, 0, none⟩ = some (.int .i64 0) ∧ w1.cell? ⟨w.heap.size, 1, none⟩ = some (.slice none 0 0) ∧ w1.cell? ⟨w.heap.size, 2, none⟩ = some (.slice none 0 0) ∧ w1.frozen? ⟨w.heap.size, 0, none⟩ = false ∧ w1.frozen? ⟨w.heap.size, 1, none⟩ = false ∧ w1.frozen? ⟨w.heap.size, 2, none⟩ = false ∧ w.heap.size + 1 ≤ w1.heap.size :=
  ⟨hK.cell (p := ⟨w.heap.size, 0, none⟩) (by simp) hL, hK.cell (p := ⟨w.heap.size, 1, none⟩) (by simp) hL, hK.cell (p := ⟨w.heap.size, 2, none⟩) (by simp) hL, hK.free (p := ⟨w.heap.size, 0, none⟩) (by simp) (by simp) hL, hK.free (p := ⟨w.heap.size, 1, none⟩) (by simp) (by simp) hL, hK.free (p := ⟨w.heap.size, 2, none⟩) (by simp) (by simp) hL,
    by have := hK.size; simpa using this⟩
theorem divR_fin {w w1 : World} {a a' : Option Addr} {c c' : Nat} {qs rs : List Int} (code : Int) (hK : Kept [] (w.alloc (.cells #[.int .i64 0, .slice none 0 0, .slice none 0 0] 32)) w1) (hS : Sl w1 a qs.length c qs) (hS' : Sl w1 a' rs.length c' rs) (hF : Fr (w.heap.size + 1) a qs.length) (hF' : Fr (w.heap.size + 1) a' rs.length)
    (hd : 0 < qs.length → 0 < rs.length → ∀ x y, a = some x → a' = some y → x.block ≠ y.block) :
    DivR w code qs rs (.returned (.agg #[.int .i64 code, .slice a qs.length c, .slice a' rs.length c'])) (((w1.setCell ⟨w.heap.size, 0, none⟩ (.int .i64 code)).setCell ⟨w.heap.size, 1, none⟩ (.slice a qs.length c)).setCell ⟨w.heap.size, 2, none⟩ (.slice a' rs.length c')) :=
  ⟨a, c, a', c', rfl, hS.kept ((((Kept.refl [w.heap.size] w1).setCell _ _ (by simp)).setCell _ _ (by simp)).setCell _ _ (by simp)) (fun hn y hy => by have := hF hn y hy; simp; omega),
    hS'.kept ((((Kept.refl [w.heap.size] w1).setCell _ _ (by simp)).setCell _ _ (by simp)).setCell _ _ (by simp)) (fun hn y hy => by have := hF' hn y hy; simp; omega), hF.mono (by omega), hF'.mono (by omega), hd,
    (((((Kept.refl [] w).alloc _).trans0 hK).setCell _ _ (by simp)).setCell _ _ (by simp)).setCell _ _ (by simp)⟩

/-- What stands when the division is done. -/
theorem div_end {w w3 : World} {g1 g2 n : Nat} {R Q xs ys : List Int} (hK : Kept [] (w.alloc (.cells #[.int .i64 0, .slice none 0 0, .slice none 0 0] 32)) w3) (hR : Blk w3 g1 R) (hQ : Blk w3 g2 Q) (hRl : R.length = n + 1) (hQl : Q.length = n) (hn : n ≤ 40)
    (hv : val Q = val xs / val ys ∧ val R = val xs % val ys) (hg1 : w.heap.size + 1 ≤ g1) (hg2 : w.heap.size + 1 ≤ g2) (hne : g1 ≠ g2)
    (hq : digits (val Q) = Q.take (digits (val Q)).length) (hql : (digits (val Q)).length ≤ n) (hr : digits (val R) = R.take (digits (val R)).length) (hrl : (digits (val R)).length ≤ n + 1) :
    DivR w 0 (digits (val xs / val ys)) (digits (val xs % val ys)) (.returned (.agg #[.int .i64 0, .slice (some ⟨g2, 0, none⟩) (digits (val xs / val ys)).length n, .slice (some ⟨g1, 0, none⟩) (digits (val xs % val ys)).length (n + 1)]))
      (((w3.setCell ⟨w.heap.size, 0, none⟩ (.int .i64 0)).setCell ⟨w.heap.size, 1, none⟩ (.slice (some ⟨g2, 0, none⟩) (digits (val xs / val ys)).length n)).setCell ⟨w.heap.size, 2, none⟩ (.slice (some ⟨g1, 0, none⟩) (digits (val xs % val ys)).length (n + 1))) := by
  rw [← hv.1, ← hv.2]
  have s1 := Sl.ofBlk hQ (by omega)
  have s2 := Sl.ofBlk hR (by omega)
  rw [hQl] at s1
  rw [hRl] at s2
  have p1 := s1.front _ hql
  have p2 := s2.front _ hrl
  rw [← hq] at p1
  rw [← hr] at p2
  exact divR_fin 0 hK p1 p2 (fun _ x hx => by cases hx; exact hg2) (fun _ x hx => by cases hx; exact hg1) (fun _ _ x y hx hy => by cases hx; cases hy; exact fun e => hne e.symm)

set_option maxHeartbeats 4000000 in
set_option maxRecDepth 100000 in
theorem DivNats_any (a b : Option Addr) (n c m c' : Nat) (xs ys : List Int) (w : World) (h : Rd w a n xs) (h' : Rd w b m ys) :
    Calls Try.prog 29 #[.slice a n c, .slice b m c'] w (DivR w (divCode xs ys) (divQuot xs ys) (divRest xs ys)) := by
  have k0 : Kept [] w (w.alloc (.cells #[.int .i64 0, .slice none 0 0, .slice none 0 0] 32)) := (Kept.refl [] w).alloc _
  have HK0 := Lib.hid k0
  have HR := Lib.hid h
  have HR' := Lib.hid h'
  have HL := Lib.hid h.1
  have HL' := Lib.hid h'.1
  clear h h' k0
  by_cases hz : fault2 xs ys = 0
  · have hz' := Lib.hid hz
    have hx := Lib.hid (natFault_zero (fault2_zero hz).1)
    have hy := Lib.hid (natFault_zero (fault2_zero hz).2)
    have hn40 : n ≤ 40 := by have := hx.out.len; rw [HL.out] at this; exact this
    have hm40 : m ≤ 40 := by have := hy.out.len; rw [HL'.out] at this; exact this
    have hxl : Hid (AllLimbs xs) := hx.out.limb
    have hyl : Hid (AllLimbs ys) := hy.out.limb
    by_cases hm0 : m = 0
    · have e1 : divCode xs ys = 6 := by unfold divCode; rw [if_pos hz, if_pos (by rw [HL'.out]; exact hm0)]
      have e2 : divQuot xs ys = [] := by unfold divQuot; rw [if_neg (fun h => h.2 (by rw [HL'.out]; exact hm0))]
      have e3 : divRest xs ys = [] := by unfold divRest; rw [if_neg (fun h => h.2 (by rw [HL'.out]; exact hm0))]
      rw [e1, e2, e3]
      clear e1 e2 e3 hz
      subst hm0
      go_enter Try.func29, Try.ntmps29
      go_wp2_with fail
      refine (firstNatFault_at _ _ _ _ _ _ _ _ _ _ (by simp) (HR.out.kept0 HK0.out) (HR'.out.kept0 HK0.out)).mono ?_
      rintro e w1 ⟨rfl, hq⟩
      rw [hz'.out]
      obtain ⟨hc0, hc1, hc2, hf0, hf1, hf2, hsz⟩ := resCellsD hq (by simp)
      obtain ⟨ea, eb, ec⟩ := cells3 (.int .i64 6) (.slice none 0 0) (.slice none 0 0) hc0 hc1 hc2
      have HQ := Lib.hid hq
      clear hq
      go_wp2_with fail
      exact bodyPost_ret (v := .agg #[.int .i64 6, .slice none 0 0, .slice none 0 0]) (by simp [results, Try.results29, go_sem, ea, eb, ec]) rfl (divR_fin (qs := []) (rs := []) 6 HQ.out (Sl.nil _) (Sl.nil _) (fun h => by simp at h) (fun h => by simp at h) (fun h => by simp at h))
    have e1 : divCode xs ys = 0 := by unfold divCode; rw [if_pos hz, if_neg (by rw [HL'.out]; exact hm0)]
    have e2 : divQuot xs ys = digits (val xs / val ys) := by unfold divQuot; rw [if_pos ⟨hz, by rw [HL'.out]; exact hm0⟩]
    have e3 : divRest xs ys = digits (val xs % val ys) := by unfold divRest; rw [if_pos ⟨hz, by rw [HL'.out]; exact hm0⟩]
    rw [e1, e2, e3]
    have hmz : ((m : Int) == 0) = false := by rw [beq_eq_false_iff_ne]; omega
    have hm1 : 0 < m := by omega
    have htop : Hid (ys.getD (m - 1) 0 ≠ 0) := by have := hy.out.top (by rw [HL'.out]; exact hm1); rw [HL'.out] at this; exact this
    have hV0 : Hid (0 < val ys) := (canon_nonneg hy.out.canon).2 (fun e => by have h9 := HL'.out; rw [e] at h9; simp at h9; omega)
    have hbb := Lib.hid (show ∀ x, b = some x → x.block < w.heap.size from fun x hx => by obtain ⟨g9, off9, he, hc⟩ := HR'.out.2.2 0 hm1; rw [hx] at he; cases he; have := World.block_lt_of_cell? _ _ hc; simpa using this)
    clear e1 e2 e3 hz hm0
    obtain ⟨i0, hi, hz0, hz1, hz2⟩ := info_parts Try.info64
    have hmk1 := fun (w : World) => run_make_row (P := Try.prog) 22 2 i0 (.int .i64 0) Try.underlying22 hi hz0 hz1 rfl .i64 .i64 (n + 1) (by rw [hz2]; omega) (by omega) w
    have hmk2 := fun (w : World) => run_make_row (P := Try.prog) 22 2 i0 (.int .i64 0) Try.underlying22 hi hz0 hz1 rfl .i64 .i64 n (by rw [hz2]; omega) (by omega) w
    have ec : ((n + 1 : Nat) : Int) = (n : Int) + 1 := by omega
    rw [ec, made_zeros] at hmk1
    rw [made_zeros] at hmk2
    clear ec hi hz0 hz1 hz2
    go_enter Try.func29, Try.ntmps29
    go_wp2_with fail
    refine (firstNatFault_at _ _ _ _ _ _ _ _ _ _ (by simp) (HR.out.kept0 HK0.out) (HR'.out.kept0 HK0.out)).mono ?_
    rintro e w1 ⟨rfl, hq⟩
    rw [hz'.out]
    have hsz1 : w.heap.size + 1 ≤ w1.heap.size := by have := hq.size; simpa using this
    have HQ := Lib.hid (HK0.out.trans0 hq)
    have HQ1 := Lib.hid hq
    clear hq
    go_wp2_with (with_reducible refine copy1 rfl (.tmp 25) (.tmp 26) rfl w1.heap.size (n + 1) (n + 1) _ _ _ rfl rfl (List.replicate (n + 1) 0) xs ?_ ?_ ?_ ?_ ?_)
    · exact heap_alloc_new w1 _
    · exact (HR.out.kept0 HQ.out).kept0 ((Kept.refl [] w1).alloc _)
    · omega
    · simp
    intro w2 hb2 hk2
    rw [over_zeros, HL.out] at hb2
    have hl1 : w1.heap.size < w2.heap.size := hb2.lt
    have HB2 := Lib.hid hb2
    have HK2 := Lib.hid ((HQ.out.alloc (.cells (ints (List.replicate (n + 1) 0)) 2)).trans1 hk2 (fun h9 => by have := HQ.out.size; omega))
    have HK21 := Lib.hid ((HQ1.out.alloc (.cells (ints (List.replicate (n + 1) 0)) 2)).trans1 hk2 (fun h9 => by have := HQ1.out.size; omega))
    have hsz2 := HQ.out.size
    clear hb2 hk2
    have hB3 : Blk (w2.alloc (.cells (ints (List.replicate n 0)) 2)) w2.heap.size (List.replicate n 0) := Blk.new w2 _
    have HB3 := Lib.hid hB3
    have HB23 := Lib.hid (HB2.out.alloc (.cells (ints (List.replicate n 0)) 2))
    have HK3 := Lib.hid (HK21.out.alloc (.cells (ints (List.replicate n 0)) 2))
    have HKw3 := Lib.hid (HK2.out.alloc (.cells (ints (List.replicate n 0)) 2))
    clear hB3
    by_cases hnm : m ≤ n
    · have hst := DivAt.start n hxl.out hyl.out (by rw [HL'.out]; exact hm1) (by rw [HL'.out]; exact htop.out) (by rw [HL.out, HL'.out]; exact hnm)
      rw [HL.out, HL'.out] at hst
      have HST := Lib.hid hst
      clear hst
      have es : IntKind.i64.wrap ((n : Int) - (m : Int)) = (n : Int) - (m : Int) := IntWalk.i64_in _ (by omega)
      go_wp2_with fail
      clear hmk1 hmk2
      go_loopw [8] (fun i wr => ∃ (k : Nat) (R Q : List Int), k + m ≤ n + 1 ∧ i = .int .i64 ((k : Int) - 1) ∧ Hid (DivAt xs ys n k R Q) ∧ Hid (Blk wr w1.heap.size R) ∧ Hid (Blk wr w2.heap.size Q) ∧ Hid (Kept [] w wr) ∧ Hid (Kept [] (w.alloc (.cells #[.int .i64 0, .slice none 0 0, .slice none 0 0] 32)) wr)) (fun i _ => (intOf i + 1).toNat)
      case atStart => exact ⟨n - m + 1, _, _, by omega, by congr 1; omega, HST.out, HB23.out, HB3.out, HKw3.out, HK3.out⟩
      case round =>
        obtain ⟨k, R, Q, hk, rfl, hD, hBR, hBQ, hK, hK1⟩ := hrel
        by_cases hlt : 0 < k
        · obtain ⟨j, rfl⟩ : ∃ j, k = j + 1 := ⟨k - 1, by omega⟩
          have ej : (((j + 1 : Nat) : Int) - 1) = (j : Int) := by omega
          rw [ej]
          have hRl := hD.out.length (by rw [HL.out, HL'.out]; omega)
          have hQl := hD.out.limbs.2.2
          rw [HL.out] at hRl
          obtain ⟨ss, s1, s2, s3, s4, s5⟩ := hD.out.window (by rw [HL.out, HL'.out]; omega) (by omega) hV0.out
          rw [HL'.out] at s1 s3 s5
          have S1 := Lib.hid s1
          have S2 := Lib.hid s2
          have S3 := Lib.hid s3
          have S4 := Lib.hid s4
          have S5 := Lib.hid s5
          have HRL := Lib.hid hRl
          have HQL := Lib.hid hQl
          have HBR := Lib.hid hBR.out
          have HBQ := Lib.hid hBQ.out
          have HKA := Lib.hid hK.out
          have HKB := Lib.hid hK1.out
          have hj1 : j + m ≤ n := by omega
          have hj2 : j < n := by omega
          clear hRl hQl s1 s2 s3 s4 s5 hD hBR hBQ hK hK1 ej hk hlt
          go_wp2_with fail
          rw [show j + m + 1 - j = m + 1 by omega]
          refine (takeQuotLimb_any w1.heap.size j (n + 1 - j) R ss _ _ _ ys _ HBR.out (by rw [HRL.out]; omega) S1.out S3.out S2.out (by omega) (by omega) hm1 (by omega) (by omega) (HR'.out.kept0 HKA.out) hyl.out htop.out (fun x hx => by have := hbb.out x hx; omega) S4.out).mono ?_
          rintro e w3 ⟨out, ds, rfl, p1, p2, p3, p4, p5, p6⟩
          have hD2 : Hid (DivAt xs ys n j ds (Q.set j (val ss / val ys))) := S5.out out ds hyl.out p2 p1 p3 p4
          have hbq := p6.blk HBQ.out (by simp; omega)
          have hcell := hbq.cell (j := j) (by rw [HQL.out]; exact hj2)
          have hfro := hbq.frozen j
          have HQ2 := Lib.hid (hbq.set j (val ss / val ys))
          have HR2 := Lib.hid (p5.other ⟨w2.heap.size, j, none⟩ (.int .i64 (val ss / val ys)) (by simp; omega))
          have HKA2 := Lib.hid ((HKA.out.trans1 p6 (fun h9 => by omega)).setCell ⟨w2.heap.size, j, none⟩ (.int .i64 (val ss / val ys)) (fun h9 => by simp at h9; omega))
          have HKB2 := Lib.hid ((HKB.out.trans1 p6 (fun h9 => by simp at h9; omega)).setCell ⟨w2.heap.size, j, none⟩ (.int .i64 (val ss / val ys)) (fun h9 => by simp at h9; omega))
          generalize val ss / val ys = qv at *
          clear p1 p2 p3 p4 p5 p6 hbq
          go_wp2
          go_roundw
          case rel => exact ⟨j, ds, _, by omega, rfl, hD2, HR2.out, HQ2.out, HKA2.out, HKB2.out⟩
          case measure => simp [intOf]
        · obtain rfl : k = 0 := by omega
          have hRl := hD.out.length (by rw [HL.out, HL'.out]; omega)
          obtain ⟨hRa, hQa, hQl⟩ := hD.out.limbs
          rw [HL.out] at hRl
          have hvv := hD.out.done
          have HQa := Lib.hid hQa
          have HRa := Lib.hid hRa
          have HQl := Lib.hid hQl
          have HRl := Lib.hid hRl
          have HVV := Lib.hid hvv
          have sq : Sl wr (some ⟨w2.heap.size, 0, none⟩) n n Q := by have h9 := Sl.ofBlk hBQ.out (by rw [hQl]; omega); rw [hQl] at h9; exact h9
          have sr : Sl wr (some ⟨w1.heap.size, 0, none⟩) (n + 1) (n + 1) R := by have h9 := Sl.ofBlk hBR.out (by rw [hRl]; omega); rw [hRl] at h9; exact h9
          have SQ := Lib.hid sq
          have SR := Lib.hid sr
          have HBR := Lib.hid hBR.out
          have HBQ := Lib.hid hBQ.out
          have HKB := Lib.hid hK1.out
          clear hQa hRa hQl hRl hvv sq sr hD hBR hBQ hK hK1
          go_wp2_with fail
          refine (trimLimbs_any _ _ _ _ _ SQ.out.rd (Nat.le_refl _) (by omega) HQa.out).mono ?_
          rintro e w4 ⟨rfl, t1, t2, rfl⟩
          rw [HVV.out.1] at t1 t2 ⊢
          have T1 := Lib.hid t1
          have T2 := Lib.hid t2
          clear t1 t2
          go_wp2_with fail
          refine (trimLimbs_any _ _ _ _ _ SR.out.rd (Nat.le_refl _) (by omega) HRa.out).mono ?_
          rintro e w4 ⟨rfl, t1, t2, rfl⟩
          rw [HVV.out.2] at t1 t2 ⊢
          have T3 := Lib.hid t1
          have T4 := Lib.hid t2
          clear t1 t2
          obtain ⟨hc0, hc1, hc2, hf0, hf1, hf2, hsz⟩ := resCellsD HKB.out (by simp)
          obtain ⟨ea, eb, ec⟩ := cells3 (.int .i64 0) (.slice (some ⟨w2.heap.size, 0, none⟩) (digits (val xs / val ys)).length n) (.slice (some ⟨w1.heap.size, 0, none⟩) (digits (val xs % val ys)).length (n + 1)) hc0 hc1 hc2
          go_wp2_with fail
          exact bodyPost_ret (v := .agg #[.int .i64 0, .slice (some ⟨w2.heap.size, 0, none⟩) (digits (val xs / val ys)).length n, .slice (some ⟨w1.heap.size, 0, none⟩) (digits (val xs % val ys)).length (n + 1)]) (by simp [results, Try.results29, go_sem, ea, eb, ec]) rfl (div_end HKB.out HBR.out HBQ.out HRl.out HQl.out hn40 HVV.out hsz1 (by omega) (by omega) (by rw [HVV.out.1]; exact T1.out) (by rw [HVV.out.1]; exact T2.out) (by rw [HVV.out.2]; exact T3.out) (by rw [HVV.out.2]; exact T4.out))
    · have hlt : val xs < val ys := val_lt_len hx.out hy.out (by rw [HL.out, HL'.out]; omega)
      have hx0 : 0 ≤ val xs := val_nonneg hx.out
      have hvv : val (List.replicate n (0 : Int)) = val xs / val ys ∧ val (xs ++ List.replicate (n + 1 - n) 0) = val xs % val ys := by
        rw [val_zeros, val_pad, Int.ediv_eq_zero_of_lt hx0 hlt, Int.emod_eq_of_lt hx0 hlt]; exact ⟨rfl, rfl⟩
      have es : IntKind.i64.wrap ((n : Int) - (m : Int)) = (n : Int) - (m : Int) := IntWalk.i64_in _ (by omega)
      have eneg : ¬ (0 : Int) ≤ (n : Int) - (m : Int) := by omega
      have HVV := Lib.hid hvv
      clear hlt hx0 hvv
      go_wp2_with fail
      clear hmk1 hmk2
      go_loopw [8] (fun i wr => i = .int .i64 ((n : Int) - (m : Int)) ∧ Hid (Blk wr w1.heap.size (xs ++ List.replicate (n + 1 - n) 0)) ∧ Hid (Blk wr w2.heap.size (List.replicate n 0)) ∧ Hid (Kept [] (w.alloc (.cells #[.int .i64 0, .slice none 0 0, .slice none 0 0] 32)) wr)) (fun _ _ => 0)
      case atStart => exact ⟨rfl, HB23.out, HB3.out, HK3.out⟩
      case round =>
        obtain ⟨rfl, hBR, hBQ, hK1⟩ := hrel
        obtain ⟨Q, hQe⟩ : ∃ Q, Q = List.replicate n (0 : Int) := ⟨_, rfl⟩
        obtain ⟨R, hRe⟩ : ∃ R, R = xs ++ List.replicate (n + 1 - n) (0 : Int) := ⟨_, rfl⟩
        rw [← hQe] at hBQ HVV
        rw [← hRe] at hBR HVV
        have hvv := HVV.out
        have hQl : Q.length = n := by rw [hQe]; simp
        have hRl : R.length = n + 1 := by rw [hRe]; simp [HL.out]
        have hQa : AllLimbs Q := by rw [hQe]; exact AllLimbs.zeros _
        have hRa : AllLimbs R := by rw [hRe]; exact hxl.out.append (AllLimbs.zeros _)
        clear hQe hRe HVV
        have HQa := Lib.hid hQa
        have HRa := Lib.hid hRa
        have HQl := Lib.hid hQl
        have HRl := Lib.hid hRl
        have HVV := Lib.hid hvv
        have sq : Sl wr (some ⟨w2.heap.size, 0, none⟩) n n Q := by have h9 := Sl.ofBlk hBQ.out (by rw [hQl]; omega); rw [hQl] at h9; exact h9
        have sr : Sl wr (some ⟨w1.heap.size, 0, none⟩) (n + 1) (n + 1) R := by have h9 := Sl.ofBlk hBR.out (by rw [hRl]; omega); rw [hRl] at h9; exact h9
        have SQ := Lib.hid sq
        have SR := Lib.hid sr
        have HBR := Lib.hid hBR.out
        have HBQ := Lib.hid hBQ.out
        have HKB := Lib.hid hK1.out
        clear hQa hRa hQl hRl hvv sq sr hBR hBQ hK1
        go_wp2_with fail
        refine (trimLimbs_any _ _ _ _ _ SQ.out.rd (Nat.le_refl _) (by omega) HQa.out).mono ?_
        rintro e w4 ⟨rfl, t1, t2, rfl⟩
        rw [HVV.out.1] at t1 t2 ⊢
        have T1 := Lib.hid t1
        have T2 := Lib.hid t2
        clear t1 t2
        go_wp2_with fail
        refine (trimLimbs_any _ _ _ _ _ SR.out.rd (Nat.le_refl _) (by omega) HRa.out).mono ?_
        rintro e w4 ⟨rfl, t1, t2, rfl⟩
        rw [HVV.out.2] at t1 t2 ⊢
        have T3 := Lib.hid t1
        have T4 := Lib.hid t2
        clear t1 t2
        obtain ⟨hc0, hc1, hc2, hf0, hf1, hf2, hsz⟩ := resCellsD HKB.out (by simp)
        obtain ⟨ea, eb, ec⟩ := cells3 (.int .i64 0) (.slice (some ⟨w2.heap.size, 0, none⟩) (digits (val xs / val ys)).length n) (.slice (some ⟨w1.heap.size, 0, none⟩) (digits (val xs % val ys)).length (n + 1)) hc0 hc1 hc2
        go_wp2_with fail
        exact bodyPost_ret (v := .agg #[.int .i64 0, .slice (some ⟨w2.heap.size, 0, none⟩) (digits (val xs / val ys)).length n, .slice (some ⟨w1.heap.size, 0, none⟩) (digits (val xs % val ys)).length (n + 1)]) (by simp [results, Try.results29, go_sem, ea, eb, ec]) rfl (div_end HKB.out HBR.out HBQ.out HRl.out HQl.out hn40 HVV.out hsz1 (by omega) (by omega) (by rw [HVV.out.1]; exact T1.out) (by rw [HVV.out.1]; exact T2.out) (by rw [HVV.out.2]; exact T3.out) (by rw [HVV.out.2]; exact T4.out))
  · have e1 : divCode xs ys = fault2 xs ys := if_neg hz
    have e2 : divQuot xs ys = [] := if_neg (fun h => hz h.1)
    have e3 : divRest xs ys = [] := if_neg (fun h => hz h.1)
    rw [e1, e2, e3]
    clear e1 e2 e3
    go_enter Try.func29, Try.ntmps29
    go_wp2_with fail
    refine (firstNatFault_at _ _ _ _ _ _ _ _ _ _ (by simp) (HR.out.kept0 HK0.out) (HR'.out.kept0 HK0.out)).mono ?_
    rintro e w1 ⟨rfl, hq⟩
    generalize hf : fault2 xs ys = f at *
    have hne : (f == 0) = false := by rw [beq_eq_false_iff_ne]; exact hz
    obtain ⟨hc0, hc1, hc2, hf0, hf1, hf2, hsz⟩ := resCellsD hq (by simp)
    obtain ⟨ea, eb, ec⟩ := cells3 (.int .i64 f) (.slice none 0 0) (.slice none 0 0) hc0 hc1 hc2
    have HQ := Lib.hid hq
    have HF := Lib.hid hf
    clear hf hz hq
    go_wp2_with fail
    exact bodyPost_ret (v := .agg #[.int .i64 f, .slice none 0 0, .slice none 0 0]) (by simp [results, Try.results29, go_sem, ea, eb, ec]) rfl (divR_fin (qs := []) (rs := []) f HQ.out (Sl.nil _) (Sl.nil _) (fun h => by simp at h) (fun h => by simp at h) (fun h => by simp at h))

end Go.Proofs.Ytgplghjameiciaa
