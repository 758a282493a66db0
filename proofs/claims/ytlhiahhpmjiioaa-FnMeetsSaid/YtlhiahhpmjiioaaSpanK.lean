/-
  Contracts of the model's l3Least and l3Most over a row of bigs. Conditions: the row's bigs have no fault.
-/
import Derived.Test.YtlhiahhpmjiioaaSpanJ
import Derived.Test.YtlhiahhpmjiioaaJ2
namespace Go.Proofs.Ytlhiahhpmjiioaa
open Go.RowKit

/-- A whole slice appended to one that the call owns, as a step of a region that draws its order. -/
theorem step_appS {w : World} {ops : Array Oper} {o : Oper} {a : Act} {K : Act → World → Prop} {Q : Exit → Act → World → Prop} {E : Prop} (hgd : o.guard = none) (s x : Operand)
    (ho : o.op = .call { callee := .builtin .append, args := #[s, x], argTypes := #[24, 24] })
    (base : Nat) (v : Value) (xs : List Int) (hs : a.eval s = v) (hown : Ow base w v xs)
    (b : Option Addr) (m c : Nat) (ys : List Int) (hx : a.eval x = .slice b m c) (hr : Rd w b m ys) (hbc : b = none → m = 0 ∧ c = 0)
    (hlen : xs.length + m ≤ 1099511627776) (hbase : base ≤ w.heap.size)
    (h : ∀ v' w', Ow base w' v' (xs ++ ys) → w.grownBy w' v.ownBlock → K (a.put o.dst v') w') :
    if Region.wanted o (yielded ops a.tmps) = true then Oper.wp Try.prog o a w K Q else E := by
  have hw : Region.wanted o (yielded ops a.tmps) = true := by simp [Region.wanted, hgd]
  rw [if_pos hw]
  obtain ⟨i0, hi, hz0, hz1, hz2⟩ := info_parts Try.info64
  have hyl := hr.1
  cases b with
  | none =>
    obtain ⟨rfl, rfl⟩ := hbc rfl
    have hy : ys = [] := List.eq_nil_of_length_eq_zero hyl
    subst hy
    have hrun := run_append_owned_none (P := Try.prog) (w := w) base 24 o.type 2 i0 1 Try.underlying24 hi v xs.length _ hown
    unfold Oper.wp
    simp [execOp, ho, resolve, invoke, builtin, hs, hx, hrun, Result.andThen]
    exact h v w (by rw [List.append_nil]; exact hown) (World.grownBy.refl w _)
  | some ad =>
    refine wp_append_own w s x 24 ho base 2 i0 (.int .i64 0) 1 8 Try.underlying24 hi hz0 hz1 hz2 rfl (by decide) v xs.length _ hs hown ad m c (ys.map (Value.int .i64)) hx (by rw [List.length_map, hyl, Nat.mul_one]) ?_ ?_ ?_ ?_ hbase ?_
    · intro j u hj
      obtain ⟨hj', rfl⟩ := getD_map hj
      obtain ⟨g2, off2, he, hc⟩ := hr.2.2 j (by omega)
      cases he
      rw [Addr.add_lit]; exact hc
    · exact fun v hv => by obtain ⟨_, _, rfl⟩ := List.mem_map.1 hv; rfl
    · unfold maxLen; omega
    · omega
    · intro v' w' h1 h2 _
      exact h v' w' (by unfold Ow; rw [List.length_append, List.map_append, hyl]; exact h1) h2

theorem bigV_pack {w w4 : World} {c : BE} {a9 : Option Addr} {c9 : Nat} {v0 v1 : Value} (h1 : isNeg c.z = c.neg) (h2 : mag c.z = c.limbs) (hl : c.limbs.length = c.len) (hS : Sl w4 a9 ([] ++ c.limbs).length c9 ([] ++ c.limbs)) (hF : Fr (w.heap.size + 1) a9 ([] ++ c.limbs).length) (hK : Kept [] w w4) :
    BigV w.heap.size w c.z (.returned (.agg #[.bool c.neg, .slice a9 c.len c9])) ((w4.setCell ⟨w.heap.size, 0, none⟩ v0).setCell ⟨w.heap.size, 1, none⟩ v1) := by
  rw [List.nil_append] at hS hF
  refine ⟨a9, c9, by rw [h1, h2, hl], ?_, ?_, (hK.setCell _ _ (by simp)).setCell _ _ (by simp)⟩
  · rw [h2]; exact hS.kept (((Kept.refl [w.heap.size] w4).setCell _ _ (by simp)).setCell _ _ (by simp)) (fun hn x hx => by have := hF hn x hx; simp; omega)
  · rw [h2]; exact hF.mono (by omega)

set_option maxHeartbeats 4000000 in
set_option maxRecDepth 20000 in
theorem l3Least_any (g : Nat) (e : BE) (t : List BE) (w : World) (h : RowB w g (e :: t)) (ho : OkB w (e :: t)) (hl : t.length < 100) :
    Calls Try.prog 33 #[.slice (some ⟨g, 0, none⟩) (t.length + 1) (t.length + 1)] w (BigV w.heap.size w (pickF ltZ e t).z) := by
  have HR := Lib.hid h
  have HO := Lib.hid ho
  have hglt : g < w.heap.size := World.block_lt_of_cell? w _ (h 0 (by simp)).1
  have OKW := Lib.hid (show ∀ u, u ∈ (e :: t) → 0 < u.len → ∀ v, u.ptr = some v → v.block < w.heap.size from fun u hu => (ho u hu).1.lt)
  have hr0 := h 0 (by simp)
  obtain ⟨q0, q1⟩ := hr0
  simp only [Nat.zero_mul, Nat.zero_add, List.getElem_cons_zero] at q0 q1
  have q0' := alloc_cell (o := .cells #[.bool false, .slice none 0 0] 26) q0
  have q1' := alloc_cell (o := .cells #[.bool false, .slice none 0 0] 26) q1
  clear h ho q0 q1
  go_enter Try.func33, Try.ntmps33
  go_wp2_with fail
  clear q0' q1'
  generalize hW : ((w.alloc (.cells #[.bool false, .slice none 0 0] 26)).alloc (.cells #[.bool e.neg, .slice e.ptr e.len e.cap] 26)) = ww0
  have hkk : Kept [] ((w.alloc (.cells #[.bool false, .slice none 0 0] 26)).alloc (.cells #[.bool e.neg, .slice e.ptr e.len e.cap] 26)) ww0 := by rw [hW]; exact Kept.refl _ _
  have zzA : w.heap.size + 1 + 1 = ww0.heap.size := by rw [← hW]; simp
  have hk := hkk.peel.peel
  have R0 := Lib.hid (hkk.peel.top (g := w.heap.size) (by simp) (by simp) 0 (v := .bool false) rfl)
  have R1 := Lib.hid (hkk.peel.top (g := w.heap.size) (by simp) (by simp) 1 (v := .slice none 0 0) rfl)
  have L0 := Lib.hid (hkk.top (g := w.heap.size + 1) (by simp) (by simp) 0 (v := .bool e.neg) rfl)
  have L1 := Lib.hid (hkk.top (g := w.heap.size + 1) (by simp) (by simp) 1 (v := .slice e.ptr e.len e.cap) rfl)
  replace HR := Lib.hid (HR.out.kept hk (by simp))
  replace HO := Lib.hid (HO.out.kept hk)
  have KT := Lib.hid hk
  clear hk hkk hW
  go_loopw [4] (fun i wr => ∃ (k : Nat) (c : BE), 1 ≤ k ∧ k ≤ t.length + 1 ∧ i = .int .i64 k ∧ Hid (c = pickF ltZ e (t.take (k - 1))) ∧ Hid (Kept [w.heap.size + 1] ww0 wr) ∧
      Hid (OkB wr (e :: t)) ∧
      Hid (wr.cell? ⟨w.heap.size + 1, 0, none⟩ = some (.bool c.neg) ∧ wr.cell? ⟨w.heap.size + 1, 1, none⟩ = some (.slice c.ptr c.len c.cap)) ∧
      Hid (wr.frozen? ⟨w.heap.size + 1, 0, none⟩ = false ∧ wr.frozen? ⟨w.heap.size + 1, 1, none⟩ = false)) (fun i _ => t.length + 1 - (intOf i).toNat)
  case atStart => exact ⟨1, e, by omega, by omega, rfl, rfl, Kept.refl _ _, HO.out, ⟨L0.out.1, L1.out.1⟩, L0.out.2.1, L1.out.2.1⟩
  case round =>
    obtain ⟨k, c, hk1, hk, rfl, hP, hK, hO, hC, hF⟩ := hrel
    have hcm : c ∈ (e :: t) := by
      rw [hP.out]
      rcases pick_mem ltZ (t.take (k - 1)) e with h | h
      · rw [h]; exact List.mem_cons_self
      · exact List.mem_cons_of_mem _ (List.mem_of_mem_take h)
    have HCM := Lib.hid hcm
    clear hcm
    by_cases hlt : k < t.length + 1
    · have hrow := (HR.out.kept hK.out (by simp; omega)) k (by simpa using hlt)
      have hmem : (e :: t)[k] ∈ (e :: t) := List.getElem_mem _
      have hnth : ∀ h9 : k - 1 < t.length, (e :: t)[k] = t[k - 1]'h9 := fun h9 => by
        obtain ⟨j, rfl⟩ : ∃ j, k = j + 1 := ⟨k - 1, by omega⟩
        rfl
      generalize (e :: t)[k] = b at hrow hmem hnth
      obtain ⟨r0, r1⟩ := hrow
      have hsnoc : pickF ltZ e (t.take (k + 1 - 1)) = if ltZ b.z c.z = true then b else c := by
        rw [show k + 1 - 1 = k - 1 + 1 by omega, take_get (by omega), pick_snoc, ← hnth (by omega), ← hP.out]
      have HM := Lib.hid hmem
      have HS := Lib.hid hsnoc
      have hks : IntKind.i64.wrap ((k : Int) + 1) = (k : Int) + 1 := IntWalk.i64_in _ (by omega)
      obtain ⟨v, hv⟩ : ∃ v : Int, v = cmpV b.z c.z := ⟨_, rfl⟩
      have HV := Lib.hid hv
      obtain ⟨r, hr⟩ : ∃ r, r = ltZ b.z c.z := ⟨_, rfl⟩
      have HD := Lib.hid hr.symm
      have hd : decide (v < 0) = r := by rw [hv, cmpV_neg]; exact hr.symm
      have cx := hC.out.1
      have cy := hC.out.2
      have f0 := hF.out.1
      have f1 := hF.out.2
      have i0 : (0 : Int) ≤ (k : Int) := by omega
      have i1 : (k : Int) < (t.length : Int) + 1 := by omega
      clear hmem hnth hsnoc hv hr hP
      go_upto_region 5 with fail
      go_region_held3 (fun w' => w'.cell? ⟨g, k * 2, none⟩ = some (.bool b.neg) ∧ w'.cell? ⟨g, k * 2 + 1, none⟩ = some (.slice b.ptr b.len b.cap) ∧ w'.cell? ⟨w.heap.size + 1, 0, none⟩ = some (.bool c.neg) ∧ w'.cell? ⟨w.heap.size + 1, 1, none⟩ = some (.slice c.ptr c.len c.cap) ∧ Hid (Kept [] wr w'))
        ((go_split_ands; (try refine ⟨?_, ?_, ?_, ?_, ?_⟩) <;> with_reducible first | exact Lib.hid ((Kept.refl _ _).drew) | exact drew_cell (by assumption) | exact Lib.hid (Kept.trans0 (Hid.out (by assumption)) (by assumption)) | exact Kept.cell (by assumption) (by assumption) (by simp)))
        (first
          | (go_at_call 34; go_split_ands; refine (l2Compare_any _ _ _ _ _ _ _ _ _ _ _ (hO.out b HM.out).2.n40 (hO.out c HCM.out).2.n40 ((hO.out b HM.out).1.kept0 (Kept.refl [] _).drew) ((hO.out c HCM.out).1.kept0 (Kept.refl [] _).drew)).mono ?_; rintro e9 w2 ⟨rfl, hk2⟩; rw [show cmpV (sv b.neg b.limbs) (sv c.neg c.limbs) = v from HV.out.symm]; have cx2 := hk2.undrew.cell (p := ⟨w.heap.size + 1, 0, none⟩) cx (by simp); have cy2 := hk2.undrew.cell (p := ⟨w.heap.size + 1, 1, none⟩) cy (by simp); have g0 := hk2.undrew.free' (p := ⟨w.heap.size + 1, 0, none⟩) cx f0 (by simp); have g1 := hk2.undrew.free' (p := ⟨w.heap.size + 1, 1, none⟩) cy f1 (by simp); have d0 := hk2.undrew.cell (p := ⟨g, k * 2, none⟩) r0 (by simp); have d1 := hk2.undrew.cell (p := ⟨g, k * 2 + 1, none⟩) r1 (by simp)))
      have hO1 := Lib.hid (hO.out.kept hk2.undrew)
      have hK1 := Lib.hid (hK.out.trans0 hk2.undrew)
      clear cx cy f0 f1 r0 r1 hk2
      cases r
      · have S0 := Lib.hid cx2
        have S1 := Lib.hid cy2
        have FF := Lib.hid (And.intro g0 g1)
        go_wp2_with fail
        clear cx2 cy2 g0 g1 d0 d1 hd
        go_roundw
        case rel => exact ⟨k + 1, c, by omega, by omega, by go_num, by show c = _; rw [HS.out, HD.out]; rfl, hK1, hO1, ⟨S0.out, S1.out⟩, FF.out.1, FF.out.2⟩
        case measure => simp [intOf]; omega
      · go_wp2_with fail
        obtain ⟨_, s0, s1⟩ := cells2 (.bool b.neg) (.slice b.ptr b.len b.cap) cx2 cy2
        have hk3 : Kept [w.heap.size + 1] w2 ((w2.setCell ⟨w.heap.size + 1, 0, none⟩ (.bool b.neg)).setCell ⟨w.heap.size + 1, 1, none⟩ (.slice b.ptr b.len b.cap)) := ((Kept.refl _ _).setCell _ _ (by simp)).setCell _ _ (by simp)
        have hfz : ∀ x, ((w2.setCell ⟨w.heap.size + 1, 0, none⟩ (.bool b.neg)).setCell ⟨w.heap.size + 1, 1, none⟩ (.slice b.ptr b.len b.cap)).frozen? x = w2.frozen? x := by intro x; simp only [World.frozen?_setCell]
        have hO2 : OkB ((w2.setCell ⟨w.heap.size + 1, 0, none⟩ (.bool b.neg)).setCell ⟨w.heap.size + 1, 1, none⟩ (.slice b.ptr b.len b.cap)) (e :: t) := fun u hu => ⟨(hO1.out u hu).1.kept hk3 (fun hn v hv hm => by
          have h9 := OKW.out u hu hn v hv
          simp at hm; omega), (hO1.out u hu).2⟩
        generalize ((w2.setCell ⟨w.heap.size + 1, 0, none⟩ (.bool b.neg)).setCell ⟨w.heap.size + 1, 1, none⟩ (.slice b.ptr b.len b.cap)) = w3 at *
        have hK2 := Lib.hid (hK1.out.trans hk3 (by simp))
        have S0 := Lib.hid s0
        have S1 := Lib.hid s1
        have HZ := Lib.hid hfz
        have HO2 := Lib.hid hO2
        have FF := Lib.hid (And.intro g0 g1)
        clear s0 s1 hfz hO2 hk3 cx2 cy2 g0 g1 d0 d1 hd
        go_roundw
        case rel => exact ⟨k + 1, b, by omega, by omega, by go_num, by show b = _; rw [HS.out, HD.out]; rfl, hK2, HO2, ⟨S0.out, S1.out⟩, by rw [HZ.out]; exact FF.out.1, by rw [HZ.out]; exact FF.out.2⟩
        case measure => simp [intOf]; omega
    · have hc : c = pickF ltZ e t := by
        rw [hP.out, take_all (by omega)]
      have HC := Lib.hid hc
      have cx := hC.out.1
      have cy := hC.out.2
      have g0 := hK.out.cell (p := ⟨w.heap.size, 0, none⟩) R0.out.1 (by simp)
      have g1 := hK.out.cell (p := ⟨w.heap.size, 1, none⟩) R1.out.1 (by simp)
      have u0 := hK.out.free' (p := ⟨w.heap.size, 0, none⟩) R0.out.1 R0.out.2.1 (by simp)
      have u1 := hK.out.free' (p := ⟨w.heap.size, 1, none⟩) R1.out.1 R1.out.2.1 (by simp)
      have hKw := Lib.hid (KT.out.trans hK.out (fun x hx hlt => by simp at hx; omega))
      have hsl := (hO.out c HCM.out).1
      have hok := (hO.out c HCM.out).2
      have hz1 : isNeg c.z = c.neg := hok.isNeg
      have hz2 : mag c.z = c.limbs := hok.mag
      have HZ1 := Lib.hid hz1
      have HZ2 := Lib.hid hz2
      have HSL := Lib.hid hsl
      have hlen := hok.n40.len
      have hll := hsl.1
      have zz9 := hK.out.size
      clear hc hP hsl hok hz1 hz2
      have cxA := alloc_cell (o := .cells #[] 2) cx
      have cyA := alloc_cell (o := .cells #[] 2) cy
      go_wp2_with fail
      go_region_law (refine step_appS (by rfl) (.tmp 27) (.tmp 29) (by rfl) (w.heap.size + 1) _ [] (by rfl) (Ow.empty _ _ (by (try simp only [World.size_drew, World.size_alloc]); omega)) c.ptr c.len c.cap c.limbs (by rfl) (HSL.out.rd.kept0 (by first | exact ((Kept.refl [] _).drew.alloc _) | exact ((Kept.refl [] _).alloc _).drew | exact (((Kept.refl [] _).drew.alloc _)).drew)) (fun hn => by have h9 := HSL.out.2.2.2.1 hn; have h8 := HSL.out.2.1; omega) (by simp; omega) (by (try simp only [World.size_drew, World.size_alloc]); omega) ?_; intro v9 w4 hown hgr; obtain ⟨a9, c9, rfl, hS9, hF9⟩ := hown.sl; have hk9 : Kept [] wr w4 := Kept.grown (by first | exact (Kept.refl [] wr).drew.alloc _ | exact ((Kept.refl [] wr).alloc _).drew | exact (Kept.refl [] wr).alloc _) hgr (fun k hk hlt => by simp [Value.ownBlock] at hk; omega); have k0 := hk9.cell (p := ⟨w.heap.size, 0, none⟩) g0 (by simp); have k1 := hk9.cell (p := ⟨w.heap.size, 1, none⟩) g1 (by simp); have x0 := hk9.cell (p := ⟨w.heap.size + 1, 0, none⟩) cx (by simp); have j0 := hk9.free' (p := ⟨w.heap.size, 0, none⟩) g0 u0 (by simp); have j1 := hk9.free' (p := ⟨w.heap.size, 1, none⟩) g1 u1 (by simp))
      all_goals
        have hKf := Lib.hid (hKw.out.trans0 hk9)
        obtain ⟨_, s0, s1⟩ := cells2 (.bool c.neg) (.slice a9 c.len c9) k0 k1
        have HS9 := Lib.hid hS9
        have HF9 := Lib.hid hF9
        clear hS9 hF9 hk9 hown hgr
        go_wp2_with fail
        refine bodyPost_ret (v := .agg #[.bool c.neg, .slice a9 c.len c9]) (by simp [results, Try.results33, go_sem, s0, s1]) rfl ?_
        rw [← HC.out]
        exact bigV_pack HZ1.out HZ2.out hll HS9.out HF9.out hKf.out

set_option maxHeartbeats 4000000 in
set_option maxRecDepth 20000 in
theorem l3Most_any (g : Nat) (e : BE) (t : List BE) (w : World) (h : RowB w g (e :: t)) (ho : OkB w (e :: t)) (hl : t.length < 100) :
    Calls Try.prog 32 #[.slice (some ⟨g, 0, none⟩) (t.length + 1) (t.length + 1)] w (BigV w.heap.size w (pickF gtZ e t).z) := by
  have HR := Lib.hid h
  have HO := Lib.hid ho
  have hglt : g < w.heap.size := World.block_lt_of_cell? w _ (h 0 (by simp)).1
  have OKW := Lib.hid (show ∀ u, u ∈ (e :: t) → 0 < u.len → ∀ v, u.ptr = some v → v.block < w.heap.size from fun u hu => (ho u hu).1.lt)
  have hr0 := h 0 (by simp)
  obtain ⟨q0, q1⟩ := hr0
  simp only [Nat.zero_mul, Nat.zero_add, List.getElem_cons_zero] at q0 q1
  have q0' := alloc_cell (o := .cells #[.bool false, .slice none 0 0] 26) q0
  have q1' := alloc_cell (o := .cells #[.bool false, .slice none 0 0] 26) q1
  clear h ho q0 q1
  go_enter Try.func32, Try.ntmps32
  go_wp2_with fail
  clear q0' q1'
  generalize hW : ((w.alloc (.cells #[.bool false, .slice none 0 0] 26)).alloc (.cells #[.bool e.neg, .slice e.ptr e.len e.cap] 26)) = ww0
  have hkk : Kept [] ((w.alloc (.cells #[.bool false, .slice none 0 0] 26)).alloc (.cells #[.bool e.neg, .slice e.ptr e.len e.cap] 26)) ww0 := by rw [hW]; exact Kept.refl _ _
  have zzA : w.heap.size + 1 + 1 = ww0.heap.size := by rw [← hW]; simp
  have hk := hkk.peel.peel
  have R0 := Lib.hid (hkk.peel.top (g := w.heap.size) (by simp) (by simp) 0 (v := .bool false) rfl)
  have R1 := Lib.hid (hkk.peel.top (g := w.heap.size) (by simp) (by simp) 1 (v := .slice none 0 0) rfl)
  have L0 := Lib.hid (hkk.top (g := w.heap.size + 1) (by simp) (by simp) 0 (v := .bool e.neg) rfl)
  have L1 := Lib.hid (hkk.top (g := w.heap.size + 1) (by simp) (by simp) 1 (v := .slice e.ptr e.len e.cap) rfl)
  replace HR := Lib.hid (HR.out.kept hk (by simp))
  replace HO := Lib.hid (HO.out.kept hk)
  have KT := Lib.hid hk
  clear hk hkk hW
  go_loopw [4] (fun i wr => ∃ (k : Nat) (c : BE), 1 ≤ k ∧ k ≤ t.length + 1 ∧ i = .int .i64 k ∧ Hid (c = pickF gtZ e (t.take (k - 1))) ∧ Hid (Kept [w.heap.size + 1] ww0 wr) ∧
      Hid (OkB wr (e :: t)) ∧
      Hid (wr.cell? ⟨w.heap.size + 1, 0, none⟩ = some (.bool c.neg) ∧ wr.cell? ⟨w.heap.size + 1, 1, none⟩ = some (.slice c.ptr c.len c.cap)) ∧
      Hid (wr.frozen? ⟨w.heap.size + 1, 0, none⟩ = false ∧ wr.frozen? ⟨w.heap.size + 1, 1, none⟩ = false)) (fun i _ => t.length + 1 - (intOf i).toNat)
  case atStart => exact ⟨1, e, by omega, by omega, rfl, rfl, Kept.refl _ _, HO.out, ⟨L0.out.1, L1.out.1⟩, L0.out.2.1, L1.out.2.1⟩
  case round =>
    obtain ⟨k, c, hk1, hk, rfl, hP, hK, hO, hC, hF⟩ := hrel
    have hcm : c ∈ (e :: t) := by
      rw [hP.out]
      rcases pick_mem gtZ (t.take (k - 1)) e with h | h
      · rw [h]; exact List.mem_cons_self
      · exact List.mem_cons_of_mem _ (List.mem_of_mem_take h)
    have HCM := Lib.hid hcm
    clear hcm
    by_cases hlt : k < t.length + 1
    · have hrow := (HR.out.kept hK.out (by simp; omega)) k (by simpa using hlt)
      have hmem : (e :: t)[k] ∈ (e :: t) := List.getElem_mem _
      have hnth : ∀ h9 : k - 1 < t.length, (e :: t)[k] = t[k - 1]'h9 := fun h9 => by
        obtain ⟨j, rfl⟩ : ∃ j, k = j + 1 := ⟨k - 1, by omega⟩
        rfl
      generalize (e :: t)[k] = b at hrow hmem hnth
      obtain ⟨r0, r1⟩ := hrow
      have hsnoc : pickF gtZ e (t.take (k + 1 - 1)) = if gtZ b.z c.z = true then b else c := by
        rw [show k + 1 - 1 = k - 1 + 1 by omega, take_get (by omega), pick_snoc, ← hnth (by omega), ← hP.out]
      have HM := Lib.hid hmem
      have HS := Lib.hid hsnoc
      have hks : IntKind.i64.wrap ((k : Int) + 1) = (k : Int) + 1 := IntWalk.i64_in _ (by omega)
      obtain ⟨v, hv⟩ : ∃ v : Int, v = cmpV b.z c.z := ⟨_, rfl⟩
      have HV := Lib.hid hv
      obtain ⟨r, hr⟩ : ∃ r, r = gtZ b.z c.z := ⟨_, rfl⟩
      have HD := Lib.hid hr.symm
      have hd : decide (0 < v) = r := by rw [hv, cmpV_pos]; exact hr.symm
      have cx := hC.out.1
      have cy := hC.out.2
      have f0 := hF.out.1
      have f1 := hF.out.2
      have i0 : (0 : Int) ≤ (k : Int) := by omega
      have i1 : (k : Int) < (t.length : Int) + 1 := by omega
      clear hmem hnth hsnoc hv hr hP
      go_upto_region 5 with fail
      go_region_held3 (fun w' => w'.cell? ⟨g, k * 2, none⟩ = some (.bool b.neg) ∧ w'.cell? ⟨g, k * 2 + 1, none⟩ = some (.slice b.ptr b.len b.cap) ∧ w'.cell? ⟨w.heap.size + 1, 0, none⟩ = some (.bool c.neg) ∧ w'.cell? ⟨w.heap.size + 1, 1, none⟩ = some (.slice c.ptr c.len c.cap) ∧ Hid (Kept [] wr w'))
        ((go_split_ands; (try refine ⟨?_, ?_, ?_, ?_, ?_⟩) <;> with_reducible first | exact Lib.hid ((Kept.refl _ _).drew) | exact drew_cell (by assumption) | exact Lib.hid (Kept.trans0 (Hid.out (by assumption)) (by assumption)) | exact Kept.cell (by assumption) (by assumption) (by simp)))
        (first
          | (go_at_call 34; go_split_ands; refine (l2Compare_any _ _ _ _ _ _ _ _ _ _ _ (hO.out b HM.out).2.n40 (hO.out c HCM.out).2.n40 ((hO.out b HM.out).1.kept0 (Kept.refl [] _).drew) ((hO.out c HCM.out).1.kept0 (Kept.refl [] _).drew)).mono ?_; rintro e9 w2 ⟨rfl, hk2⟩; rw [show cmpV (sv b.neg b.limbs) (sv c.neg c.limbs) = v from HV.out.symm]; have cx2 := hk2.undrew.cell (p := ⟨w.heap.size + 1, 0, none⟩) cx (by simp); have cy2 := hk2.undrew.cell (p := ⟨w.heap.size + 1, 1, none⟩) cy (by simp); have g0 := hk2.undrew.free' (p := ⟨w.heap.size + 1, 0, none⟩) cx f0 (by simp); have g1 := hk2.undrew.free' (p := ⟨w.heap.size + 1, 1, none⟩) cy f1 (by simp); have d0 := hk2.undrew.cell (p := ⟨g, k * 2, none⟩) r0 (by simp); have d1 := hk2.undrew.cell (p := ⟨g, k * 2 + 1, none⟩) r1 (by simp)))
      have hO1 := Lib.hid (hO.out.kept hk2.undrew)
      have hK1 := Lib.hid (hK.out.trans0 hk2.undrew)
      clear cx cy f0 f1 r0 r1 hk2
      cases r
      · have S0 := Lib.hid cx2
        have S1 := Lib.hid cy2
        have FF := Lib.hid (And.intro g0 g1)
        go_wp2_with fail
        clear cx2 cy2 g0 g1 d0 d1 hd
        go_roundw
        case rel => exact ⟨k + 1, c, by omega, by omega, by go_num, by show c = _; rw [HS.out, HD.out]; rfl, hK1, hO1, ⟨S0.out, S1.out⟩, FF.out.1, FF.out.2⟩
        case measure => simp [intOf]; omega
      · go_wp2_with fail
        obtain ⟨_, s0, s1⟩ := cells2 (.bool b.neg) (.slice b.ptr b.len b.cap) cx2 cy2
        have hk3 : Kept [w.heap.size + 1] w2 ((w2.setCell ⟨w.heap.size + 1, 0, none⟩ (.bool b.neg)).setCell ⟨w.heap.size + 1, 1, none⟩ (.slice b.ptr b.len b.cap)) := ((Kept.refl _ _).setCell _ _ (by simp)).setCell _ _ (by simp)
        have hfz : ∀ x, ((w2.setCell ⟨w.heap.size + 1, 0, none⟩ (.bool b.neg)).setCell ⟨w.heap.size + 1, 1, none⟩ (.slice b.ptr b.len b.cap)).frozen? x = w2.frozen? x := by intro x; simp only [World.frozen?_setCell]
        have hO2 : OkB ((w2.setCell ⟨w.heap.size + 1, 0, none⟩ (.bool b.neg)).setCell ⟨w.heap.size + 1, 1, none⟩ (.slice b.ptr b.len b.cap)) (e :: t) := fun u hu => ⟨(hO1.out u hu).1.kept hk3 (fun hn v hv hm => by
          have h9 := OKW.out u hu hn v hv
          simp at hm; omega), (hO1.out u hu).2⟩
        generalize ((w2.setCell ⟨w.heap.size + 1, 0, none⟩ (.bool b.neg)).setCell ⟨w.heap.size + 1, 1, none⟩ (.slice b.ptr b.len b.cap)) = w3 at *
        have hK2 := Lib.hid (hK1.out.trans hk3 (by simp))
        have S0 := Lib.hid s0
        have S1 := Lib.hid s1
        have HZ := Lib.hid hfz
        have HO2 := Lib.hid hO2
        have FF := Lib.hid (And.intro g0 g1)
        clear s0 s1 hfz hO2 hk3 cx2 cy2 g0 g1 d0 d1 hd
        go_roundw
        case rel => exact ⟨k + 1, b, by omega, by omega, by go_num, by show b = _; rw [HS.out, HD.out]; rfl, hK2, HO2, ⟨S0.out, S1.out⟩, by rw [HZ.out]; exact FF.out.1, by rw [HZ.out]; exact FF.out.2⟩
        case measure => simp [intOf]; omega
    · have hc : c = pickF gtZ e t := by
        rw [hP.out, take_all (by omega)]
      have HC := Lib.hid hc
      have cx := hC.out.1
      have cy := hC.out.2
      have g0 := hK.out.cell (p := ⟨w.heap.size, 0, none⟩) R0.out.1 (by simp)
      have g1 := hK.out.cell (p := ⟨w.heap.size, 1, none⟩) R1.out.1 (by simp)
      have u0 := hK.out.free' (p := ⟨w.heap.size, 0, none⟩) R0.out.1 R0.out.2.1 (by simp)
      have u1 := hK.out.free' (p := ⟨w.heap.size, 1, none⟩) R1.out.1 R1.out.2.1 (by simp)
      have hKw := Lib.hid (KT.out.trans hK.out (fun x hx hlt => by simp at hx; omega))
      have hsl := (hO.out c HCM.out).1
      have hok := (hO.out c HCM.out).2
      have hz1 : isNeg c.z = c.neg := hok.isNeg
      have hz2 : mag c.z = c.limbs := hok.mag
      have HZ1 := Lib.hid hz1
      have HZ2 := Lib.hid hz2
      have HSL := Lib.hid hsl
      have hlen := hok.n40.len
      have hll := hsl.1
      have zz9 := hK.out.size
      clear hc hP hsl hok hz1 hz2
      have cxA := alloc_cell (o := .cells #[] 2) cx
      have cyA := alloc_cell (o := .cells #[] 2) cy
      go_wp2_with fail
      go_region_law (refine step_appS (by rfl) (.tmp 27) (.tmp 29) (by rfl) (w.heap.size + 1) _ [] (by rfl) (Ow.empty _ _ (by (try simp only [World.size_drew, World.size_alloc]); omega)) c.ptr c.len c.cap c.limbs (by rfl) (HSL.out.rd.kept0 (by first | exact ((Kept.refl [] _).drew.alloc _) | exact ((Kept.refl [] _).alloc _).drew | exact (((Kept.refl [] _).drew.alloc _)).drew)) (fun hn => by have h9 := HSL.out.2.2.2.1 hn; have h8 := HSL.out.2.1; omega) (by simp; omega) (by (try simp only [World.size_drew, World.size_alloc]); omega) ?_; intro v9 w4 hown hgr; obtain ⟨a9, c9, rfl, hS9, hF9⟩ := hown.sl; have hk9 : Kept [] wr w4 := Kept.grown (by first | exact (Kept.refl [] wr).drew.alloc _ | exact ((Kept.refl [] wr).alloc _).drew | exact (Kept.refl [] wr).alloc _) hgr (fun k hk hlt => by simp [Value.ownBlock] at hk; omega); have k0 := hk9.cell (p := ⟨w.heap.size, 0, none⟩) g0 (by simp); have k1 := hk9.cell (p := ⟨w.heap.size, 1, none⟩) g1 (by simp); have x0 := hk9.cell (p := ⟨w.heap.size + 1, 0, none⟩) cx (by simp); have j0 := hk9.free' (p := ⟨w.heap.size, 0, none⟩) g0 u0 (by simp); have j1 := hk9.free' (p := ⟨w.heap.size, 1, none⟩) g1 u1 (by simp))
      all_goals
        have hKf := Lib.hid (hKw.out.trans0 hk9)
        obtain ⟨_, s0, s1⟩ := cells2 (.bool c.neg) (.slice a9 c.len c9) k0 k1
        have HS9 := Lib.hid hS9
        have HF9 := Lib.hid hF9
        clear hS9 hF9 hk9 hown hgr
        go_wp2_with fail
        refine bodyPost_ret (v := .agg #[.bool c.neg, .slice a9 c.len c9]) (by simp [results, Try.results32, go_sem, s0, s1]) rfl ?_
        rw [← HC.out]
        exact bigV_pack HZ1.out HZ2.out hll HS9.out HF9.out hKf.out

end Go.Proofs.Ytlhiahhpmjiioaa
