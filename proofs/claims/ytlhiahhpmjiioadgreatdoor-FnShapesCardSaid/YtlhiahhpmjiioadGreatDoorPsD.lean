/-
  Several of my texts joined: the contracts of the functions that they name, each with the conditions that it states.
-/
import Derived.Test.YtlhiahhpmjiioadGreatDoorPsB
import Derived.Test.YtlhiahhpmjiioadGreatDoorOwP
namespace Go.Proofs.YtlhiahhpmjiioadGreatDoor
open Go.RowKit

/-- How much the reader in R has left. -/
def leftOf (w : World) (R : Nat) : Nat := match w.cell? ⟨R, 0, none⟩ with | some (.string s) => s.size | _ => 0
theorem Rdr.left {w : World} {R : Nat} {l : List UInt8} (h : Rdr w R l) : leftOf w R = l.length := by unfold leftOf; rw [h.cell]; exact strB_size l

/-- A shape and what is left behind it and the blanks. -/
def shapeQ (l : List UInt8) : Option (Int × List (Int × Int) × List UInt8) :=
  (kindR (blk l)).bind fun k => (openR 40 (parK k.1) k.2).bind fun t => (pointR t).bind fun p => (ptsR (p.2.length + 1) p.2).bind fun q => (openR 41 (parK k.1) q.2).bind fun u => some (k.1, p.1 :: q.1, blk u)
theorem shapeR_Q (l : List UInt8) : shapeR l = (shapeQ l).bind fun x => if x.2.2 = [] then some (x.1, x.2.1) else none := by
  unfold shapeR shapeQ
  simp only [Option.bind_assoc, Option.bind_some]
theorem openR_yes {c : UInt8} {m : Nat} {l : List UInt8} (h : markB c l = true) : openR c (m + 1) l = openR c m (markL c l) := by
  have h := of_decide_eq_true h
  rw [openR, if_pos h, markL_yes h]
theorem openR_no {c : UInt8} {m : Nat} {l : List UInt8} (h : markB c l = false) : openR c (m + 1) l = none := by
  rw [openR, if_neg (of_decide_eq_false h)]
/-- Where the reading of the points is: ps so far, cur left. -/
def PtsAt (t : List UInt8) (p : Int × Int) (ps : List (Int × Int)) (cur : List UInt8) : Prop :=
  ∃ f, cur.length < f ∧ ((ptsR (t.length + 1) t).map fun q => (p :: q.1, q.2)) = (ptsR f cur).map fun q => (ps ++ q.1, q.2)
theorem ptsAt_start (t : List UInt8) (p : Int × Int) : PtsAt t p [p] t := ⟨t.length + 1, Nat.lt_succ_self _, rfl⟩
theorem ptsAt_stop {t cur : List UInt8} {p : Int × Int} {ps : List (Int × Int)} (h : PtsAt t p ps cur) (hm : markB 44 cur = false) : (ptsR (t.length + 1) t).map (fun q => (p :: q.1, q.2)) = some (ps, markL 44 cur) := by
  obtain ⟨f, hf, e⟩ := h
  have hm := of_decide_eq_false hm
  cases f with
  | zero => omega
  | succ f => rw [e, ptsR, if_neg hm, markL_no hm]; simp
theorem ptsAt_no {t cur : List UInt8} {p : Int × Int} {ps : List (Int × Int)} (h : PtsAt t p ps cur) (hm : markB 44 cur = true) (hp : pointR (markL 44 cur) = none) : ptsR (t.length + 1) t = none := by
  obtain ⟨f, hf, e⟩ := h
  have hm := of_decide_eq_true hm
  rw [markL_yes hm] at hp
  cases f with
  | zero => omega
  | succ f =>
    have e2 : ptsR (f + 1) cur = none := by rw [ptsR, if_pos hm, hp]; rfl
    rw [e2] at e
    simp only [Option.map_none] at e
    exact Option.map_eq_none_iff.1 e
theorem ptsAt_next {t cur r : List UInt8} {p q : Int × Int} {ps : List (Int × Int)} (h : PtsAt t p ps cur) (hm : markB 44 cur = true) (hp : pointR (markL 44 cur) = some (q, r)) : PtsAt t p (ps ++ [q]) r ∧ r.length < cur.length := by
  obtain ⟨f, hf, e⟩ := h
  have hml := markL_len 44 cur
  have hm := of_decide_eq_true hm
  obtain ⟨_, _, _, _, hlt⟩ := pointR_some hp
  rw [markL_yes hm] at hp
  cases f with
  | zero => omega
  | succ f =>
    refine ⟨⟨f, by omega, ?_⟩, by omega⟩
    have e2 : ptsR (f + 1) cur = (ptsR f r).map fun x => (q :: x.1, x.2) := by rw [ptsR, if_pos hm, hp]; rfl
    rw [e, e2, Option.map_map]
    congr 1
    funext x
    simp

end Go.Proofs.YtlhiahhpmjiioadGreatDoor

namespace Go.Proofs.YtlhiahhpmjiioadGreatDoor
open Go.RowKit

theorem aroundN_eq (k : Int) : aroundN k = parK k := rfl
/-- What shape answers. -/
def ShapeP (R : Nat) (l : List UInt8) (w : World) (e : Ending) (w' : World) : Prop :=
  (shapeQ l = none ∧ Bang [R] w e w') ∨ ∃ k ps t v, shapeQ l = some (k, ps, t) ∧ 1 ≤ k ∧ k ≤ 4 ∧ ps.length ≤ 2000000 ∧ e = .returned (.agg #[.int .i64 k, v]) ∧ OwP w.heap.size w' v ps ∧ Rdr w' R t ∧ Kept [R] w w'
theorem shapeQ_no1 {l : List UInt8} (h : kindR (blk l) = none) : shapeQ l = none := by unfold shapeQ; rw [h]; rfl
theorem shapeQ_no2 {l t : List UInt8} {k : Int} (h : kindR (blk l) = some (k, t)) (h2 : openR 40 (parK k) t = none) : shapeQ l = none := by unfold shapeQ; rw [h]; simp only [Option.bind_some, h2]; rfl
theorem shapeQ_no3 {l t u : List UInt8} {k : Int} (h : kindR (blk l) = some (k, t)) (h2 : openR 40 (parK k) t = some u) (h3 : pointR u = none) : shapeQ l = none := by unfold shapeQ; rw [h]; simp only [Option.bind_some, h2, h3]; rfl
theorem shapeQ_no4 {l t u r : List UInt8} {k : Int} {p : Int × Int} (h : kindR (blk l) = some (k, t)) (h2 : openR 40 (parK k) t = some u) (h3 : pointR u = some (p, r)) (h4 : ptsR (r.length + 1) r = none) : shapeQ l = none := by unfold shapeQ; rw [h]; simp only [Option.bind_some, h2, h3, h4]; rfl
theorem shapeQ_last {l t u r s : List UInt8} {k : Int} {p : Int × Int} {ps : List (Int × Int)} (h : kindR (blk l) = some (k, t)) (h2 : openR 40 (parK k) t = some u) (h3 : pointR u = some (p, r)) (h4 : (ptsR (r.length + 1) r).map (fun q => (p :: q.1, q.2)) = some (ps, s)) : shapeQ l = (openR 41 (parK k) s).map fun u => (k, ps, blk u) := by
  obtain ⟨⟨qs, s'⟩, e1, e2⟩ := Option.map_eq_some_iff.1 h4
  simp only [Prod.mk.injEq] at e2
  obtain ⟨rfl, rfl⟩ := e2
  unfold shapeQ; rw [h]; simp only [Option.bind_some, h2, h3, e1]
  cases openR 41 (parK k) s' <;> rfl
theorem parK_le (k : Int) : parK k ≤ 2 := by unfold parK; split <;> omega

set_option maxHeartbeats 1000000 in
theorem shape_any (R : Nat) (l : List UInt8) (w : World) (h : Rdr w R l) (hl : l.length ≤ 1500000) :
    Calls Tryz.prog 30 #[.pointer (some ⟨R, 0, none⟩)] w (ShapeP R l w) := by
  have H := Lib.hid h
  have hl1 := blk_len l
  have hRw := h.lt
  have hRn : Hid (w.heap.size ≠ R) := by show _ ≠ _; omega
  clear h
  go_enter Tryz.func30, Tryz.ntmps30
  go_wp2_with fail
  refine (blanks_any R l _ (H.out.kept ((Kept.refl [] w).alloc _) (by simp))).mono ?_
  rintro e w1 ⟨rfl, r1, k1⟩
  have R1 := Lib.hid r1
  have K1 := Lib.hid k1
  clear r1 k1
  go_wp2_with fail
  refine (kind_any R (blk l) _ R1.out).mono ?_
  rintro e w2 hd
  rcases hd with ⟨hn, ⟨u, x, rfl⟩, k2⟩ | ⟨k, t, hs, rfl, r2, k2⟩
  · have K2 := Lib.hid (K1.out.trans k2 (fun _ hx _ => hx))
    have HV := Lib.hid (shapeQ_no1 hn)
    clear k2 hn
    go_wp2_with fail
    exact ⟨rfl, .inl ⟨HV.out, ⟨_, _, rfl⟩, K2.out.peel⟩⟩
  obtain ⟨hk1, hk4, hkl⟩ := kindR_some hs
  have htl : t.length ≤ 1500000 := by have := congrArg List.length hkl; rw [List.length_append] at this; omega
  have HS := Lib.hid hs
  have R2 := Lib.hid r2
  have K2 := Lib.hid (K1.out.trans k2 (fun _ hx _ => hx))
  clear r2 k2 hs hkl
  go_wp2_with fail
  refine (parenthesesOf_any k _).mono ?_
  rintro e w3 ⟨rfl, k3⟩
  rw [aroundN_eq]
  have R3 := Lib.hid (R2.out.kept k3 (by simp))
  have K3 := Lib.hid (K2.out.trans0 k3)
  have hpk := parK_le k
  obtain ⟨n, hn⟩ : ∃ n, parK k = n := ⟨_, rfl⟩
  rw [hn] at hpk ⊢
  have HN := Lib.hid hn
  clear k3 hn
  go_wp2_with fail
  go_loopw [11] (fun i wr => ∃ (j : Nat) (cur : List UInt8), i = .int .i64 j ∧ j ≤ n ∧ Hid (openR 40 n t = openR 40 (n - j) cur) ∧ Hid (cur.length ≤ 1500000) ∧ Hid (Rdr wr R cur) ∧ Hid (Kept [R] (w.alloc (.cells #[.int .i64 0, .slice none 0 0] 26)) wr)) (fun i _ => n - (intOf i).toNat)
  case atStart => exact ⟨0, t, rfl, Nat.zero_le _, rfl, htl, R3.out, K3.out⟩
  case round =>
    obtain ⟨j, cur, rfl, hj, hO, hcl, hR, hK⟩ := hrel
    by_cases hlt : j < n
    · have hlt' : (j : Int) < n := by omega
      have hsub : n - j = (n - (j + 1)) + 1 := by omega
      go_wp2_with fail
      refine (mark_any R cur 40 _ hR.out).mono ?_
      rintro e w4 ⟨rfl, r4, k4⟩
      have R4 := Lib.hid r4
      have K4 := Lib.hid (hK.out.trans k4 (fun _ hx _ => hx))
      clear r4 k4
      go_wp2_with fail
      cases hb : markB 40 cur
      · refine (must_no _ _).mono ?_
        rintro e w5 ⟨⟨u, y, rfl⟩, k5⟩
        have K5 := Lib.hid (K4.out.trans0 k5)
        have hno : openR 40 (parK k) t = none := by rw [HN.out, hO.out, hsub, openR_no hb]
        have HV := Lib.hid (shapeQ_no2 HS.out hno)
        clear k5 hno hb
        go_wp2_with fail
        exact ⟨rfl, .inl ⟨HV.out, ⟨_, _, rfl⟩, K5.out.peel⟩⟩
      · have hO2 : Hid (openR 40 n t = openR 40 (n - (j + 1)) (markL 40 cur)) := by
          show _ = _
          rw [hO.out, hsub, openR_yes hb]
        have hcl2 : Hid ((markL 40 cur).length ≤ 1500000) := Nat.le_trans (markL_len 40 cur) hcl.out
        clear hb hsub
        refine (must_yes _ _).mono ?_
        rintro e w5 ⟨rfl, rfl⟩
        go_wp2_with fail
        go_roundw
        case rel => exact ⟨j + 1, markL 40 cur, by go_num, by omega, hO2, hcl2, R4, K4⟩
        case measure => simp [intOf] <;> omega
    · obtain rfl : j = n := by omega
      have hO2 : Hid (openR 40 (parK k) t = some cur) := by
        show _ = _
        rw [HN.out, hO.out, Nat.sub_self]; rfl
      clear hO
      go_wp2_with fail
      refine (point_any R cur _ hR.out hcl.out).mono ?_
      rintro e w4 hd
      rcases hd with ⟨hn, ⟨u, x, rfl⟩, k4⟩ | ⟨p, r, hp, rfl, r4, k4⟩
      · have K4 := Lib.hid (hK.out.trans k4 (fun _ hx _ => hx))
        have HV := Lib.hid (shapeQ_no3 HS.out hO2.out hn)
        clear k4 hn
        go_wp2_with fail
        exact ⟨rfl, .inl ⟨HV.out, ⟨_, _, rfl⟩, K4.out.peel⟩⟩
      obtain ⟨_, _, _, _, hrl⟩ := pointR_some hp
      have hrl : r.length ≤ 1500000 := by have := hcl.out; omega
      have HP := Lib.hid hp
      have R4 := Lib.hid r4
      have K4 := Lib.hid (hK.out.trans k4 (fun _ hx _ => hx))
      clear r4 k4 hp
      obtain ⟨x, y⟩ := p
      go_wp2_with fail
      obtain ⟨B, hB⟩ : ∃ B, B = w.heap.size + 1 := ⟨_, rfl⟩
      have hRB : R < B := by omega
      have hsz := K4.out.size
      simp only [World.size_alloc] at hsz
      have hB4 : B ≤ w4.heap.size := by omega
      have HB := Lib.hid hB
      clear hB hsz
      go_loopw [4] (fun v wr => ∃ (ps : List (Int × Int)) (cr : List UInt8), Hid (PtsAt r (x, y) ps cr) ∧ Hid (ps.length + cr.length ≤ r.length + 1 ∧ cr.length ≤ r.length) ∧ Hid (OwP B wr v ps) ∧ Hid (Rdr wr R cr) ∧ Hid (Kept [R] (w.alloc (.cells #[.int .i64 0, .slice none 0 0] 26)) wr)) (fun _ wr => leftOf wr R)
      case atStart => exact ⟨[(x, y)], r, ptsAt_start r (x, y), ⟨by show 1 + r.length ≤ _; omega, Nat.le_refl _⟩, OwP.one x y rfl hB4, R4.out.kept ((Kept.refl [] _).alloc _) (by simp), K4.out.alloc _⟩
      case round =>
        obtain ⟨ps, cr, hP, hL, hW, hR5, hK5⟩ := hrel
        go_wp2_with fail
        refine (mark_any R cr 44 _ hR5.out).mono ?_
        rintro e w5 ⟨rfl, r5, k5⟩
        have W5 := Lib.hid (hW.out.kept k5 (hW.out.notR hRB))
        have R5 := Lib.hid r5
        have K5 := Lib.hid (hK5.out.trans k5 (fun _ hx _ => hx))
        clear r5 k5
        cases hb : markB 44 cr
        · have hst := Lib.hid (ptsAt_stop hP.out hb)
          clear hb
          go_wp2_with fail
          have hpl : ps.length ≤ 2000000 := by have := hL.out; omega
          have hml := markL_len 44 cr
          have hcl3 : Hid ((markL 44 cr).length ≤ 1500000) := by have := hL.out; show _ ≤ _; omega
          obtain ⟨s, hs⟩ : ∃ s, markL 44 cr = s := ⟨_, rfl⟩
          rw [hs] at hst R5 hcl3
          clear hs hml
          refine (parenthesesOf_any k _).mono ?_
          rintro e w6 ⟨rfl, k6⟩
          rw [aroundN_eq, HN.out]
          have R6 := Lib.hid (R5.out.kept k6 (by simp))
          have W6 := Lib.hid (W5.out.kept0 k6)
          have K6 := Lib.hid (K5.out.trans0 k6)
          clear k6
          go_wp2_with fail
          go_loopw [30] (fun i wr => ∃ (i' : Nat) (cu : List UInt8), i = .int .i64 i' ∧ i' ≤ j ∧ Hid (openR 41 j s = openR 41 (j - i') cu) ∧ Hid (OwP B wr u4 ps) ∧ Hid (Rdr wr R cu) ∧ Hid (Kept [R] (w.alloc (.cells #[.int .i64 0, .slice none 0 0] 26)) wr)) (fun i _ => j - (intOf i).toNat)
          case atStart => exact ⟨0, s, rfl, Nat.zero_le _, rfl, W6.out, R6.out, K6.out⟩
          case round =>
            obtain ⟨i', cu, rfl, hi', hO', hW', hR', hK'⟩ := hrel
            by_cases hlt3 : i' < j
            · have hlt3' : (i' : Int) < j := by omega
              have hsub : j - i' = (j - (i' + 1)) + 1 := by omega
              go_wp2_with fail
              refine (mark_any R cu 41 _ hR'.out).mono ?_
              rintro e w7 ⟨rfl, r7, k7⟩
              have R7 := Lib.hid r7
              have W7 := Lib.hid (hW'.out.kept k7 (hW'.out.notR hRB))
              have K7 := Lib.hid (hK'.out.trans k7 (fun _ hx _ => hx))
              clear r7 k7
              go_wp2_with fail
              cases hb : markB 41 cu
              · refine (must_no _ _).mono ?_
                rintro e w8 ⟨⟨u, z, rfl⟩, k8⟩
                have K8 := Lib.hid (K7.out.trans0 k8)
                have hno : openR 41 (parK k) s = none := by rw [HN.out, hO'.out, hsub, openR_no hb]
                have HV : Hid (shapeQ l = none) := by
                  show _ = _
                  rw [shapeQ_last HS.out hO2.out HP.out hst.out, hno]; rfl
                clear k8 hno hb
                go_wp2_with fail
                exact ⟨rfl, .inl ⟨HV.out, ⟨_, _, rfl⟩, K8.out.peel⟩⟩
              · have hO3 : Hid (openR 41 j s = openR 41 (j - (i' + 1)) (markL 41 cu)) := by
                  show _ = _
                  rw [hO'.out, hsub, openR_yes hb]
                clear hb hsub
                refine (must_yes _ _).mono ?_
                rintro e w8 ⟨rfl, rfl⟩
                go_wp2_with fail
                go_roundw
                case rel => exact ⟨i' + 1, markL 41 cu, by go_num, by omega, hO3.out, W7.out, R7.out, K7.out⟩
                case measure => simp [intOf] <;> omega
            · obtain rfl : i' = j := by omega
              have HV : Hid (shapeQ l = some (k, ps, blk cu)) := by
                show _ = _
                rw [shapeQ_last HS.out hO2.out HP.out hst.out, HN.out, hO'.out, Nat.sub_self]; rfl
              clear hO'
              go_wp2_with fail
              refine (blanks_any R cu _ hR'.out).mono ?_
              rintro e w7 ⟨rfl, r7, k7⟩
              have R7 := Lib.hid r7
              have W7 := Lib.hid (hW'.out.kept k7 (hW'.out.notR hRB))
              have K7 := Lib.hid (hK'.out.trans k7 (fun _ hx _ => hx))
              clear r7 k7
              obtain ⟨c0, f0, z0⟩ := K7.out.top (g := w.heap.size) rfl (by simpa using hRn.out) 0 (v := .int .i64 0) rfl
              obtain ⟨c1, f1, z1⟩ := K7.out.top (g := w.heap.size) rfl (by simpa using hRn.out) 1 (v := .slice none 0 0) rfl
              obtain ⟨a4, n4, hu4⟩ := W7.out.sl
              subst hu4
              go_wp2_with fail
              obtain ⟨_, s0, s1⟩ := cells2 (.int .i64 k) (.slice a4 ps.length n4) c0 c1
              have kk : Kept [w.heap.size] w7 ((w7.setCell ⟨w.heap.size, 0, none⟩ (.int .i64 k)).setCell ⟨w.heap.size, 1, none⟩ (.slice a4 ps.length n4)) := ((Kept.refl [w.heap.size] w7).setCell _ _ (by simp)).setCell _ _ (by simp)
              refine bodyPost_ret (v := .agg #[.int .i64 k, (.slice a4 ps.length n4)]) (by simp [results, Tryz.results30, go_sem, s0, s1]) rfl (Or.inr ⟨_, _, _, .slice a4 ps.length n4, HV.out, hk1, hk4, hpl, rfl, ?_, ?_, ?_⟩)
              · exact (W7.out.kept kk (W7.out.notR (by have := HB.out; omega))).mono (by have := HB.out; omega)
              · exact R7.out.kept kk (by simpa using hRn.out.symm)
              · exact (K7.out.peel.setCell _ _ (by simp)).setCell _ _ (by simp)
        · have hml := markL_len 44 cr
          go_wp2_with fail
          refine (point_any R (markL 44 cr) _ R5.out (by have := hL.out; omega)).mono ?_
          rintro e w6 hd
          rcases hd with ⟨hn, ⟨u, z, rfl⟩, k6⟩ | ⟨q, r6, hq, rfl, rd6, k6⟩
          · have K6 := Lib.hid (K5.out.trans k6 (fun _ hx _ => hx))
            have HV := Lib.hid (shapeQ_no4 HS.out hO2.out HP.out (ptsAt_no hP.out hb hn))
            clear k6 hn hb
            go_wp2_with fail
            exact ⟨rfl, .inl ⟨HV.out, ⟨_, _, rfl⟩, K6.out.peel⟩⟩
          · obtain ⟨hnx, hlt6⟩ := ptsAt_next hP.out hb hq
            have HNX := Lib.hid hnx
            have HL6 := Lib.hid hlt6
            have R6 := Lib.hid rd6
            have W6 := Lib.hid (W5.out.kept k6 (W5.out.notR hRB))
            have K6 := Lib.hid (K5.out.trans k6 (fun _ hx _ => hx))
            have hpl : ps.length ≤ 1500001 := by have := hL.out; omega
            clear rd6 k6 hq hb hnx hlt6
            obtain ⟨qx, qy⟩ := q
            go_wp2_with (at_builtin; refine appP rfl _ _ rfl B _ ps rfl (W6.out.alloc _) w6.heap.size qx qy rfl (by first | exact World.cell?_alloc_new _ _ _ | (simp; done)) (by simp; done) (by omega) (by have h1 := K6.out.size; have h2 := HB.out; simp at h1 ⊢; omega) ?_)
            rintro v' w7 h1 h2
            have kk : Kept [] w6 (w6.alloc (.cells #[.int .i64 qx, .int .i64 qy] 44)) := (Kept.refl [] w6).alloc _
            have W7 := Lib.hid h1
            have R7 := Lib.hid ((R6.out.kept kk (by simp)).kept (kept_ownP h2) (W6.out.notin hRB))
            have K7 := Lib.hid (OwP.grown (K6.out.trans0 kk) (W6.out.alloc (.cells #[.int .i64 qx, .int .i64 qy] 44)) (by have h2 := HB.out; simp; omega) h2)
            clear h1 h2 kk
            go_wp2_with fail
            go_roundw
            case rel => exact ⟨ps ++ [(qx, qy)], r6, HNX.out, by have h1 := HL6.out; have h2 := hL.out; show (ps ++ [(qx, qy)]).length + r6.length ≤ _ ∧ r6.length ≤ _; rw [List.length_append]; simp only [List.length_cons, List.length_nil]; omega, W7.out, R7.out, K7.out⟩
            case measure => rw [R7.out.left, hR5.out.left]; exact HL6.out

end Go.Proofs.YtlhiahhpmjiioadGreatDoor
