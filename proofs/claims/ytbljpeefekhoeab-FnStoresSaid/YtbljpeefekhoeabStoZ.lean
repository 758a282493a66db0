/-
  Contract of the model's l9Copy. Condition: the slice reads as named shapes without a fault.
-/
import Derived.Test.YtbljpeefekhoeabStoW
namespace Go.Proofs.Ytbljpeefekhoeab
open Go.RowKit

set_option maxHeartbeats 1000000 in
theorem l9Copy_any (S : Nat) (a : Option Addr) (n c : Nat) (L : List Sh) (w : World) (h : RdSt w a n L) (hs : w.cell? ⟨S, 0, none⟩ = some (.slice a n c)) (hn : n ≤ 10) (hv : ∀ i, i < n → (1 ≤ (L.getD i sh0).n ∧ (L.getD i sh0).n ≤ 12) ∧ (L.getD i sh0).nm.length ≤ 8) (hne : ∀ i, i < n → (L.getD i sh0).nm ≠ []) :
    Calls Try.prog 34 #[.pointer (some ⟨S, 0, none⟩)] w (NewV w L) := by
  have HR := Lib.hid h
  have hS : S < w.heap.size := World.block_lt_of_cell? w _ hs
  have B0 := Lib.hid hs
  have HV := Lib.hid hv
  have HNE := Lib.hid hne
  have hlen := h.1
  have hdl : dropL L [] = L := by
    unfold dropL
    refine List.filter_eq_self.2 fun s hs => ?_
    obtain ⟨i, hi, rfl⟩ := mem_getD.1 hs
    simpa using hne i (by omega)
  rw [← hdl]
  have HDL := Lib.hid hdl
  obtain ⟨x, hx⟩ : ∃ x : List UInt8, x = [] := ⟨_, rfl⟩
  rw [← hx]
  have HX := Lib.hid hx
  clear h hs hv hne hlen hdl hx
  go_enter Try.func34, Try.ntmps34
  obtain ⟨W0, hW0⟩ : ∃ W0, (w.alloc (.cells #[.slice none 0 0] 26)).alloc (.cells #[.slice none 0 0] 26) = W0 := ⟨_, rfl⟩
  have HW0 := Lib.hid hW0
  have K0 : Hid (Kept [] w W0) := by show Kept _ _ _; rw [← hW0]; exact ((Kept.refl [] w).alloc _).alloc _
  have z0 : W0.heap.size = w.heap.size + 1 + 1 := by rw [← hW0]; simp
  have q0 := (Kept.refl [] ((w.alloc (.cells #[.slice none 0 0] 26)).alloc (.cells #[.slice none 0 0] 26))).peel.top rfl (by simp) 0 (v := .slice none 0 0) rfl
  have q1 := (Kept.refl [] ((w.alloc (.cells #[.slice none 0 0] 26)).alloc (.cells #[.slice none 0 0] 26))).top (g := w.heap.size + 1) (by simp) (by simp) 0 (v := .slice none 0 0) rfl
  rw [hW0] at q0 q1
  have R0 := Lib.hid (And.intro q0.1 q0.2.1)
  have R1 := Lib.hid (And.intro q1.1 q1.2.1)
  clear q0 q1 hW0
  have HZ0 := Lib.hid z0
  clear z0
  go_wp2_with fail
  rw [HW0.out]
  go_loopw [4] (fun i wr => ∃ (k : Nat) (v : Value) (gs cz : Nat → Nat), k ≤ n ∧ i = .int .i64 k ∧ Hid (wr.cell? ⟨w.heap.size + 1, 0, none⟩ = some v ∧ wr.frozen? ⟨w.heap.size + 1, 0, none⟩ = false) ∧ Hid (OwN W0.heap.size wr v (preN L x k) (dropL L x) gs cz) ∧ Hid (preN L x k = 0 → v = .slice none 0 0) ∧ Hid (Apt W0.heap.size wr gs (preN L x k) (dropL L x)) ∧ Hid (Kept [w.heap.size + 1] W0 wr)) (fun i _ => n - (intOf i).toNat)
  case atStart => exact ⟨0, _, fun _ => 0, fun _ => 0, Nat.zero_le _, rfl, R1.out, ⟨rfl, Or.inl ⟨rfl, rfl⟩⟩, fun _ => rfl, fun j hj => by simp [preN, dropL] at hj, Kept.refl _ _⟩
  case round =>
    obtain ⟨k, v, gs, cz, hk, rfl, hR, hO, h0, hA, hK⟩ := hrel
    have hSS := World.block_lt_of_cell? w _ B0.out
    have kW : Kept [w.heap.size + 1] w wr := (K0.out.mono (M := [w.heap.size + 1]) (by simp)).trans hK.out (fun y hy _ => hy)
    have b0 := kW.cell B0.out (by simp; omega)
    by_cases hlt : k < n
    · obtain ⟨g, off, p, c', rfl, hc0, hc1, hc2, hrd, _⟩ := HR.out.2.2 k hlt
      have hgw : g < w.heap.size := World.block_lt_of_cell? w _ hc0
      have d0 := kW.cell hc0 (by simp; omega)
      have d1 := kW.cell hc1 (by simp; omega)
      have d2 := kW.cell hc2 (by simp; omega)
      have hv := HV.out k hlt
      have HRD : Hid (Rd wr p ((L.getD k sh0).n * 2) (L.getD k sh0).xs) := by
        refine hrd.kept kW (fun hpos y hy => ?_)
        obtain ⟨g9, off9, e9, c9⟩ := hrd.2.2 0 hpos
        rw [hy] at e9
        have e8 : y = ⟨g9, off9, none⟩ := by simpa using e9
        have e7 : g9 < w.heap.size := World.block_lt_of_cell? w _ c9
        rw [e8]
        simp; omega
      obtain ⟨s, hs⟩ : ∃ s, L.getD k sh0 = s := ⟨_, rfl⟩
      rw [hs] at d0 d1 d2 HRD hv
      have HS := Lib.hid hs
      have HVV := Lib.hid hv
      have KW := Lib.hid kW
      clear hc0 hc1 hc2 hrd hs hv kW
      have he : s.nm ≠ x := by rw [← HS.out, HX.out]; exact HNE.out k hlt
      · have HP := Lib.hid (pre_yes (L := L) (x := x) (by rw [HR.out.1]; exact hlt) (by rw [HS.out]; exact he))
        clear he
        go_wp2_with fail
        have hHeld : RdW4 S g off k s p c' n c wr.drew := ⟨b0, d0, d1, d2⟩
        refine wp_region_held_drew (S := RdW4 S g off k s p c' n c) (by kernel_rfl) hHeld (fun hHeld => ?_)
        refine take_d (i := 0) (d := 15) (v := .pointer (some ⟨w.heap.size + 1, 0, none⟩)) rfl rfl (by kernel_rfl) (by kernel_rfl) (by kernel_rfl) (fun _ _ _ h => h) (by rfl) ?_ hHeld ?_
        · intro w9 hS9; obtain ⟨t0, t1, t2, t3⟩ := hS9; go_simp
        simp only [List.setIfInBounds_toArray, List.set_cons_zero, List.set_cons_succ]
        refine take_d (i := 2) (d := 17) (v := .pointer (some ⟨S, 0, none⟩)) rfl rfl (by kernel_rfl) (by kernel_rfl) (by kernel_rfl) (fun _ _ _ h => h) (by rfl) ?_ hHeld ?_
        · intro w9 hS9; obtain ⟨t0, t1, t2, t3⟩ := hS9; go_simp
        simp only [List.setIfInBounds_toArray, List.set_cons_zero, List.set_cons_succ]
        refine take_d (i := 3) (d := 18) (v := .pointer (some ⟨S, 0, none⟩)) rfl rfl (by kernel_rfl) (by kernel_rfl) (by kernel_rfl) (fun _ _ _ h => h) (by rfl) ?_ hHeld ?_
        · intro w9 hS9; obtain ⟨t0, t1, t2, t3⟩ := hS9; go_simp
        simp only [List.setIfInBounds_toArray, List.set_cons_zero, List.set_cons_succ]
        refine take_d (i := 4) (d := 19) (v := .pointer (some ⟨S, 0, none⟩)) rfl rfl (by kernel_rfl) (by kernel_rfl) (by kernel_rfl) (fun _ _ _ h => h) (by rfl) ?_ hHeld ?_
        · intro w9 hS9; obtain ⟨t0, t1, t2, t3⟩ := hS9; go_simp
        simp only [List.setIfInBounds_toArray, List.set_cons_zero, List.set_cons_succ]
        refine take_d (i := 5) (d := 20) (v := .slice (some ⟨g, off, none⟩) n c) rfl rfl (by kernel_rfl) (by kernel_rfl) (by kernel_rfl) (fun _ _ _ h => h) (by rfl) ?_ hHeld ?_
        · intro w9 hS9; obtain ⟨t0, t1, t2, t3⟩ := hS9; go_simp
        simp only [List.setIfInBounds_toArray, List.set_cons_zero, List.set_cons_succ]
        refine take_d (i := 6) (d := 21) (v := .int .i64 (k : Int)) rfl rfl (by kernel_rfl) (by kernel_rfl) (by kernel_rfl) (fun _ _ _ h => h) (by rfl) ?_ hHeld ?_
        · intro w9 hS9; obtain ⟨t0, t1, t2, t3⟩ := hS9; go_simp
        simp only [List.setIfInBounds_toArray, List.set_cons_zero, List.set_cons_succ]
        refine take_d (i := 7) (d := 22) (v := .pointer (some ⟨g, off + k * 3, none⟩)) rfl rfl (by kernel_rfl) (by kernel_rfl) (by kernel_rfl) (fun _ _ _ h => h) (by rfl) ?_ hHeld ?_
        · intro w9 hS9; obtain ⟨t0, t1, t2, t3⟩ := hS9; go_simp
        simp only [List.setIfInBounds_toArray, List.set_cons_zero, List.set_cons_succ]
        refine take_d (i := 8) (d := 23) (v := .pointer (some ⟨g, off + k * 3, none⟩)) rfl rfl (by kernel_rfl) (by kernel_rfl) (by kernel_rfl) (fun _ _ _ h => h) (by rfl) ?_ hHeld ?_
        · intro w9 hS9; obtain ⟨t0, t1, t2, t3⟩ := hS9; go_simp
        simp only [List.setIfInBounds_toArray, List.set_cons_zero, List.set_cons_succ]
        refine take_d (i := 9) (d := 24) (v := .string (strB s.nm)) rfl rfl (by kernel_rfl) (by kernel_rfl) (by kernel_rfl) (fun _ _ _ h => h) (by rfl) ?_ hHeld ?_
        · intro w9 hS9; obtain ⟨t0, t1, t2, t3⟩ := hS9; go_simp
        simp only [List.setIfInBounds_toArray, List.set_cons_zero, List.set_cons_succ]
        refine take_d (i := 10) (d := 25) (v := .pointer (some ⟨S, 0, none⟩)) rfl rfl (by kernel_rfl) (by kernel_rfl) (by kernel_rfl) (fun _ _ _ h => h) (by rfl) ?_ hHeld ?_
        · intro w9 hS9; obtain ⟨t0, t1, t2, t3⟩ := hS9; go_simp
        simp only [List.setIfInBounds_toArray, List.set_cons_zero, List.set_cons_succ]
        refine take_d (i := 11) (d := 26) (v := .pointer (some ⟨S, 0, none⟩)) rfl rfl (by kernel_rfl) (by kernel_rfl) (by kernel_rfl) (fun _ _ _ h => h) (by rfl) ?_ hHeld ?_
        · intro w9 hS9; obtain ⟨t0, t1, t2, t3⟩ := hS9; go_simp
        simp only [List.setIfInBounds_toArray, List.set_cons_zero, List.set_cons_succ]
        refine take_d (i := 12) (d := 27) (v := .pointer (some ⟨S, 0, none⟩)) rfl rfl (by kernel_rfl) (by kernel_rfl) (by kernel_rfl) (fun _ _ _ h => h) (by rfl) ?_ hHeld ?_
        · intro w9 hS9; obtain ⟨t0, t1, t2, t3⟩ := hS9; go_simp
        simp only [List.setIfInBounds_toArray, List.set_cons_zero, List.set_cons_succ]
        refine take_d (i := 13) (d := 28) (v := .slice (some ⟨g, off, none⟩) n c) rfl rfl (by kernel_rfl) (by kernel_rfl) (by kernel_rfl) (fun _ _ _ h => h) (by rfl) ?_ hHeld ?_
        · intro w9 hS9; obtain ⟨t0, t1, t2, t3⟩ := hS9; go_simp
        simp only [List.setIfInBounds_toArray, List.set_cons_zero, List.set_cons_succ]
        refine take_d (i := 14) (d := 29) (v := .int .i64 (k : Int)) rfl rfl (by kernel_rfl) (by kernel_rfl) (by kernel_rfl) (fun _ _ _ h => h) (by rfl) ?_ hHeld ?_
        · intro w9 hS9; obtain ⟨t0, t1, t2, t3⟩ := hS9; go_simp
        simp only [List.setIfInBounds_toArray, List.set_cons_zero, List.set_cons_succ]
        refine take_d (i := 15) (d := 30) (v := .pointer (some ⟨g, off + k * 3, none⟩)) rfl rfl (by kernel_rfl) (by kernel_rfl) (by kernel_rfl) (fun _ _ _ h => h) (by rfl) ?_ hHeld ?_
        · intro w9 hS9; obtain ⟨t0, t1, t2, t3⟩ := hS9; go_simp
        simp only [List.setIfInBounds_toArray, List.set_cons_zero, List.set_cons_succ]
        refine take_d (i := 16) (d := 31) (v := .pointer (some ⟨g, off + k * 3 + 1, none⟩)) rfl rfl (by kernel_rfl) (by kernel_rfl) (by kernel_rfl) (fun _ _ _ h => h) (by rfl) ?_ hHeld ?_
        · intro w9 hS9; obtain ⟨t0, t1, t2, t3⟩ := hS9; go_simp
        simp only [List.setIfInBounds_toArray, List.set_cons_zero, List.set_cons_succ]
        refine take_d (i := 17) (d := 32) (v := .agg #[.int .i64 s.k, .slice p s.n c']) rfl rfl (by kernel_rfl) (by kernel_rfl) (by kernel_rfl) (fun _ _ _ h => h) (by rfl) ?_ hHeld ?_
        · intro w9 hS9; obtain ⟨t0, t1, t2, t3⟩ := hS9; go_simp
        simp only [List.setIfInBounds_toArray, List.set_cons_zero, List.set_cons_succ]
        have hpk : preN L x k ≤ 3000000 := by have := pre_le L x k; omega
        have hK0 := Lib.hid hK.out.size
        refine wpAnyH_ready (rs := [1, 18]) (by kernel_rfl) (by simp) ?_
        refine AllReadyH.cons rfl (fun K hK => ?_) (AllReadyH.cons rfl (fun K hK => ?_) AllReadyH.nil)
        focus
          have r0 := (Kept.refl [] wr).drew.cell hR.out.1 (by simp)
          go_simp
          refine hK.out _ _ hHeld (fun hHeld => ?_)
          clear hK r0
          try simp only [Act.put, List.setIfInBounds_toArray, List.set_cons_zero, List.set_cons_succ]
          refine wpAnyH_ready (rs := [18]) (by kernel_rfl) (by simp) ?_
          refine AllReadyH.cons rfl (fun K hK => ?_) AllReadyH.nil
          go_simp
          refine (l8Copy_any _ _ _ _ _ _ (HRD.out.kept0 (Kept.refl [] wr).drew) (by have := HVV.out.1.1; omega) (by have := HVV.out.1.2; omega)).mono ?_
          rintro e w3 ⟨q, c3, rfl, hq, hb, hk3⟩
          refine hK.out _ _ (hHeld.kept hk3 (by simp) (by simp)) (fun hHeld => ?_)
          clear hK
          try simp only [Act.put, List.setIfInBounds_toArray, List.set_cons_zero, List.set_cons_succ]
          refine take_d (i := 19) (d := 34) (v := .agg #[.string (strB s.nm), .int .i64 s.k, .slice (some ⟨q, 0, none⟩) s.n c3]) rfl rfl (by kernel_rfl) (by kernel_rfl) (by kernel_rfl) (fun _ _ _ h => h) (by rfl) ?_ hHeld ?_
          · intro w9 hS9; go_simp
          simp only [List.setIfInBounds_toArray, List.set_cons_zero, List.set_cons_succ]
          refine wpAnyH_ready (rs := [20]) (by kernel_rfl) (by simp) ?_
          refine AllReadyH.cons rfl (fun K hK => ?_) AllReadyH.nil
          go_simp
          refine hK.out _ _ (hHeld.kept ((Kept.refl [] w3).alloc _) (by simp) (by simp)) (fun hHeld => ?_)
          clear hK
          try simp only [Act.put, List.setIfInBounds_toArray, List.set_cons_zero, List.set_cons_succ]
          refine wpAnyH_ready (rs := [21]) (by kernel_rfl) (by simp) ?_
          refine AllReadyH.cons rfl (fun K hK => ?_) AllReadyH.nil
          have hO4 := OwN.kept0 hO.out (((Kept.refl [] wr).drew.trans0 hk3).alloc (.cells #[.string (strB s.nm), .int .i64 s.k, .slice (some ⟨q, 0, none⟩) s.n c3] 49))
          have nn := boxN (Kept.refl [] (w3.alloc (.cells #[.string (strB s.nm), .int .i64 s.k, .slice (some ⟨q, 0, none⟩) s.n c3] 49)))
          refine step_appN (by rfl) _ _ (by rfl) W0.heap.size v (preN L x k) _ (by rfl) hO4 w3.heap.size _ _ _ (by rfl) nn.1 nn.2.1 nn.2.2 rfl rfl rfl hpk (by have h1 := hK0.out; have h2 := hk3.size; simp at h2 ⊢; omega) ?_
          intro v9 w9 hO9 hgr
          have hkg : Kept v.ownBlock.toList (w3.alloc (.cells #[.string (strB s.nm), .int .i64 s.k, .slice (some ⟨q, 0, none⟩) s.n c3] 49)) w9 := (Kept.refl _ _).grown hgr (fun j hj _ => by rw [hj]; simp)
          have hlo : ∀ y, y < W0.heap.size → y ∉ v.ownBlock.toList := fun y hy hm => by have h5 := (World.ownsRow.lt hO4 y (show v.ownBlock = some y by simpa using hm)).1; omega
          refine hK.out _ _ (hHeld.kept hkg (hlo _ (by have := HZ0.out; omega)) (hlo _ (by have := HZ0.out; omega))) (fun hHeld => ?_)
          clear hK
          try simp only [Act.put, List.setIfInBounds_toArray]
          have hN9 := OwN.step (M := dropL L x) (gs := gs) (cz := cz) (q := q) (c := c3) (k := preN L x k) (by rw [HP.out.2.1, HS.out]; exact hO9)
          obtain ⟨g9, c9, rfl, hg9, _⟩ := hN9.row (by omega)
          have r3 := ((Kept.refl [] wr).drew.trans0 hk3).cell hR.out.1 (by simp)
          have f3 := ((Kept.refl [] wr).drew.trans0 hk3).freeS hR.out.1 hR.out.2 (by simp)
          have r9 := hkg.cell (alloc_cell r3) (hlo _ (by have := HZ0.out; show w.heap.size + 1 < _; omega))
          have f9 := hkg.freeS (alloc_cell r3) (((Kept.refl [] w3).alloc _).freeS r3 f3 (by simp)) (hlo _ (by have := HZ0.out; show w.heap.size + 1 < _; omega))
          refine wpAnyH_ready (rs := [22]) (by kernel_rfl) (by simp) ?_
          refine AllReadyH.cons rfl (fun K hK => ?_) AllReadyH.nil
          go_simp
          refine hK.out _ _ hHeld (fun hHeld => ?_)
          clear hK
          try simp only [Act.put, List.setIfInBounds_toArray, List.set_cons_zero, List.set_cons_succ]
          refine wpAnyH_ready (rs := [23]) (by kernel_rfl) (by simp) ?_
          refine AllReadyH.cons rfl (fun K hK => ?_) AllReadyH.nil
          go_simp
          refine hK.out _ _ (hHeld.kept ((Kept.refl [w.heap.size + 1] w9).setCell _ _ (by simp)) (by simp; omega) (by simp; omega)) (fun hHeld => ?_)
          clear hK
          refine wpAnyH_done (by kernel_rfl) ?_ _
          try simp only [Act.put, List.setIfInBounds_toArray, List.set_cons_zero, List.set_cons_succ]
        rotate_left 1
        focus
          go_simp
          refine (l8Copy_any _ _ _ _ _ _ (HRD.out.kept0 (Kept.refl [] wr).drew) (by have := HVV.out.1.1; omega) (by have := HVV.out.1.2; omega)).mono ?_
          rintro e w3 ⟨q, c3, rfl, hq, hb, hk3⟩
          refine hK.out _ _ (hHeld.kept hk3 (by simp) (by simp)) (fun hHeld => ?_)
          clear hK
          try simp only [Act.put, List.setIfInBounds_toArray, List.set_cons_zero, List.set_cons_succ]
          refine take_d (i := 19) (d := 34) (v := .agg #[.string (strB s.nm), .int .i64 s.k, .slice (some ⟨q, 0, none⟩) s.n c3]) rfl rfl (by kernel_rfl) (by kernel_rfl) (by kernel_rfl) (fun _ _ _ h => h) (by rfl) ?_ hHeld ?_
          · intro w9 hS9; go_simp
          simp only [List.setIfInBounds_toArray, List.set_cons_zero, List.set_cons_succ]
          refine wpAnyH_ready (rs := [1, 20]) (by kernel_rfl) (by simp) ?_
          refine AllReadyH.cons rfl (fun K hK => ?_) (AllReadyH.cons rfl (fun K hK => ?_) AllReadyH.nil)
          focus
            have r0 := ((Kept.refl [] wr).drew.trans0 hk3).cell hR.out.1 (by simp)
            go_simp
            refine hK.out _ _ hHeld (fun hHeld => ?_)
            clear hK r0
            try simp only [Act.put, List.setIfInBounds_toArray, List.set_cons_zero, List.set_cons_succ]
            refine wpAnyH_ready (rs := [20]) (by kernel_rfl) (by simp) ?_
            refine AllReadyH.cons rfl (fun K hK => ?_) AllReadyH.nil
            go_simp
            refine hK.out _ _ (hHeld.kept ((Kept.refl [] w3).alloc _) (by simp) (by simp)) (fun hHeld => ?_)
            clear hK
            try simp only [Act.put, List.setIfInBounds_toArray, List.set_cons_zero, List.set_cons_succ]
            refine wpAnyH_ready (rs := [21]) (by kernel_rfl) (by simp) ?_
            refine AllReadyH.cons rfl (fun K hK => ?_) AllReadyH.nil
            have hO4 := OwN.kept0 hO.out (((Kept.refl [] wr).drew.trans0 hk3).alloc (.cells #[.string (strB s.nm), .int .i64 s.k, .slice (some ⟨q, 0, none⟩) s.n c3] 49))
            have nn := boxN (Kept.refl [] (w3.alloc (.cells #[.string (strB s.nm), .int .i64 s.k, .slice (some ⟨q, 0, none⟩) s.n c3] 49)))
            refine step_appN (by rfl) _ _ (by rfl) W0.heap.size v (preN L x k) _ (by rfl) hO4 w3.heap.size _ _ _ (by rfl) nn.1 nn.2.1 nn.2.2 rfl rfl rfl hpk (by have h1 := hK0.out; have h2 := hk3.size; simp at h2 ⊢; omega) ?_
            intro v9 w9 hO9 hgr
            have hkg : Kept v.ownBlock.toList (w3.alloc (.cells #[.string (strB s.nm), .int .i64 s.k, .slice (some ⟨q, 0, none⟩) s.n c3] 49)) w9 := (Kept.refl _ _).grown hgr (fun j hj _ => by rw [hj]; simp)
            have hlo : ∀ y, y < W0.heap.size → y ∉ v.ownBlock.toList := fun y hy hm => by have h5 := (World.ownsRow.lt hO4 y (show v.ownBlock = some y by simpa using hm)).1; omega
            refine hK.out _ _ (hHeld.kept hkg (hlo _ (by have := HZ0.out; omega)) (hlo _ (by have := HZ0.out; omega))) (fun hHeld => ?_)
            clear hK
            try simp only [Act.put, List.setIfInBounds_toArray]
            have hN9 := OwN.step (M := dropL L x) (gs := gs) (cz := cz) (q := q) (c := c3) (k := preN L x k) (by rw [HP.out.2.1, HS.out]; exact hO9)
            obtain ⟨g9, c9, rfl, hg9, _⟩ := hN9.row (by omega)
            have r3 := ((Kept.refl [] wr).drew.trans0 hk3).cell hR.out.1 (by simp)
            have f3 := ((Kept.refl [] wr).drew.trans0 hk3).freeS hR.out.1 hR.out.2 (by simp)
            have r9 := hkg.cell (alloc_cell r3) (hlo _ (by have := HZ0.out; show w.heap.size + 1 < _; omega))
            have f9 := hkg.freeS (alloc_cell r3) (((Kept.refl [] w3).alloc _).freeS r3 f3 (by simp)) (hlo _ (by have := HZ0.out; show w.heap.size + 1 < _; omega))
            refine wpAnyH_ready (rs := [22]) (by kernel_rfl) (by simp) ?_
            refine AllReadyH.cons rfl (fun K hK => ?_) AllReadyH.nil
            go_simp
            refine hK.out _ _ hHeld (fun hHeld => ?_)
            clear hK
            try simp only [Act.put, List.setIfInBounds_toArray, List.set_cons_zero, List.set_cons_succ]
            refine wpAnyH_ready (rs := [23]) (by kernel_rfl) (by simp) ?_
            refine AllReadyH.cons rfl (fun K hK => ?_) AllReadyH.nil
            go_simp
            refine hK.out _ _ (hHeld.kept ((Kept.refl [w.heap.size + 1] w9).setCell _ _ (by simp)) (by simp; omega) (by simp; omega)) (fun hHeld => ?_)
            clear hK
            refine wpAnyH_done (by kernel_rfl) ?_ _
            try simp only [Act.put, List.setIfInBounds_toArray, List.set_cons_zero, List.set_cons_succ]
          rotate_left 1
          focus
            go_simp
            refine hK.out _ _ (hHeld.kept ((Kept.refl [] w3).alloc _) (by simp) (by simp)) (fun hHeld => ?_)
            clear hK
            try simp only [Act.put, List.setIfInBounds_toArray, List.set_cons_zero, List.set_cons_succ]
            refine wpAnyH_ready (rs := [1]) (by kernel_rfl) (by simp) ?_
            refine AllReadyH.cons rfl (fun K hK => ?_) AllReadyH.nil
            have r0 := alloc_cell (o := .cells #[.string (strB s.nm), .int .i64 s.k, .slice (some ⟨q, 0, none⟩) s.n c3] 49) (((Kept.refl [] wr).drew.trans0 hk3).cell hR.out.1 (by simp))
            go_simp
            refine hK.out _ _ hHeld (fun hHeld => ?_)
            clear hK r0
            try simp only [Act.put, List.setIfInBounds_toArray, List.set_cons_zero, List.set_cons_succ]
            refine wpAnyH_ready (rs := [21]) (by kernel_rfl) (by simp) ?_
            refine AllReadyH.cons rfl (fun K hK => ?_) AllReadyH.nil
            have hO4 := OwN.kept0 hO.out (((Kept.refl [] wr).drew.trans0 hk3).alloc (.cells #[.string (strB s.nm), .int .i64 s.k, .slice (some ⟨q, 0, none⟩) s.n c3] 49))
            have nn := boxN (Kept.refl [] (w3.alloc (.cells #[.string (strB s.nm), .int .i64 s.k, .slice (some ⟨q, 0, none⟩) s.n c3] 49)))
            refine step_appN (by rfl) _ _ (by rfl) W0.heap.size v (preN L x k) _ (by rfl) hO4 w3.heap.size _ _ _ (by rfl) nn.1 nn.2.1 nn.2.2 rfl rfl rfl hpk (by have h1 := hK0.out; have h2 := hk3.size; simp at h2 ⊢; omega) ?_
            intro v9 w9 hO9 hgr
            have hkg : Kept v.ownBlock.toList (w3.alloc (.cells #[.string (strB s.nm), .int .i64 s.k, .slice (some ⟨q, 0, none⟩) s.n c3] 49)) w9 := (Kept.refl _ _).grown hgr (fun j hj _ => by rw [hj]; simp)
            have hlo : ∀ y, y < W0.heap.size → y ∉ v.ownBlock.toList := fun y hy hm => by have h5 := (World.ownsRow.lt hO4 y (show v.ownBlock = some y by simpa using hm)).1; omega
            refine hK.out _ _ (hHeld.kept hkg (hlo _ (by have := HZ0.out; omega)) (hlo _ (by have := HZ0.out; omega))) (fun hHeld => ?_)
            clear hK
            try simp only [Act.put, List.setIfInBounds_toArray]
            have hN9 := OwN.step (M := dropL L x) (gs := gs) (cz := cz) (q := q) (c := c3) (k := preN L x k) (by rw [HP.out.2.1, HS.out]; exact hO9)
            obtain ⟨g9, c9, rfl, hg9, _⟩ := hN9.row (by omega)
            have r3 := ((Kept.refl [] wr).drew.trans0 hk3).cell hR.out.1 (by simp)
            have f3 := ((Kept.refl [] wr).drew.trans0 hk3).freeS hR.out.1 hR.out.2 (by simp)
            have r9 := hkg.cell (alloc_cell r3) (hlo _ (by have := HZ0.out; show w.heap.size + 1 < _; omega))
            have f9 := hkg.freeS (alloc_cell r3) (((Kept.refl [] w3).alloc _).freeS r3 f3 (by simp)) (hlo _ (by have := HZ0.out; show w.heap.size + 1 < _; omega))
            refine wpAnyH_ready (rs := [22]) (by kernel_rfl) (by simp) ?_
            refine AllReadyH.cons rfl (fun K hK => ?_) AllReadyH.nil
            go_simp
            refine hK.out _ _ hHeld (fun hHeld => ?_)
            clear hK
            try simp only [Act.put, List.setIfInBounds_toArray, List.set_cons_zero, List.set_cons_succ]
            refine wpAnyH_ready (rs := [23]) (by kernel_rfl) (by simp) ?_
            refine AllReadyH.cons rfl (fun K hK => ?_) AllReadyH.nil
            go_simp
            refine hK.out _ _ (hHeld.kept ((Kept.refl [w.heap.size + 1] w9).setCell _ _ (by simp)) (by simp; omega) (by simp; omega)) (fun hHeld => ?_)
            clear hK
            refine wpAnyH_done (by kernel_rfl) ?_ _
            try simp only [Act.put, List.setIfInBounds_toArray, List.set_cons_zero, List.set_cons_succ]
        all_goals
          have hpn := HP.out.1
          have hRn : Hid ((w9.setCell ⟨w.heap.size + 1, 0, none⟩ (.slice (some ⟨g9, 0, none⟩) (preN L x k + 1) c9)).cell? ⟨w.heap.size + 1, 0, none⟩ = some (.slice (some ⟨g9, 0, none⟩) (preN L x k + 1) c9) ∧ (w9.setCell ⟨w.heap.size + 1, 0, none⟩ (.slice (some ⟨g9, 0, none⟩) (preN L x k + 1) c9)).frozen? ⟨w.heap.size + 1, 0, none⟩ = false) :=
            ⟨World.cell?_setCell_same _ _ _ r9, by rw [World.frozen?_setCell]; exact f9⟩
          have kS : Kept [w.heap.size + 1] w9 (w9.setCell ⟨w.heap.size + 1, 0, none⟩ (.slice (some ⟨g9, 0, none⟩) (preN L x k + 1) c9)) := (Kept.refl [w.heap.size + 1] w9).setCell _ _ (by simp)
          have hON := Lib.hid (hN9.kept kS (fun y hy hm => by simp [Value.ownBlock] at hy; have := HZ0.out; simp at hm; omega))
          have hAN : Hid (Apt W0.heap.size (w9.setCell ⟨w.heap.size + 1, 0, none⟩ (.slice (some ⟨g9, 0, none⟩) (preN L x k + 1) c9)) (fun i => if i = preN L x k then q else gs i) (preN L x k + 1) (dropL L x)) := by
            have ka := ((Kept.refl [] wr).drew.trans0 hk3).alloc (.cells #[.string (strB s.nm), .int .i64 s.k, .slice (some ⟨q, 0, none⟩) s.n c3] 49)
            have hne : ∀ y cs', Blk (w3.alloc (.cells #[.string (strB s.nm), .int .i64 s.k, .slice (some ⟨q, 0, none⟩) s.n c3] 49)) y cs' → 0 < cs'.length → y ∉ v.ownBlock.toList := by
              intro y cs' hb' hl hm
              have hm' : v.ownBlock = some y := by simpa using hm
              by_cases hk0 : preN L x k = 0
              · rw [h0.out hk0] at hm'; cases hm'
              · exact OwN.ne hO4 (by omega) hb' hl hm'
            have hqb := ((Kept.refl [] w3).alloc (.cells #[.string (strB s.nm), .int .i64 s.k, .slice (some ⟨q, 0, none⟩) s.n c3] 49)).blk hb (by simp)
            have hqw : W0.heap.size ≤ q := by have h1 := hK0.out; simp at hq; omega
            intro j hj
            by_cases hjk : j = preN L x k
            · subst hjk
              simp only [if_true]
              rw [HP.out.2.1, HS.out]
              refine ⟨kS.blk (hkg.blk hqb (hne _ _ hqb (by have := HRD.out.1; have := HVV.out.1.1; omega))) (by have := HZ0.out; simp; omega), hqw, fun j' hj' => ?_⟩
              rw [if_neg (by omega)]
              have := (hA.out j' hj').1.lt
              simp at hq
              omega
            · obtain ⟨a1, a2, a3⟩ := hA.out j (by omega)
              simp only [if_neg hjk]
              have a4 := ka.blk a1 (by simp)
              have hjm : (dropL L x).getD j sh0 ∈ dropL L x := mem_getD.2 ⟨j, by have := HP.out.2.2; omega, rfl⟩
              obtain ⟨i9, hi9, e9⟩ := mem_getD.1 (drop_mem.1 hjm).1
              have hv9 := HV.out i9 (by rw [← HR.out.1]; exact hi9)
              obtain ⟨_, _, _, _, _, _, _, _, hr9, _⟩ := HR.out.2.2 i9 (by rw [← HR.out.1]; exact hi9)
              rw [e9] at hv9 hr9
              refine ⟨kS.blk (hkg.blk a4 (hne _ _ a4 (by have := hr9.1; have := hv9.1.1; omega))) (by have := HZ0.out; simp; omega), a2, fun j' hj' => ?_⟩
              rw [if_neg (by omega)]
              exact a3 j' hj'
          have hKN : Hid (Kept [w.heap.size + 1] W0 (w9.setCell ⟨w.heap.size + 1, 0, none⟩ (.slice (some ⟨g9, 0, none⟩) (preN L x k + 1) c9))) := by
            have ka := ((Kept.refl [] wr).drew.trans0 hk3).alloc (.cells #[.string (strB s.nm), .int .i64 s.k, .slice (some ⟨q, 0, none⟩) s.n c3] 49)
            exact (((hK.out.trans0 ka).grown hgr (fun y hy hlt => by have := (World.ownsRow.lt hO4 y hy).1; omega))).trans kS (fun y hy _ => hy)
          clear hR hO h0 hA hK hO4 hgr hkg hlo hN9 r9 f9 r3 f3 nn hO9 hb hk3 kS hHeld hpk
          go_wp2_with fail
          go_roundw
          case rel => exact ⟨k + 1, _, _, _, by omega, by go_num, hRn, by rw [hpn]; exact hON, by intro h; omega, by rw [hpn]; exact hAN, hKN⟩
          case measure => simp [intOf]; omega
    · obtain rfl : k = n := by omega
      have hpe : preN L x k = (dropL L x).length := by rw [← HR.out.1]; exact pre_end L x
      rw [hpe] at hO h0 hA
      have hst := Lib.hid (stV_of2 rfl hO.out h0.out hA.out (by have := drop_len L x; have := HR.out.1; omega) (fun j hj => by
        obtain ⟨i9, hi9, e9⟩ := mem_getD.1 (drop_mem.1 (mem_getD.2 ⟨j, hj, rfl⟩)).1
        have hv9 := HV.out i9 (by rw [← HR.out.1]; exact hi9)
        obtain ⟨_, _, _, _, _, _, _, _, hr9, _⟩ := HR.out.2.2 i9 (by rw [← HR.out.1]; exact hi9)
        rw [e9] at hv9 hr9
        exact ⟨hr9.1, hv9⟩))
      obtain ⟨va, vc, rfl⟩ := hst.out.form
      obtain ⟨m, hm⟩ : ∃ m, (dropL L x).length = m := ⟨_, rfl⟩
      rw [hm] at hst hR
      have HMm := Lib.hid hm
      have r1 := hR.out.1
      have x0 := hK.out.cell R0.out.1 (by simp)
      have u0 := hK.out.freeS R0.out.1 R0.out.2 (by simp)
      have hKw : Hid (Kept [] w wr) := K0.out.trans hK.out (fun y hy hlt => by simp at hy; omega)
      have hzw : w.heap.size < W0.heap.size := by have := HZ0.out; omega
      clear hO h0 hA hK hR hm hpe
      have e4 := World.cell?_setCell_same _ _ (.slice va m vc) x0
      go_wp2_with fail
      refine bodyPost_ret (v := .agg #[.slice va m vc]) (by simp [results, Try.results34, go_sem, e4]) rfl ⟨_, rfl, ?_, hKw.out.setCell _ _ (by simp)⟩
      rw [HMm.out]
      exact (stV_set hst.out _ _ hzw).mono (by omega)

end Go.Proofs.Ytbljpeefekhoeab
