/-
  Draws of names and of small shapes: contracts of l9Name, l9Small, DrawIsName. Condition: few bytes have been read so far.
-/
import Derived.Test.YtbljpeefekhoeabShpE
import Derived.Test.YtbljpeefekhoeabStrS
import Derived.Test.YtbljpeefekhoeabStoP
namespace Go.Proofs.Ytbljpeefekhoeab
open Go.RowKit

theorem row_of (T : List (List UInt8)) (w : World) {W : World} (hW : W = w.alloc (.cells (T.map strV).toArray 9)) (i : Nat) (hi : i < T.length) : W.cell? ⟨w.heap.size, i, none⟩ = some (strV (T.getD i [])) := by
  subst hW
  rw [World.cell?_alloc_new]
  simp [List.getD_eq_getElem?_getD, hi]
def names7 : List (List UInt8) := [[97], [98], [99], [100], [97, 98], [122, 57], [97, 98, 99, 100, 101, 102, 103, 104]]
theorem names7_len : ∀ x ∈ names7, x.length ≤ 12 := by decide
def names9 : List (List UInt8) := [[97], [122, 57], [], [97, 98, 99, 100, 101, 102, 103, 104], [97, 98, 99, 100, 101, 102, 103, 104, 105], [65], [97, 32, 98], [48], [97, 45]]
theorem names9_len : ∀ x ∈ names9, x.length ≤ 12 := by decide
theorem getD_len {T : List (List UInt8)} {m : Nat} (h : ∀ x ∈ T, x.length ≤ m) {i : Nat} (hi : i < T.length) : (T.getD i []).length ≤ m := h _ (by rw [List.getD_eq_getElem?_getD, List.getElem?_eq_getElem hi]; simp)

/-- What a draw of a name answers. -/
def NameR (w : World) (g : Nat) (a : Option Addr) (n c : Nat) (bs : List Int) (at_ : Int) (e : Ending) (w' : World) : Prop :=
  ∃ l, e = .returned (.string (strB l)) ∧ l.length ≤ 12 ∧ Src w' g a n c bs (at_ + 1) ∧ Kept [g] w w'

set_option maxHeartbeats 1000000 in
set_option maxRecDepth 20000 in
theorem l9Name_any (g : Nat) (a : Option Addr) (n c : Nat) (bs : List Int) (at_ : Int) (w : World) (h : Src w g a n c bs at_) (ha : at_ ≤ 900000) :
    Calls Try.prog 24 #[.pointer (some ⟨g, 0, none⟩)] w (NameR w g a n c bs at_) := by
  have S2 := Lib.hid h
  clear h
  go_enter Try.func24, Try.ntmps24
  go_wp2_with fail
  obtain ⟨W, hW⟩ : ∃ W, W = w.alloc (.cells (names7.map strV).toArray 9) := ⟨_, rfl⟩
  have hrow := Lib.hid (row_of names7 w hW)
  have kW : Kept [] w W := by rw [hW]; exact (Kept.refl _ _).alloc _
  have hlt : g < w.heap.size := S2.out.lt
  have hl : Calls Try.prog 35 #[.pointer (some ⟨g, 0, none⟩), .int .i64 7] (w.alloc (.cells (names7.map strV).toArray 9)) (NextR W g a n c bs at_ 7) := by
    rw [← hW]; exact l1Next_any g a n c bs at_ 7 W (S2.out.kept0 kW) (by omega) (by omega)
  refine hl.mono ?_
  rintro e w3 ⟨r, rfl, r0, r1, hS3, k3⟩
  obtain ⟨k, rfl⟩ := Int.eq_ofNat_of_zero_le r0
  have hk : k < 7 := by omega
  have hc := k3.cell (hrow.out k hk) (by simp; omega)
  unfold strV at hc
  have hm := getD_len names7_len (i := k) hk
  obtain ⟨l, hl2⟩ : ∃ l, names7.getD k [] = l := ⟨_, rfl⟩
  rw [hl2] at hc hm
  have K3 := Lib.hid ((kW.mono (M := [g]) (by simp)).trans k3 (fun x hx _ => hx))
  have S3 := Lib.hid hS3
  clear hl hS3 k3 hl2 kW hW
  go_wp2_with fail
  go_ret
  exact ⟨l, rfl, hm, S3.out, K3.out⟩

set_option maxHeartbeats 1000000 in
set_option maxRecDepth 20000 in
theorem DrawIsName_any (a : Option Addr) (n c : Nat) (bs : List Int) (w : World) (h : Rd8 w a n bs) :
    Calls Try.prog 11 #[.slice a n c] w (fun e w' => ∃ l, e = .returned (.string (strB l)) ∧ l.length ≤ 12 ∧ Kept [] w w') := by
  have HR := Lib.hid h
  clear h
  go_enter Try.func11, Try.ntmps11
  go_wp2_with fail
  obtain ⟨W, hW⟩ : ∃ W, W = w.alloc (.cells (names9.map strV).toArray 9) := ⟨_, rfl⟩
  have hrow := Lib.hid (row_of names9 w hW)
  have kW : Kept [] w W := by rw [hW]; exact (Kept.refl _ _).alloc _
  have hzW : W.heap.size = w.heap.size + 1 := by rw [hW]; simp
  have hl : Calls Try.prog 23 #[.slice a n c] (w.alloc (.cells (names9.map strV).toArray 9)) (fun e w' => ∃ g, e = .returned (.pointer (some ⟨g, 0, none⟩)) ∧ W.heap.size ≤ g ∧ Src w' g a n c bs 0 ∧ Kept [] W w') := by
    rw [← hW]; exact l1Source_any a n c bs W (HR.out.kept kW (by simp))
  refine hl.mono ?_
  rintro e w1 ⟨g, rfl, hg, hS, hK⟩
  have S1 := Lib.hid hS
  have K1 := Lib.hid hK
  clear hS hK hl hW
  have HKW := Lib.hid kW
  have hzz := Lib.hid hzW
  clear kW hzW
  go_wp2_with fail
  refine (l1Next_any g a n c bs 0 9 _ S1.out (by omega) (by omega)).mono ?_
  rintro e w3 ⟨r, rfl, r0, r1, hS3, k3⟩
  obtain ⟨k, rfl⟩ := Int.eq_ofNat_of_zero_le r0
  have hk : k < 9 := by omega
  have hc := k3.cell (K1.out.cell (hrow.out k hk) (by simp)) (by have := hzz.out; simp; omega)
  unfold strV at hc
  have hm := getD_len names9_len (i := k) hk
  obtain ⟨l, hl2⟩ : ∃ l, names9.getD k [] = l := ⟨_, rfl⟩
  rw [hl2] at hc hm
  have K3 := Lib.hid ((HKW.out.trans0 K1.out).trans k3 (fun x hx hlt => by have := hzz.out; simp at hx; omega))
  clear hS3 k3 hl2
  go_wp2_with fail
  go_ret
  exact ⟨l, rfl, hm, K3.out⟩

set_option maxHeartbeats 1000000 in
theorem l9Small_any (g : Nat) (a : Option Addr) (n c : Nat) (bs : List Int) (at_ : Int) (w : World) (h : Src w g a n c bs at_) (ha : at_ ≤ 600000) :
    Calls Try.prog 53 #[.pointer (some ⟨g, 0, none⟩)] w (ShpB 60 w g a n c bs at_) := by
  have HS := Lib.hid h
  have hgl := h.lt
  have hat := h.2.2.2.2.2
  clear h
  obtain ⟨R, hR⟩ : ∃ R, R = w.heap.size := ⟨_, rfl⟩
  have HR := Lib.hid hR
  go_enter Try.func53, Try.ntmps53
  go_wp2_with fail
  rw [← hR]
  have KR : Kept [] w (w.alloc (.cells #[.int .i64 0, .slice none 0 0] 29)) := (Kept.refl _ _).alloc _
  have R1 : SB (w.alloc (.cells #[.int .i64 0, .slice none 0 0] 29)) R 0 (.slice none 0 0) := by rw [hR]; exact SB.new
  obtain ⟨W, hW⟩ : ∃ W, w.alloc (.cells #[.int .i64 0, .slice none 0 0] 29) = W := ⟨_, rfl⟩
  have hWz : W.heap.size = w.heap.size + 1 := by rw [← hW]; simp
  rw [hW] at KR R1 ⊢
  have KR := Lib.hid KR
  have R1 := Lib.hid R1
  have HWZ := Lib.hid hWz
  clear hW hR hWz
  refine (l8Draw_any g a n c bs at_ _ (HS.out.kept0 KR.out) (by omega)).mono ?_
  rintro e w2 ⟨k, v, ps, at1, rfl, hop, hp1, hp6, hS2, hat1, k2⟩
  have hgR : g < R := by have := HR.out; omega
  have S2 := Lib.hid hS2
  have R2 := Lib.hid (R1.out.kept k2 (by simp; omega))
  have K2 := Lib.hid (KR.out.mono (M := [g]) (by simp) |>.trans k2 (fun _ hx _ => hx))
  obtain ⟨av, cv, rfl⟩ := hop.sl
  have OP := Lib.hid (hop.mono (show w.heap.size ≤ W.heap.size by have := HWZ.out; omega))
  have hat1' := hS2.2.2.2.2.2
  clear hS2 k2 hop KR R1
  obtain ⟨O, hO⟩ : ∃ O, O = w2.heap.size := ⟨_, rfl⟩
  have hRO : R < O := by have := R2.out.lt; omega
  obtain ⟨ln, hln⟩ : ∃ ln, ps.length = ln := ⟨_, rfl⟩
  have HLN := Lib.hid hln
  have F : Hid (DrF w O R g n a) := Lib.hid ⟨hgl, by have := HR.out; omega, hRO, fun hn y hy => HS.out.2.2.2.1.lt hn y hy⟩
  rw [hln] at OP hp1 hp6
  rw [hln]
  clear hln
  go_wp2_with fail
  rw [← hO]
  have D2 : Hid (DrS w (w2.alloc (.cells #[.int .i64 k, .slice av ln cv] 29)) O R k (.slice av ln cv) ps g a n c bs at1) := by
    rw [hO]
    have ka := (Kept.refl [] w2).alloc (.cells #[.int .i64 k, .slice av ln cv] 29)
    exact Lib.hid ⟨SB.new, R2.out.kept0 ka, OP.out.alloc _, S2.out.kept0 ka, K2.out.trans0 ka⟩
  obtain ⟨W3, hW3⟩ : ∃ W3, w2.alloc (.cells #[.int .i64 k, .slice av ln cv] 29) = W3 := ⟨_, rfl⟩
  rw [hW3] at D2 ⊢
  clear hW3 hO OP R2 S2 K2
  refine (l1Chance_any g a n c bs at1 2 _ D2.out.sr (by omega) (by omega)).mono ?_
  rintro e w3 ⟨b, rfl, hS3, k3⟩
  have D3 := Lib.hid (D2.out.next F.out hS3 k3)
  clear D2 hS3 k3
  cases b
  · have c0 := D3.out.ob.c0
    have c1 := D3.out.ob.c1
    have r0 := D3.out.rb.c0
    have r1 := D3.out.rb.c1
    have g0 := D3.out.rb.f0
    have g1 := D3.out.rb.f1
    go_wp2_with fail
    obtain ⟨_, s0, s1⟩ := cells2 (.int .i64 k) (.slice av ln cv) r0 r1
    have hf := D3.out.fin F.out (by have := HLN.out; omega) (by have := HLN.out; omega) k
    exact bodyPost_ret (v := .agg #[.int .i64 k, .slice av ln cv]) (by simp [results, Try.results53, go_sem, s0, s1]) rfl (ShpQ.b (m0 := 0) (m1 := 14) ⟨k, .slice av ln cv, ps, at1 + 1, rfl, hf.1, by omega, by have := HLN.out; omega, hf.2.1, by omega, hf.2.2⟩ (by omega))
  · go_wp2_with fail
    refine (l5Draw_any g a n c bs (at1 + 1) _ D3.out.sr (by omega)).mono ?_
    rintro e w4 ⟨x, y, at4, rfl, jx, jy, hS4, hat4, k4⟩
    have D4 := Lib.hid (D3.out.next F.out hS4 k4)
    clear D3 hS4 k4
    have hOlt := D4.out.ob.lt
    have hRlt := D4.out.rb.lt
    have hFR := F.out.hR
    have hwlt := D4.out.kp.size
    obtain ⟨q9, hq9⟩ : ∃ q9, w4.heap.size = q9 := ⟨_, rfl⟩
    obtain ⟨Wa, hWa⟩ : ∃ Wa, (w4.setCell ⟨O, 0, none⟩ (.int .i64 1)).setCell ⟨O, 1, none⟩ (.slice (some ⟨w4.heap.size, 0, none⟩) 1 1) = Wa := ⟨_, rfl⟩
    obtain ⟨W5, hW5⟩ : ∃ W5, Wa.alloc (.cells #[.int .i64 x, .int .i64 y] 77) = W5 := ⟨_, rfl⟩
    have hsz : Wa.heap.size = w4.heap.size := by rw [← hWa]; simp
    have kO : Kept [O] w4 Wa := by rw [← hWa]; exact ((Kept.refl [O] w4).setCell _ _ (by simp)).setCell _ _ (by simp)
    have kA : Kept [] Wa W5 := by rw [← hW5]; exact (Kept.refl [] _).alloc _
    have hO9 : OwP w.heap.size W5 (.slice (some ⟨w4.heap.size, 0, none⟩) 1 1) [(x, y)] := by rw [← hW5]; exact OwP.one x y hsz hwlt
    have B5 : SB W5 O 1 (.slice (some ⟨w4.heap.size, 0, none⟩) 1 1) := by
      have := (D4.out.ob.set0 1).set1 (.slice (some ⟨w4.heap.size, 0, none⟩) 1 1)
      rw [hWa] at this
      exact this.kept0 kA
    have R5 : SB W5 R 0 (.slice none 0 0) := (D4.out.rb.kept kO (by simp; omega)).kept0 kA
    have S5 : Src W5 g a n c bs at4 := (D4.out.sr.kept kO (by simp; omega) (fun hn y hy => by have := F.out.ha hn y hy; simp; omega)).kept0 kA
    have K5 : Kept [g] w W5 := (D4.out.kp.trans kO (fun z hz hlt => by simp at hz; omega)).trans0 kA
    have D5 : Hid (DrS w W5 O R 1 (.slice (some ⟨w4.heap.size, 0, none⟩) 1 1) [(x, y)] g a n c bs at4) := Lib.hid ⟨B5, R5, hO9, S5, K5⟩
    have HWA := Lib.hid hWa
    have HW5 := Lib.hid hW5
    have c0 := D4.out.ob.c0
    have f0 := D4.out.ob.f0
    have c1 := D4.out.ob.c1
    have f1 := D4.out.ob.f1
    rw [hq9] at D5
    have HQ9 := Lib.hid hq9
    clear hsz kO kA hO9 B5 R5 S5 K5 hWa hW5 hq9
    go_upto_region 4 with fail
    rw [HWA.out, HW5.out, HQ9.out]
    clear HWA HW5 HQ9 D4 c0 f0 c1 f1
    have c0 := D5.out.ob.c0
    have c1 := D5.out.ob.c1
    have r0 := D5.out.rb.c0
    have r1 := D5.out.rb.c1
    have g0 := D5.out.rb.f0
    have g1 := D5.out.rb.f1
    go_wp2_with fail
    obtain ⟨_, s0, s1⟩ := cells2 (.int .i64 1) (.slice (some ⟨q9, 0, none⟩) 1 1) r0 r1
    have hf := D5.out.fin F.out (by simp) (by simp) 1
    exact bodyPost_ret (v := .agg #[.int .i64 1, .slice (some ⟨q9, 0, none⟩) 1 1]) (by simp [results, Try.results53, go_sem, s0, s1]) rfl (ShpQ.b (m0 := 0) (m1 := 14) ⟨1, .slice (some ⟨q9, 0, none⟩) 1 1, [(x, y)], at4, rfl, hf.1, by omega, by simp, hf.2.1, by omega, hf.2.2⟩ (by omega))

end Go.Proofs.Ytbljpeefekhoeab
