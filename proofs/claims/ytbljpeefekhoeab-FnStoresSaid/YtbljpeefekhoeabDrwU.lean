/-
  Draws of stores: contracts of l9Draw, l9Bent. Condition: few bytes have been read so far.
-/
import Derived.Deep.RegionHeld3
import Derived.Deep.DrawnRows
import Derived.Deep.DeepCutAuto
import Derived.Test.YtbljpeefekhoeabDrwQ
import Derived.Test.YtbljpeefekhoeabDst
import Derived.Test.YtbljpeefekhoeabCooA
namespace Go.Proofs.Ytbljpeefekhoeab
open Go.RowKit

/-- A box with a list. -/
structure LB (w : World) (O : Nat) (v : Value) : Prop where
  c0 : w.cell? ⟨O, 0, none⟩ = some v
  f0 : w.frozen? ⟨O, 0, none⟩ = false
theorem LB.kept {w w' : World} {O : Nat} {v : Value} {L : List Nat} (h : LB w O v) (kk : Kept L w w') (hL : O ∉ L) : LB w' O v :=
  ⟨kk.cell h.c0 hL, kk.free h.f0 (World.block_lt_of_cell? w _ h.c0) hL⟩
theorem LB.kept0 {w w' : World} {O : Nat} {v : Value} (h : LB w O v) (kk : Kept [] w w') : LB w' O v := h.kept kk (by simp)
theorem LB.lt {w : World} {O : Nat} {v : Value} (h : LB w O v) : O < w.heap.size := World.block_lt_of_cell? w _ h.c0
theorem LB.new {w : World} {v : Value} {T : TypeId} : LB (w.alloc (.cells #[v] T)) w.heap.size v :=
  ⟨by rw [World.cell?_alloc_new]; rfl, by simp⟩
theorem LB.set {w : World} {O : Nat} {v : Value} (h : LB w O v) (u : Value) : LB (w.setCell ⟨O, 0, none⟩ u) O u :=
  ⟨World.cell?_setCell_same _ _ _ h.c0, by simpa using h.f0⟩

/-- What a draw of a store answers. -/
def StoQ (lim : Int) (m : Nat) (w : World) (g : Nat) (a : Option Addr) (n c : Nat) (bs : List Int) (at_ : Int) (e : Ending) (w' : World) : Prop :=
  ∃ v L at2, e = .returned (.agg #[v]) ∧ DSto w.heap.size w' v L ∧ L.length ≤ m ∧ (storeC L = 0 ∧ (L = [] → v = .slice none 0 0)) ∧ Src w' g a n c bs at2 ∧ at2 ≤ at_ + lim ∧ Kept [g] w w'

/-- The state of a draw of a store: its box O, the result's box R, its list, the source. -/
structure DrL (w wr : World) (O R B : Nat) (v : Value) (L : List Sh) (g : Nat) (a : Option Addr) (n c : Nat) (bs : List Int) (at_ : Int) : Prop where
  ob : LB wr O v
  rb : LB wr R (.slice none 0 0)
  op : DSto B wr v L
  sr : Src wr g a n c bs at_
  kp : Kept [g] w wr
variable {w wr v1 : World} {O R B : Nat} {v u : Value} {L M : List Sh} {g : Nat} {a : Option Addr} {n c : Nat} {bs : List Int} {at_ at4 : Int}
theorem DrL.next (h : DrL w wr O R B v L g a n c bs at_) (hg : g < O ∧ g < R ∧ g < B) (hS : Src v1 g a n c bs at4) (kk : Kept [g] wr v1) : DrL w v1 O R B v L g a n c bs at4 :=
  ⟨h.ob.kept kk (by simp; omega), h.rb.kept kk (by simp; omega), h.op.kept kk (fun x hx => by simp at hx; omega), hS, h.kp.trans kk (fun _ hx _ => hx)⟩
theorem DrL.kept0 (h : DrL w wr O R B v L g a n c bs at_) (kk : Kept [] wr v1) : DrL w v1 O R B v L g a n c bs at_ :=
  ⟨h.ob.kept0 kk, h.rb.kept0 kk, h.op.kept0 kk, h.sr.kept0 kk, h.kp.trans0 kk⟩
theorem putS_nm {L : List Sh} {s : Sh} (h : putC L s = 0) : storeC (putS L s) = 0 ∧ (putS L s).length ≤ 10 ∧ ∀ i, i < (putS L s).length → ((putS L s).getD i sh0).nm.length ≤ 12 := by
  obtain ⟨_, _, h3, h4, h5⟩ := putC_ok h
  rw [h4]
  refine ⟨h5, h3, fun i hi => ?_⟩
  have := namedC_ok ((storeC_iff.1 h5).2.1 _ (mem_getD.2 ⟨i, hi, rfl⟩))
  have := (isNm_len this.1).2
  omega
theorem storeC_nil : storeC [] = 0 := storeC_iff.2 ⟨by simp, by simp, fun i j _ hj => by simp at hj⟩

theorem Kept.undrewU {L : List Nat} {w v : World} (h : Kept L w.drew v) : Kept L w v := ⟨h.os, h.tape, h.output, h.size, h.block⟩
/-- A box with a store's result, still empty. -/
structure EB (w : World) (b : Nat) : Prop where
  c0 : w.cell? ⟨b, 0, none⟩ = some (.int .i64 0)
  c1 : w.cell? ⟨b, 1, none⟩ = some (.slice none 0 0)
  f0 : w.frozen? ⟨b, 0, none⟩ = false
  f1 : w.frozen? ⟨b, 1, none⟩ = false
theorem EB.kept {w w' : World} {b : Nat} {L : List Nat} (h : EB w b) (kk : Kept L w w') (hL : b ∉ L) : EB w' b :=
  ⟨kk.cell h.c0 hL, kk.cell h.c1 hL, kk.free h.f0 (World.block_lt_of_cell? w _ h.c0) hL, kk.free h.f1 (World.block_lt_of_cell? w _ h.c1) hL⟩
theorem EB.new {w w' : World} {L : List Nat} {T : TypeId} (kk : Kept L (w.alloc (.cells #[.int .i64 0, .slice none 0 0] T)) w') (hL : w.heap.size ∉ L) : EB w' w.heap.size :=
  EB.kept (w := w.alloc (.cells #[.int .i64 0, .slice none 0 0] T)) ⟨by rw [World.cell?_alloc_new]; rfl, by rw [World.cell?_alloc_new]; rfl, by simp, by simp⟩ kk hL
/-- A filled box with a store's result. -/
structure FB (w : World) (b : Nat) (x : Int) (u : Value) : Prop where
  c0 : w.cell? ⟨b, 0, none⟩ = some (.int .i64 x)
  c1 : w.cell? ⟨b, 1, none⟩ = some u
theorem FB.new {w : World} {x : Int} {u : Value} {T : TypeId} : FB (w.alloc (.cells #[.int .i64 x, u] T)) w.heap.size x u :=
  ⟨by rw [World.cell?_alloc_new]; rfl, by rw [World.cell?_alloc_new]; rfl⟩
theorem EB.fill {w : World} {b : Nat} (h : EB w b) (x : Int) (u : Value) : FB ((w.setCell ⟨b, 0, none⟩ (.int .i64 x)).setCell ⟨b, 1, none⟩ u) b x u := by
  obtain ⟨_, s0, s1⟩ := cells2 (.int .i64 x) u h.c0 h.c1
  exact ⟨s0, s1⟩
theorem set2_other {w : World} {b O : Nat} {v : Value} (x u : Value) (h : w.cell? ⟨O, 0, none⟩ = some v) (hne : O ≠ b) : ((w.setCell ⟨b, 0, none⟩ x).setCell ⟨b, 1, none⟩ u).cell? ⟨O, 0, none⟩ = some v := by
  rw [World.cell?_setCell_other _ _ _ _ (by simp), World.cell?_setCell_other _ _ _ _ (by simp <;> omega)]; exact h
/-- What is put is a drawn store. -/
theorem put_drawn {w wx : World} {B : Nat} {L : List Sh} {s : Sh} {u : Value} (hs : StV w.heap.size wx u (putS L s).length (putS L s)) (hc : CapV wx u (putS L s).length) (hB : B ≤ w.heap.size) : DSto B wx u (putS L s) := by
  refine (DSto.ofPut hs hc fun i hi => ?_).mono hB
  by_cases h : putC L s = 0
  · exact (putS_nm h).2.2 i hi
  · rw [putS_no h] at hi; simp at hi

theorem put_set {X v3 : World} {B b : Nat} {L : List Sh} {s : Sh} {u : Value} (hs : StV X.heap.size v3 u (putS L s).length (putS L s)) (hc : CapV v3 u (putS L s).length) (hb : b < X.heap.size) (hB : B ≤ X.heap.size) (x y : Value) : DSto B ((v3.setCell ⟨b, 0, none⟩ x).setCell ⟨b, 1, none⟩ y) u (putS L s) :=
  ((put_drawn hs hc (Nat.le_refl _)).kept (M := [b]) (((Kept.refl [b] v3).setCell _ _ (by simp)).setCell _ _ (by simp)) (by simp; omega)).mono hB
theorem DrL.setF {v3 : World} {b : Nat} (h : DrL w wr O R B v L g a n c bs at_) (hg : g < O ∧ g < R ∧ g < B) (hgw : g < w.heap.size) (haw : 0 < n → ∀ y, a = some y → y.block < w.heap.size) (kk : Kept [g] wr v3) (hS : Src v3 g a n c bs at4) (hb : wr.heap.size ≤ b) (x y : Value) :
    DrL w ((v3.setCell ⟨b, 0, none⟩ x).setCell ⟨b, 1, none⟩ y) O R B v L g a n c bs at4 := by
  have hz := h.kp.size
  refine h.next hg ?_ ((kk.setCell _ _ (by simp; omega)).setCell _ _ (by simp; omega))
  exact (hS.setBox b 0 x (by omega) (fun q hn hq => by have := haw hn q hq; omega)).setBox b 1 y (by omega) (fun q hn hq => by have := haw hn q hq; omega)

theorem DrL.fin (h : DrL w wr O R B v L g a n c bs at_) (hg : g < w.heap.size) (hR : w.heap.size ≤ R ∧ R < B) (haw : 0 < n → ∀ y, a = some y → y.block < w.heap.size) : DSto w.heap.size (wr.setCell ⟨R, 0, none⟩ v) v L ∧ Src (wr.setCell ⟨R, 0, none⟩ v) g a n c bs at_ ∧ Kept [g] w (wr.setCell ⟨R, 0, none⟩ v) :=
  ⟨(h.op.kept (M := [R]) ((Kept.refl [R] wr).setCell _ _ (by simp)) (by simp; omega)).mono (by omega), h.sr.setBox R 0 v (by omega) (fun q hn hq => by have := haw hn q hq; omega), h.kp.setCell _ _ (by simp; omega)⟩
theorem Try.mkP2 (w : World) : (Instr.makeSlice 27 (.int .i64 2) (.int .i64 2)).run Try.prog w = .ok (.slice (some ⟨w.heap.size, 0, none⟩) 2 2) (w.alloc (.cells (madeCells #[Value.int .i64 0, Value.int .i64 0] (2 * 2)) 77)) := by
  obtain ⟨i0, hi, hzz⟩ := Option.map_eq_some_iff.1 Try.infoPt
  simp only [Prod.mk.injEq] at hzz
  obtain ⟨hz0, hz1, hz2⟩ := hzz
  have hr := run_make (P := Try.prog) w 27 77 i0 _ Try.underlying27 hi hz0 .i64 .i64 (2 : Nat) (2 : Nat) (by omega) (Int.le_refl _) (by rw [hz2]; omega) (by omega)
  simp only [Int.toNat_natCast, hz1] at hr
  exact hr
theorem mk_blk (w : World) : Blk (w.alloc (.cells (madeCells #[Value.int .i64 0, Value.int .i64 0] 4) 77)) w.heap.size (List.replicate 4 0) := by
  have e4 := made_zeros2 2
  rw [show 2 * 2 = 4 from rfl] at e4
  rw [e4]
  exact ⟨(ints _, 77), heap_alloc_new w _, by rw [ints_size]; exact Nat.le_refl _, fun k hk => ints_get _ k hk⟩

theorem rd_mk {w : World} {q : Nat} (h : Blk w q (List.replicate 4 0)) : Rd w (some ⟨q, 0, none⟩) (2 * 2) (List.replicate 4 0) := rd_newP h rfl (by decide)
theorem getD2u {x y : Int} {j : Nat} (hj : j < [x, y].length) : [x, y].getD j 0 = x ∨ [x, y].getD j 0 = y := by
  match j, hj with
  | 0, _ => exact Or.inl rfl
  | 1, _ => exact Or.inr rfl
  | n + 2, h => exact absurd h (by simp)

set_option maxHeartbeats 1000000 in
theorem l9Draw_any (g : Nat) (a : Option Addr) (n c : Nat) (bs : List Int) (at_ : Int) (w : World) (h : Src w g a n c bs at_) (ha : at_ ≤ 500000) :
    Calls Try.prog 33 #[.pointer (some ⟨g, 0, none⟩)] w (StoQ 400 10 w g a n c bs at_) := by
  have HS := Lib.hid h
  have hgl := h.lt
  have hat := h.2.2.2.2.2
  clear h
  obtain ⟨R, hR⟩ : ∃ R, R = w.heap.size := ⟨_, rfl⟩
  obtain ⟨O, hO⟩ : ∃ O, O = w.heap.size + 1 := ⟨_, rfl⟩
  have HR := Lib.hid hR
  have HO := Lib.hid hO
  go_enter Try.func33, Try.ntmps33
  obtain ⟨W, hW⟩ : ∃ W, (w.alloc (.cells #[.slice none 0 0] 26)).alloc (.cells #[.slice none 0 0] 26) = W := ⟨_, rfl⟩
  have kW : Kept [] w W := by rw [← hW]; exact ((Kept.refl _ _).alloc _).alloc _
  have zW : W.heap.size = w.heap.size + 2 := by rw [← hW]; simp
  have R1 : LB W R (.slice none 0 0) := by
    rw [← hW, hR]
    exact LB.new.kept0 ((Kept.refl [] _).alloc _)
  have O1 : LB W O (.slice none 0 0) := by
    rw [← hW, hO]
    have := @LB.new (w.alloc (.cells #[.slice none 0 0] 26)) (.slice none 0 0) 26
    simpa using this
  have D1 : Hid (DrL w W O R (w.heap.size + 2) (.slice none 0 0) [] g a n c bs at_) := Lib.hid ⟨O1, R1, DSto.nil _ _, HS.out.kept0 kW, kW.mono (by simp)⟩
  have hg3 : g < O ∧ g < R ∧ g < w.heap.size + 2 := by omega
  have HW := Lib.hid hW
  clear kW R1 O1 hW
  go_wp2_with fail
  rw [HW.out, ← HO.out, ← HR.out]
  have HZW := Lib.hid zW
  clear HW hR hO zW
  refine (l1Next_any g a n c bs at_ 5 _ D1.out.sr (by omega) (by omega)).mono ?_
  rintro e w1 ⟨r, rfl, r0, r1, hS1, k1⟩
  obtain ⟨m0, rfl⟩ := Int.eq_ofNat_of_zero_le r0
  have D2 := Lib.hid (D1.out.next hg3 hS1 k1)
  have HG3 := Lib.hid hg3
  clear D1 hS1 k1 hg3
  go_wp2_with fail
  go_loopw [4] (fun i wr => ∃ (m : Nat) (v : Value) (L : List Sh) (at3 : Int), i = .int .i64 m ∧ m ≤ 4 ∧ at3 + 80 * m ≤ at_ + 330 ∧ Hid (storeC L = 0 ∧ (L = [] → v = .slice none 0 0)) ∧ Hid (DrL w wr O R (w.heap.size + 2) v L g a n c bs at3)) (fun i _ => (intOf i).toNat)
  case atStart => exact ⟨m0, _, [], at_ + 1, rfl, by omega, by omega, ⟨storeC_nil, fun _ => rfl⟩, D2.out⟩
  case round =>
    obtain ⟨m, v, L, at3, rfl, hm, hat3, hz, hD⟩ := hrel
    have HWR : Hid (w.heap.size + 2 ≤ wr.heap.size) := by have h1 := hD.out.ob.lt; have h2 := HO.out; show _ ≤ _; omega
    by_cases hpos : 0 < m
    · obtain ⟨av, cv, rfl⟩ := hD.out.op.form
      have c0 := hD.out.ob.c0
      have c0d : wr.drew.cell? ⟨O, 0, none⟩ = some (.slice av L.length cv) := c0
      have hat6 : at3 ≤ 900000 := by omega
      have hat7 : at3 + 1 ≤ 600000 := by omega
      have ew1 : IntKind.i64.wrap ((m : Int) - 1) = (m : Int) - 1 := IntWalk.i64_in _ (by omega)
      have hl10 : L.length ≤ 10 := (storeC_iff.1 hz.out.1).1
      have hgR : g < R ∧ g < O ∧ R < wr.heap.size ∧ O < wr.heap.size ∧ w.heap.size + 2 ≤ wr.heap.size ∧ O < w.heap.size + 2 ∧ R < w.heap.size + 2 := by
        have h1 := HG3.out
        have h2 := hD.out.rb.lt
        have h3 := hD.out.ob.lt
        have h4 := HO.out
        have h5 := HR.out
        have h6 := D2.out.ob.lt
        have h7 := HWR.out
        omega
      have HGR := Lib.hid hgR
      go_upto_region 5 with fail
      go_cut [5] (fun s9 wx => ∃ (b : Nat) (s : Sh) (a1 : Option Addr) (c1 : Nat) (at4 : Int), s9 = .pointer (some ⟨b, 0, none⟩) ∧ at4 ≤ at3 + 80 ∧ Hid (FB wx b (putC L s) (.slice a1 (putS L s).length c1)) ∧ Hid (DSto (w.heap.size + 2) wx (.slice a1 (putS L s).length c1) (putS L s)) ∧ Hid (DrL w wx O R (w.heap.size + 2) (.slice av L.length cv) L g a n c bs at4))
      case first =>
        go_region_held3 (fun w' => w'.cell? ⟨O, 0, none⟩ = some (.slice av L.length cv))
          (first | with_reducible assumption | exact drew_pt (alloc_cell c0) | exact alloc_cell c0 | (with_reducible exact alloc_cell (by assumption)) | exact set2_other _ _ D3c.out (by have h1 := HGR.out; have h2 := k1'.size; have h3 := k2'.size; omega) | fail)
          (first
            | (go_at_call 24; go_split_ands; refine (l9Name_any g a n c bs at3 _ (by first | exact hD.out.sr.kept0 (Kept.refl [] wr).drew | exact hD.out.sr.kept0 ((Kept.refl [] wr).alloc _).drew | exact hD.out.sr.kept0 ((Kept.refl [] wr).drew.alloc _)) hat6).mono ?_; rintro e v1 ⟨l, rfl, hl12, hS1, k1⟩; (first | (have zb1 : Hid (EB v1 wr.heap.size) := Lib.hid (by first | exact EB.new k1.undrewU (by have := HGR.out; simp; omega) | exact EB.new (w := wr.drew) k1 (by have := HGR.out; simp; omega))) | skip); (first | (obtain ⟨q0, q1, q2, q3⟩ := zb1.out) | skip); have k1' : Kept [g] wr v1 := (by first | exact k1.undrewU | exact k1.undrewU.peel | exact k1.peel.undrewU); have E1 := Lib.hid (hD.out.next HG3.out hS1 k1'); have e1c := E1.out.ob.c0)
            | (go_at_call 53; go_split_ands; refine (l9Small_any g a n c bs (at3 + 1) _ (by first | exact E1.out.sr | exact E1.out.sr.kept0 ((Kept.refl [] v1).alloc _)) hat7).mono ?_; rintro e v2 ⟨kd, p2, m2, d2, xs2, at4, rfl, hrd2, hfr2, hm14, hS2, hat4, k2⟩; (first | (have zb2 : Hid (EB v2 wr.heap.size) := Lib.hid (zb1.out.kept k2 (by have := HGR.out; simp; omega))) | (have zb2 : Hid (EB v2 v1.heap.size) := Lib.hid (EB.new k2 (by have := HGR.out; have := k1'.size; simp; omega))) | skip); (first | (obtain ⟨q0, q1, q2, q3⟩ := zb2.out) | skip); have k2' : Kept [g] v1 v2 := (by first | exact k2 | exact k2.peel); have E2 := Lib.hid (E1.out.next HG3.out hS2 k2'); have e2c := E2.out.ob.c0)
            | (go_at_call 12; go_split_ands; refine (sPutShape_own av L.length cv L ⟨l, kd, m2, xs2⟩ p2 d2 _ (by first | exact (E2.out.op.rd (by omega)).2 | exact (E2.out.op.rd (by omega)).2.kept0 ((Kept.refl [] v2).alloc _)) (by first | exact hrd2 | exact hrd2.kept0 ((Kept.refl [] v2).alloc _)) (by show l.length ≤ _; omega)).mono ?_; rintro e v3 ⟨u3, rfl, hst3, hcap3, k3⟩; obtain ⟨a1, c1, rfl⟩ := hst3.form; (first | (have zb3 : Hid (EB v3 wr.heap.size) := Lib.hid (zb2.out.kept k3 (by simp))) | (have zb3 : Hid (EB v3 v1.heap.size) := Lib.hid (zb2.out.kept k3 (by simp))) | (have zb3 : Hid (EB v3 v2.heap.size) := Lib.hid (EB.new k3 (by simp))) | skip); (first | (obtain ⟨q0, q1, q2, q3⟩ := zb3.out) | skip); have k3' : Kept [] v2 v3 := (by first | exact k3 | exact k3.peel); have E3 := Lib.hid (E2.out.kept0 k3'); have D3c := Lib.hid E3.out.ob.c0; have e3c := D3c.out)
            | fail)
        all_goals
          have hsz2 : wr.heap.size ≤ v2.heap.size := Nat.le_trans k1'.size k2'.size
          try go_wp2_with fail
          go_meet
          have hDS := put_drawn hst3 hcap3 (B := w.heap.size + 2) (by have h1 := HGR.out; (try simp only [World.size_alloc]); omega)
          first
            | exact ⟨_, ⟨l, kd, m2, xs2⟩, a1, c1, at4, rfl, by omega, Lib.hid FB.new, Lib.hid (hDS.kept0 ((Kept.refl [] v3).alloc _)), Lib.hid (E3.out.kept0 ((Kept.refl [] v3).alloc _))⟩
            | exact ⟨_, ⟨l, kd, m2, xs2⟩, a1, c1, at4, rfl, by omega, Lib.hid (zb3.out.fill _ _), Lib.hid (put_set hst3 hcap3 (by (try simp only [World.size_alloc]); (have h4 := k1'.size; have h5 := k2'.size; try simp only [World.size_alloc] at h4 h5); (have h6 := k2.size; (try simp only [World.size_alloc] at h6)); (have h7 := k1.size; (try simp only [World.size_alloc, World.size_drew] at h7)); omega) (by have h1 := HGR.out; (try simp only [World.size_alloc]); omega) _ _), Lib.hid (hD.out.setF HG3.out hgl (fun hn y hy => HS.out.2.2.2.1.lt hn y hy) ((k1'.trans k2' (fun _ hx _ => hx)).trans0 k3') E3.out.sr (by have h4 := k1'.size; have h5 := k2'.size; omega) _ _)⟩
            | trace_state
      case rest =>
        obtain ⟨b, s, a1, c1, at4, rfl, hat4, hF, hDS, hD4⟩ := hcut
        have p0 := hF.out.c0
        have p1 := hF.out.c1
        have o0 := hD4.out.ob.c0
        have of := hD4.out.ob.f0
        by_cases hq : putC L s = 0
        · have HQ := Lib.hid hq
          have HPS := Lib.hid (putS_nm hq)
          have HNE : Hid (putS L s = [] → (Value.slice a1 (putS L s).length c1) = .slice none 0 0) := Lib.hid (fun e => by have h7 := (putC_ok hq).2.2.2.1; have h8 := putL_len L s; rw [← h7, e] at h8; simp at h8)
          rw [hq] at p0
          obtain ⟨nl, hnl⟩ : ∃ nl, (putS L s).length = nl := ⟨_, rfl⟩
          have HNL := Lib.hid hnl
          rw [hnl] at p1 hDS HNE
          have DN : Hid (DrL w (wc.setCell ⟨O, 0, none⟩ (.slice a1 nl c1)) O R (w.heap.size + 2) (.slice a1 nl c1) (putS L s) g a n c bs at4) := by
            have h1 := HG3.out
            have h4 := HO.out
            have h5 := HR.out
            have kO : Kept [O] wc (wc.setCell ⟨O, 0, none⟩ (.slice a1 nl c1)) := (Kept.refl [O] wc).setCell _ _ (by simp)
            exact Lib.hid ⟨hD4.out.ob.set _, hD4.out.rb.kept kO (by simp; omega), hDS.out.kept kO (fun x hx => by simp at hx; omega), hD4.out.sr.kept kO (by simp; omega) (fun hn y hy => by have := HS.out.2.2.2.1.lt hn y hy; simp; omega), hD4.out.kp.setCell _ _ (by simp; omega)⟩
          clear hq hnl
          go_wp2_with fail
          go_roundw
          case rel => exact ⟨m - 1, _, putS L s, at4, by congr 1; omega, by omega, by omega, ⟨HPS.out.1, HNE.out⟩, DN⟩
          case measure => simp [intOf]; omega
        · have hqb : (putC L s == 0) = false := beq_eq_false_iff_ne.2 hq
          generalize putC L s = q9 at p0 hqb hq
          go_wp2_with fail
          go_roundw
          case rel => exact ⟨m - 1, _, L, at4, by congr 1; omega, by omega, by omega, hz, hD4⟩
          case measure => simp [intOf]; omega
    · obtain rfl : m = 0 := by omega
      have hat8 : at3 ≤ at_ + 330 := by omega
      obtain ⟨wz, hwz⟩ : ∃ wz : World, wz = wr := ⟨_, rfl⟩
      subst hwz
      clear hat3 hm
      go_wp2_with fail
      refine (l1Chance_any g a n c bs at3 20 _ hD.out.sr (by omega) (by omega)).mono ?_
      rintro e w2 ⟨b, rfl, hS2, k2⟩
      have D3 := Lib.hid (hD.out.next HG3.out hS2 k2)
      clear hS2 k2 hD
      obtain ⟨av, cv, rfl⟩ := D3.out.op.form
      cases b
      · have c0 := D3.out.ob.c0
        have r0 := D3.out.rb.c0
        have rf := D3.out.rb.f0
        have hl10 := (storeC_iff.1 hz.out.1).1
        obtain ⟨ln, hln⟩ : ∃ ln, L.length = ln := ⟨_, rfl⟩
        have HLN := Lib.hid hln
        have hz9 := hz
        rw [hln] at c0 D3 hz9
        clear hln
        go_wp2_with fail
        have s0 := World.cell?_setCell_same _ _ (.slice av ln cv) r0
        have hf := D3.out.fin hgl (by have h4 := HR.out; omega) (fun hn y hy => HS.out.2.2.2.1.lt hn y hy)
        exact bodyPost_ret (v := .agg #[.slice av ln cv]) (by simp [results, Try.results33, go_sem, s0]) rfl ⟨.slice av ln cv, L, at3 + 1, rfl, hf.1, by have := HLN.out; omega, hz9.out, hf.2.1, by omega, hf.2.2⟩
      · have hmk := Try.mkP2
        go_wp2_with fail
        go_loopw [6] (fun i wr => ∃ (j : Nat) (v : Value) (L : List Sh) (at4 : Int), i = .int .i64 j ∧ j ≤ 10 ∧ at4 ≤ at3 + 1 + j ∧ Hid (storeC L = 0 ∧ (L = [] → v = .slice none 0 0)) ∧ Hid (DrL w wr O R (w.heap.size + 2) v L g a n c bs at4)) (fun i _ => 11 - (intOf i).toNat)
        case atStart => exact ⟨0, _, L, at3 + 1, rfl, by omega, by omega, hz, D3⟩
        case round =>
          obtain ⟨j, v, L, at4, rfl, hj, hat4, hz, hD⟩ := hrel
          obtain ⟨av, cv, rfl⟩ := hD.out.op.form
          have hl10 := (storeC_iff.1 hz.out.1).1
          go_wp2_with fail
          have hR5 := (Sl.ofBlk (Blk.new wr [9, 10]) (by simp)).rd
          refine (l1Pick_any g a n c bs at4 _ 2 _ [9, 10] _ (hD.out.sr.kept0 ((Kept.refl [] wr).alloc _)) (by omega) hR5 (fun _ y hy => by cases hy; have := hD.out.sr.lt; simp; omega) (by omega)).mono ?_
          rintro e w4 ⟨q, hq, rfl, hS4, k4⟩
          have hp := getD2u hq
          generalize ([9, 10] : List Int).getD q 0 = P at hp
          have D4 := Lib.hid ((hD.out.kept0 ((Kept.refl [] wr).alloc _)).next HG3.out hS4 k4)
          clear hS4 k4 hq hR5 hD
          by_cases hlt : (j : Int) < P
          · have hj9 : j ≤ 9 := by omega
            clear hp
            have c0 := D4.out.ob.c0
            have ew1 : IntKind.i64.wrap ((j : Int) + 1) = (j : Int) + 1 := IntWalk.i64_in _ (by omega)
            have hj1 : j + 1 ≤ 10 := by omega
            have h11 := HO.out
            have h12 := D4.out.ob.lt
            have h13 := HR.out
            have hO4 : O < w4.heap.size ∧ g < w4.heap.size ∧ w.heap.size + 2 ≤ w4.heap.size := by omega
            have HO4 := Lib.hid hO4
            obtain ⟨X, hX⟩ : ∃ X, strB (Lib.decDigits j) = X := ⟨_, rfl⟩
            have hx1 : X.size ≤ 1 := by rw [← hX, strB_size]; exact decD_len (k := 1) (by omega) (by omega)
            have hcat : (⟨#[110]⟩ : ByteArray) ++ X = strB (110 :: Lib.decDigits j) := by rw [← hX]; exact strB_append [110] _
            have hnl : (110 :: Lib.decDigits j).length ≤ 12 := by have := decD_len (u := j) (k := 1) (by omega) (by omega); simp; omega
            have HX := Lib.hid hX
            have HCAT := Lib.hid hcat
            have HNL := Lib.hid hnl
            have z3 : ¬ (9223372036854775807 : Int) < ((⟨#[110]⟩ : ByteArray).size : Int) + (X.size : Int) := by show ¬ (9223372036854775807 : Int) < (1 : Int) + _; omega
            have z4 : ¬ (9223372036854775807 < 1 + X.size) := by omega
            clear h11 h12 h13 hO4 hX hcat hnl
            go_upto_region 12 with fail
            go_cut [7] (fun s9 wx => ∃ (b : Nat) (s : Sh) (a1 : Option Addr) (c1 : Nat), s9 = .pointer (some ⟨b, 0, none⟩) ∧ Hid (FB wx b (putC L s) (.slice a1 (putS L s).length c1)) ∧ Hid (DSto (w.heap.size + 2) wx (.slice a1 (putS L s).length c1) (putS L s)) ∧ Hid (DrL w wx O R (w.heap.size + 2) (.slice av L.length cv) L g a n c bs (at4 + 1)))
            case first =>
              go_region_held3 (fun w' => w'.cell? ⟨O, 0, none⟩ = some (.slice av L.length cv) ∧ Hid (Kept [] w4 w'))
                ((go_split_ands; (try refine ⟨?_, ?_⟩) <;> first | with_reducible assumption | with_reducible exact Lib.hid ((Kept.refl _ _).drew) | with_reducible exact drew_pt (by assumption) | with_reducible exact Kept.allocH (by assumption) | with_reducible exact alloc_cell (by assumption) | with_reducible exact Lib.hid (Kept.trans0 (Hid.out (by assumption)) (by assumption)) | with_reducible exact Kept.cell (by assumption) (by assumption) (by simp) | with_reducible exact drew_pt (alloc_cell (by assumption)) | with_reducible exact Lib.hid ((Kept.refl [] _).alloc _).drew | with_reducible exact Lib.hid (((Kept.refl [] _).alloc _).alloc _).drew | with_reducible exact drew_pt (alloc_cell (alloc_cell (by assumption))) | exact set2_other _ _ e3c (by have := HO4.out; omega) | exact Lib.hid ((HK3.out.setCell _ _ (by have := HO4.out; first | (simp; done) | (simp; omega))).setCell _ _ (by have := HO4.out; first | (simp; done) | (simp; omega))) | fail))
                (first
                  | (go_at_call 54; go_split_ands; refine (l1Digits_small j _ (by omega)).mono ?_; rintro e v1 ⟨rfl, k1⟩; rw [HX.out]; have hz41 : w4.heap.size ≤ v1.heap.size := (by have h9 := k1.size; (first | simp only [World.size_alloc, World.size_drew] at h9 | simp only [World.size_drew] at h9); omega); (first | (have bq : Hid (Blk v1 w4.heap.size (List.replicate 4 0)) := Lib.hid (by first | exact k1.undrewU.blk (mk_blk w4) (by simp) | exact k1.undrewU.peel.blk (mk_blk w4) (by simp) | exact k1.blk (mk_blk w4.drew) (by simp) | exact k1.peel.blk (mk_blk w4.drew) (by simp))) | (have bq : Hid (Blk v1 (w4.heap.size + 1) (List.replicate 4 0)) := Lib.hid (by have h9 := k1.undrewU.blk (mk_blk (w4.alloc _)) (by simp); simpa using h9)) | skip); (first | (have zb1 : Hid (EB v1 w4.heap.size) := Lib.hid (by first | exact EB.new k1.undrewU (by simp) | exact EB.new k1.undrewU.peel (by simp) | exact EB.new (w := w4.drew) k1 (by simp))) | (have zb1 : Hid (EB v1 (w4.heap.size + 1)) := Lib.hid (by have h9 := EB.new (w := w4.alloc _) k1.undrewU (by simp); simpa using h9)) | skip))
                  | (go_at_call 12; go_split_ands; rw [HCAT.out]; refine (sPutShape_own av L.length cv L ⟨110 :: Lib.decDigits j, 3, 2, List.replicate 4 0⟩ (some ⟨_, 0, none⟩) 2 _ ((D4.out.op.rd (by omega)).2.kept0 (Hid.out (by assumption))) (rd_mk (by first | exact mk_blk _ | exact (mk_blk _).alloc _ | exact bq.out | exact bq.out.alloc _ | (have h9 := mk_blk (v1.alloc (.cells #[.int .i64 0, .slice none 0 0] 33)); simpa using h9))) (by have := HNL.out; show (110 :: Lib.decDigits j).length ≤ _; omega)).mono ?_; rintro e v3 ⟨u3, rfl, hst3, hcap3, k3⟩; obtain ⟨a1, c1, rfl⟩ := hst3.form; have HK3 : Hid (Kept [] w4 v3) := Lib.hid (Kept.trans0 (Hid.out (by assumption)) k3); have e3c := HK3.out.cell c0 (by simp); have hz43 := HK3.out.size; (first | (have zb3 := Lib.hid (zb1.out.kept (L := []) (by first | exact k3 | exact k3.peel) (by simp))) | (have zb3 : Hid (EB v3 v1.heap.size) := Lib.hid (by first | exact EB.new k3 (by simp) | exact EB.new k3.peel (by simp))) | (have zb3 : Hid (EB v3 (v1.heap.size + 1)) := Lib.hid (by have h9 := EB.new (w := v1.alloc _) k3 (by simp); simpa using h9)) | skip); (first | (obtain ⟨q0, q1, q2, q3⟩ := zb3.out) | skip))
                  | fail)
              all_goals
                try go_wp2_with fail
                go_meet
                first
                  | exact ⟨_, ⟨110 :: Lib.decDigits j, 3, 2, List.replicate 4 0⟩, a1, c1, rfl, Lib.hid FB.new, Lib.hid ((put_drawn hst3 hcap3 (B := w.heap.size + 2) (by have h1 := HO4.out; (try simp only [World.size_alloc]); omega)).kept0 ((Kept.refl [] v3).alloc _)), Lib.hid (D4.out.kept0 (HK3.out.alloc _))⟩
                  | exact ⟨_, ⟨110 :: Lib.decDigits j, 3, 2, List.replicate 4 0⟩, a1, c1, rfl, Lib.hid (zb3.out.fill _ _), Lib.hid (put_set hst3 hcap3 (by have h1 := HO4.out; (try simp only [World.size_alloc]); (have h9 := k1.size; (try simp only [World.size_alloc, World.size_drew] at h9)); omega) (by have h1 := HO4.out; (try simp only [World.size_alloc]); omega) _ _), Lib.hid (D4.out.kept0 ((HK3.out.setCell _ _ (by have := HO4.out; first | (simp; done) | (simp; omega))).setCell _ _ (by have := HO4.out; first | (simp; done) | (simp; omega))))⟩
                  | trace_state
            case rest =>
              obtain ⟨b, s, a1, c1, rfl, hF, hDS, hD4⟩ := hcut
              have p0 := hF.out.c0
              have p1 := hF.out.c1
              have o0 := hD4.out.ob.c0
              have of := hD4.out.ob.f0
              by_cases hq : putC L s = 0
              · have HQ := Lib.hid hq
                have HPS := Lib.hid (putS_nm hq)
                have HNE : Hid (putS L s = [] → (Value.slice a1 (putS L s).length c1) = .slice none 0 0) := Lib.hid (fun e => by have h7 := (putC_ok hq).2.2.2.1; have h8 := putL_len L s; rw [← h7, e] at h8; simp at h8)
                rw [hq] at p0
                obtain ⟨nl, hnl⟩ : ∃ nl, (putS L s).length = nl := ⟨_, rfl⟩
                have HNL := Lib.hid hnl
                rw [hnl] at p1 hDS HNE
                have DN : Hid (DrL w (wc.setCell ⟨O, 0, none⟩ (.slice a1 nl c1)) O R (w.heap.size + 2) (.slice a1 nl c1) (putS L s) g a n c bs (at4 + 1)) := by
                  have h1 := HG3.out
                  have h4 := HO.out
                  have h5 := HR.out
                  have kO : Kept [O] wc (wc.setCell ⟨O, 0, none⟩ (.slice a1 nl c1)) := (Kept.refl [O] wc).setCell _ _ (by simp)
                  exact Lib.hid ⟨hD4.out.ob.set _, hD4.out.rb.kept kO (by simp; omega), hDS.out.kept kO (fun x hx => by simp at hx; omega), hD4.out.sr.kept kO (by simp; omega) (fun hn y hy => by have := HS.out.2.2.2.1.lt hn y hy; simp; omega), hD4.out.kp.setCell _ _ (by simp; omega)⟩
                clear hq hnl
                go_wp2_with fail
                go_roundw
                case rel => exact ⟨j + 1, _, putS L s, at4 + 1, by go_num, by omega, by omega, ⟨HPS.out.1, HNE.out⟩, DN⟩
                case measure => simp [intOf]; omega
              · have hqb : (putC L s == 0) = false := beq_eq_false_iff_ne.2 hq
                generalize putC L s = q9 at p0 hqb hq
                go_wp2_with fail
                go_roundw
                case rel => exact ⟨j + 1, _, L, at4 + 1, by go_num, by omega, by omega, hz, hD4⟩
                case measure => simp [intOf]; omega
          · clear hp
            have c0 := D4.out.ob.c0
            have r0 := D4.out.rb.c0
            have rf := D4.out.rb.f0
            obtain ⟨ln, hln⟩ : ∃ ln, L.length = ln := ⟨_, rfl⟩
            have HLN := Lib.hid hln
            have hz9 := hz
            rw [hln] at c0 D4 hz9
            clear hln
            go_wp2_with fail
            have s0 := World.cell?_setCell_same _ _ (.slice av ln cv) r0
            have hf := D4.out.fin hgl (by have h4 := HR.out; omega) (fun hn y hy => HS.out.2.2.2.1.lt hn y hy)
            exact bodyPost_ret (v := .agg #[.slice av ln cv]) (by simp [results, Try.results33, go_sem, s0]) rfl ⟨.slice av ln cv, L, at4 + 1, rfl, hf.1, by have := HLN.out; omega, hz9.out, hf.2.1, by omega, hf.2.2⟩

end Go.Proofs.Ytbljpeefekhoeab
