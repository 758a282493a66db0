/-
  The walk of the law on PutShape. No condition but that the arguments read as named shapes and as a kind and a list of points.
-/
import Derived.Deep.RegionHeld3
import Derived.Deep.DrawnRows
import Derived.Deep.DeepCutAuto
import Derived.Test.YtklecaojkngjmadStoY
import Derived.Test.YtklecaojkngjmadMkS
namespace Go.Proofs.Ytklecaojkngjmad
open Go.RowKit

theorem putC_zero {L : List Sh} {s : Sh} (h : putC L s = 0) : storeC L = 0 ∧ namedC s = 0 ∧ ¬ 10 < (putL L s).length := by
  by_cases h1 : storeC L = 0
  · by_cases h2 : namedC s = 0
    · by_cases h3 : 10 < (putL L s).length
      · rw [(putC_full h1 h2 h3).1] at h; omega
      · exact ⟨h1, h2, h3⟩
    · rw [(putC_named h1 h2).1] at h; exact absurd h h2
  · rw [(putC_store h1).1] at h; exact absurd h h1
theorem putS_ok (L : List Sh) (s : Sh) : (putS L s).length + szAt (putS L s) (putS L s).length ≤ 2000000 := by
  unfold putS
  by_cases hz : putC L s = 0
  · rw [if_pos hz]
    obtain ⟨h1, h2, h3⟩ := putC_zero hz
    obtain ⟨_, o2, _⟩ := storeC_ok h1
    have hq : ∀ y, namedC y = 0 → y.nm.length + y.n ≤ 20 := fun y hy => by
      have h4 := namedC_ok hy
      have h5 := (shapeC_n h4.2).2
      have h6 := (isNm_len h4.1).2
      omega
    have h2 := szAt_max (putL L s) 20 (putL L s).length (fun i hi => by
      rcases insS_mem.1 (mem_getD.2 ⟨i, hi, rfl⟩) with e | e
      · have e2 : (putL L s).getD i sh0 = s := e
        rw [e2]; exact hq _ h2
      · obtain ⟨j, hj, e⟩ := mem_getD.1 (drop_mem.1 e).1
        have e2 : L.getD j sh0 = (putL L s).getD i sh0 := e
        rw [← e2]; exact hq _ (o2 j hj))
    omega
  · rw [if_neg hz]; decide
theorem sPutShape_u (a : Option Addr) (n c : Nat) (L : List Sh) (x : List UInt8) (k : Int) (p : Option Addr) (m d : Nat) (xs : List Int) (w : World) (h : RdSt w a n L) (hr : Rd w p (m * 2) xs) (hx : x.length ≤ 1048576) :
    Calls Try.prog 6 #[.agg #[.slice a n c], .string (strB x), .agg #[.int .i64 k, .slice p m d]] w (StoRes w (putC L ⟨x, k, m, xs⟩) (putS L ⟨x, k, m, xs⟩)) :=
  sPutShape_any a n c L ⟨x, k, m, xs⟩ p d w h hr hx
theorem PutShape_u (a : Option Addr) (n c : Nat) (L : List Sh) (x : List UInt8) (k : Int) (p : Option Addr) (m d : Nat) (xs : List Int) (w : World) (h : RdSt w a n L) (hr : Rd w p (m * 2) xs) (hx : x.length ≤ 1048576) :
    Calls Try.prog 9 #[.agg #[.slice a n c], .string (strB x), .agg #[.int .i64 k, .slice p m d]] w (StoRes w (putC L ⟨x, k, m, xs⟩) (putS L ⟨x, k, m, xs⟩)) :=
  PutShape_any a n c L ⟨x, k, m, xs⟩ p d w h hr hx
theorem stoRes_form {w w' : World} {v : Int} {M : List Sh} {m : Nat} {e : Ending} (h : StoRes w v M e w') (hm : M.length = m) : ∃ a c, e = .returned (.agg #[.int .i64 v, .slice a m c]) ∧ StV w.heap.size w' (.slice a m c) m M ∧ Kept [] w w' := by
  subst hm
  obtain ⟨u, rfl, hs, hk⟩ := h
  obtain ⟨a, c, rfl⟩ := hs.form
  exact ⟨a, c, rfl, hs, hk⟩

/-- A box with a store's result. -/
def BoxD (w : World) (g : Nat) (u : Int) (v : Value) : Prop := w.cell? ⟨g, 0, none⟩ = some (.int .i64 u) ∧ w.cell? ⟨g, 1, none⟩ = some v
theorem BoxD.new {w : World} {u : Int} {v : Value} {T : TypeId} : BoxD (w.alloc (.cells #[.int .i64 u, v] T)) w.heap.size u v :=
  ⟨((Kept.refl [] _).top rfl (by simp) 0 (v := .int .i64 u) rfl).1, ((Kept.refl [] _).top rfl (by simp) 1 (v := v) rfl).1⟩
theorem BoxD.kept {L : List Nat} {w w' : World} {g : Nat} {u : Int} {v : Value} (h : BoxD w g u v) (kk : Kept L w w') (hg : g ∉ L) : BoxD w' g u v := ⟨kk.cell h.1 hg, kk.cell h.2 hg⟩

theorem args2 {w w1 : World} {a : Option Addr} {n c : Nat} {k : Int} {p : Option Addr} {m d : Nat} {S T : TypeId} (hk : Kept [] ((w.alloc (.cells #[.slice a n c] S)).alloc (.cells #[.int .i64 k, .slice p m d] T)) w1) :
    w1.cell? ⟨w.heap.size, 0, none⟩ = some (.slice a n c) ∧ w1.cell? ⟨w.heap.size + 1, 0, none⟩ = some (.int .i64 k) ∧ w1.cell? ⟨w.heap.size + 1, 1, none⟩ = some (.slice p m d) :=
  ⟨(hk.peel.top rfl (by simp) 0 (v := .slice a n c) rfl).1, (hk.top (g := w.heap.size + 1) (by simp) (by simp) 0 (v := .int .i64 k) rfl).1, (hk.top (g := w.heap.size + 1) (by simp) (by simp) 1 (v := .slice p m d) rfl).1⟩
/-- An empty box of a result, from block A on. -/
def ZBox (w : World) (A b : Nat) : Prop := A ≤ b ∧ w.cell? ⟨b, 0, none⟩ = some (.int .i64 0) ∧ w.frozen? ⟨b, 0, none⟩ = false ∧ w.cell? ⟨b, 1, none⟩ = some (.slice none 0 0) ∧ w.frozen? ⟨b, 1, none⟩ = false
theorem zbox {A : Nat} {w w1 : World} {T : TypeId} (hA : A ≤ w.heap.size) (hk : Kept [] (w.alloc (.cells #[.int .i64 0, .slice none 0 0] T)) w1) : ZBox w1 A w.heap.size := by
  obtain ⟨c0, f0, _⟩ := hk.top (g := w.heap.size) rfl (by simp) 0 (v := .int .i64 0) rfl
  obtain ⟨c1, f1, _⟩ := hk.top (g := w.heap.size) rfl (by simp) 1 (v := .slice none 0 0) rfl
  exact ⟨hA, c0, f0, c1, f1⟩
theorem Kept.undrew {L : List Nat} {w v : World} (h : Kept L w.drew v) : Kept L w v := ⟨h.os, h.tape, h.output, h.size, h.block⟩
theorem ZBox.ge {A b : Nat} {w : World} (h : ZBox w A b) : A ≤ b := h.1
theorem ZBox.kept0 {A b : Nat} {w w1 : World} (h : ZBox w A b) (k : Kept [] w w1) : ZBox w1 A b :=
  ⟨h.1, k.cell h.2.1 (by simp), k.freeS h.2.1 h.2.2.1 (by simp), k.cell h.2.2.2.1 (by simp), k.freeS h.2.2.2.1 h.2.2.2.2 (by simp)⟩
theorem StW.mono {B D B' D' : Nat} {w : World} {v : Value} {n : Nat} {M : List Sh} (h : StW B D w v n M) (hB : B' ≤ B) (hD : D ≤ D') : StW B' D' w v n M := by
  refine ⟨h.1, ?_⟩
  rcases h.2 with h | ⟨g, gs, cs, c, hv, hs, ha⟩
  · exact .inl h
  · exact .inr ⟨g, gs, cs, c, hv, hs, fun x hx => ⟨Nat.le_trans hB (ha x hx).1, Nat.lt_of_lt_of_le (ha x hx).2 hD⟩⟩
theorem args2s {w w0 w2 : World} {a : Option Addr} {n c : Nat} {k : Int} {p : Option Addr} {m d : Nat} {S T : TypeId} (h : Kept [] ((w.alloc (.cells #[.slice a n c] S)).alloc (.cells #[.int .i64 k, .slice p m d] T)) w0) (hk : Kept [] w0 w2) {b : Nat} (hb : w0.heap.size ≤ b) (u v : Value) :
    ((w2.setCell ⟨b, 0, none⟩ u).setCell ⟨b, 1, none⟩ v).cell? ⟨w.heap.size, 0, none⟩ = some (.slice a n c) ∧ ((w2.setCell ⟨b, 0, none⟩ u).setCell ⟨b, 1, none⟩ v).cell? ⟨w.heap.size + 1, 0, none⟩ = some (.int .i64 k) ∧ ((w2.setCell ⟨b, 0, none⟩ u).setCell ⟨b, 1, none⟩ v).cell? ⟨w.heap.size + 1, 1, none⟩ = some (.slice p m d) ∧ Kept [] w0 ((w2.setCell ⟨b, 0, none⟩ u).setCell ⟨b, 1, none⟩ v) := by
  have h9 : Kept [] w0 ((w2.setCell ⟨b, 0, none⟩ u).setCell ⟨b, 1, none⟩ v) := (hk.setCell _ _ (fun hlt => absurd hlt (Nat.not_lt.2 hb))).setCell _ _ (fun hlt => absurd hlt (Nat.not_lt.2 hb))
  obtain ⟨x0, x1, x2⟩ := args2 (h.trans0 h9)
  exact ⟨x0, x1, x2, h9⟩
theorem put_end {B b : Nat} {w0 w2 : World} {gc : Int} {v : Value} {m : Nat} {R : List Sh} (zb : ZBox w2 w0.heap.size b) (hk : Kept [] w0 w2) (hs : StV B w2 v m R) (hB : w0.heap.size ≤ B) (hb : b < B) :
    Hid (w0.heap.size ≤ b ∧ b < ((w2.setCell ⟨b, 0, none⟩ (.int .i64 gc)).setCell ⟨b, 1, none⟩ v).heap.size) ∧ Hid (BoxD ((w2.setCell ⟨b, 0, none⟩ (.int .i64 gc)).setCell ⟨b, 1, none⟩ v) b gc v) ∧ Hid (StW w0.heap.size ((w2.setCell ⟨b, 0, none⟩ (.int .i64 gc)).setCell ⟨b, 1, none⟩ v).heap.size ((w2.setCell ⟨b, 0, none⟩ (.int .i64 gc)).setCell ⟨b, 1, none⟩ v) v m R) ∧ Hid (Kept [] w0 ((w2.setCell ⟨b, 0, none⟩ (.int .i64 gc)).setCell ⟨b, 1, none⟩ v)) := by
  obtain ⟨z0, z1, _, z3, _⟩ := zb
  have hlt : b < w2.heap.size := World.block_lt_of_cell? w2 _ z1
  have hsz : ((w2.setCell ⟨b, 0, none⟩ (.int .i64 gc)).setCell ⟨b, 1, none⟩ v).heap.size = w2.heap.size := by simp
  obtain ⟨_, ea, eb⟩ := cells2 (.int .i64 gc) v z1 z3
  refine ⟨Lib.hid ⟨z0, by rw [hsz]; exact hlt⟩, Lib.hid ⟨ea, eb⟩, Lib.hid ?_, Lib.hid ((hk.setCell _ _ (fun h => absurd h (Nat.not_lt.2 z0))).setCell _ _ (fun h => absurd h (Nat.not_lt.2 z0)))⟩
  rw [hsz]
  exact (hs.w.kept (((Kept.refl [b] w2).setCell _ _ (by simp)).setCell _ _ (by simp)) (fun x hx => by simp at hx; omega)).mono hB (Nat.le_refl _)
theorem boxSt {w w1 : World} {a : Option Addr} {n c : Nat} {S : TypeId} (hk : Kept [] (w.alloc (.cells #[.slice a n c] S)) w1) : w1.cell? ⟨w.heap.size, 0, none⟩ = some (.slice a n c) := (hk.top rfl (by simp) 0 (v := .slice a n c) rfl).1
theorem stb_lt {w : World} {g : Nat} {gs cs : Nat → Nat} {n : Nat} {L : List Sh} (h : StB w g gs cs n L) : ∀ x ∈ blksS g gs n, x < w.heap.size := by
  intro x hx
  rcases List.mem_cons.1 hx with rfl | hx
  · exact h.2.2.1.lt
  · obtain ⟨i, hi, rfl⟩ := List.mem_map.1 hx
    exact (h.2.2.2 i (List.mem_range.1 hi)).1.lt

set_option maxHeartbeats 1000000 in
set_option maxRecDepth 100000 in
theorem FnExactPutShape_walk (a : Option Addr) (n c : Nat) (L : List Sh) (s : ByteArray) (sk : Int) (sp : Option Addr) (sn sd : Nat) (sx : List Int) (w : World) (h : ArgSt w a n L) (_hx : s.size ≤ maxLen)
    (_hk : (Lit.int .i64 sk).wf = true) (hmax : sn ≤ 9223372036854775807) (hsp : sn ≤ 1048576 → Rd w sp (sn * 2) sx) :
    Calls Try.prog 3 #[.agg #[.slice a n c], .string s, .agg #[.int .i64 sk, .slice sp sn sd]] w (Ans w (.bool true)) := by
  obtain ⟨x, rfl⟩ : ∃ x, strB x = s := ⟨s.data.toList, strB_of s⟩
  have HA := Lib.hid (h.kept0 (((Kept.refl [] w).alloc (.cells #[.slice a n c] 24)).alloc (.cells #[.int .i64 sk, .slice sp sn sd] 27)))
  by_cases hlong : 1048576 < (strB x).size
  · go_enter Try.func3, Try.ntmps3
    go_wp2_with fail
    go_ret
    exact ⟨rfl, ((Kept.refl _ _).alloc _).alloc _⟩
  have hx : x.length ≤ 1048576 := by rw [strB_size] at hlong; omega
  have hx2 : ¬ (1048576 : Int) < (strB x).size := by omega
  by_cases hbig : n + szAt L n ≤ 1048576
  rotate_left 1
  · have hv := Lib.hid (leftS_no (left := 1048576) (x := n + szAt L n) (by omega))
    clear h hbig hsp
    go_enter Try.func3, Try.ntmps3
    go_wp2_with fail
    refine (szStore_any _ _ _ _ _ _ HA.out (by decide) (by decide)).mono ?_
    rintro e w1 ⟨rfl, h1⟩
    rw [hv.out]
    go_wp2_with fail
    go_ret
    exact ⟨rfl, h1.peel.peel⟩
  have HR := Lib.hid (h.rd hbig)
  have HN := Lib.hid (show n + szAt L n ≤ 2000000 by omega)
  have HX := Lib.hid hx
  have hv := Lib.hid (leftS_yes (left := 1048576) (x := n + szAt L n) (by omega))
  obtain ⟨M, hM⟩ : ∃ M : Int, 1048576 - ((n + szAt L n : Nat) : Int) = M := ⟨_, rfl⟩
  rw [hM] at hv
  have hM0 : ¬ M < 0 := by omega
  have hM1 : M ≤ 1048576 := by omega
  clear hM hbig h hx hlong
  by_cases hsb : (sn : Int) ≤ M
  rotate_left 1
  · have HS2 := Lib.hid (And.intro (show M < sn by omega) (And.intro (show 0 ≤ M by omega) hmax))
    clear hsb hmax hsp
    go_enter Try.func3, Try.ntmps3
    go_wp2_with fail
    refine (szStore_any _ _ _ _ _ _ HA.out (by decide) (by decide)).mono ?_
    rintro e w1 ⟨rfl, h1⟩
    rw [hv.out]
    obtain ⟨y0, y1, y2⟩ := args2 h1
    have H1 := Lib.hid h1
    clear h1
    go_wp2_with fail
    refine (szShape_no _ _ _ _ _ _ HS2.out.1 HS2.out.2.1 HS2.out.2.2).mono ?_
    rintro e w2 ⟨rfl, h2⟩
    go_wp2_with fail
    go_ret
    exact ⟨rfl, (H1.out.trans0 h2).peel.peel⟩
  have HP := Lib.hid (hsp (by omega))
  have HSB := Lib.hid (And.intro hsb hM1)
  have HSN := Lib.hid (show sn ≤ 1048576 by omega)
  have h01 : decide (M - (sn : Int) < 0) = false := decide_eq_false (by omega)
  have hg0 := putS_ok L ⟨x, sk, sn, sx⟩
  obtain ⟨R, hR0⟩ : ∃ R, putS L ⟨x, sk, sn, sx⟩ = R := ⟨_, rfl⟩
  obtain ⟨gc, hgc⟩ : ∃ gc, putC L ⟨x, sk, sn, sx⟩ = gc := ⟨_, rfl⟩
  rw [hR0] at hg0
  have HQ := Lib.hid (And.intro hR0 hgc)
  obtain ⟨m, hm⟩ : ∃ m, R.length = m := ⟨_, rfl⟩
  rw [hm] at hg0
  have HG := Lib.hid hg0
  have HMM := Lib.hid hm
  clear hR0 hgc hm hg0 hsb hmax hsp
  go_enter Try.func3, Try.ntmps3
  go_wp2_with fail
  refine (szStore_any _ _ _ _ _ _ HA.out (by decide) (by decide)).mono ?_
  rintro e wz ⟨rfl, hz⟩
  rw [hv.out]
  have HKz := Lib.hid hz
  obtain ⟨y0, y1, y2⟩ := args2 hz
  clear hz
  go_wp2_with fail
  refine (szShape_yes _ _ _ _ _ _ HSB.out.1 HSB.out.2).mono ?_
  rintro e w0 ⟨rfl, hz⟩
  have HK0 := Lib.hid (HKz.out.trans0 hz)
  clear hz y0 y1 y2 HKz
  obtain ⟨y0, y1, y2⟩ := args2 HK0.out
  go_wp2_with fail
  go_cut [8] (fun s9 wx => ∃ b a1 c1, s9 = .pointer (some ⟨b, 0, none⟩) ∧ Hid (w0.heap.size ≤ b ∧ b < wx.heap.size) ∧ Hid (BoxD wx b gc (.slice a1 m c1)) ∧ Hid (StW w0.heap.size wx.heap.size wx (.slice a1 m c1) m R) ∧ Hid (Kept [] w0 wx))
  case first =>
    go_region_held3 (fun w' => w'.cell? ⟨w.heap.size, 0, none⟩ = some (.slice a n c) ∧ w'.cell? ⟨w.heap.size + 1, 0, none⟩ = some (.int .i64 sk) ∧ w'.cell? ⟨w.heap.size + 1, 1, none⟩ = some (.slice sp sn sd) ∧ Hid (Kept [] w0 w'))
      ((go_split_ands; (try refine ⟨?_, ?_, ?_, ?_⟩) <;> with_reducible first | exact Lib.hid ((Kept.refl _ _).drew) | exact drew_pt (by assumption) | exact Kept.allocH (by assumption) | exact alloc_cell (by assumption) | exact Lib.hid (Kept.trans0 (Hid.out (by assumption)) (by assumption)) | exact Kept.cell (by assumption) (by assumption) (by simp) | exact drew_pt (alloc_cell (args2 HK0.out).1) | exact drew_pt (alloc_cell (args2 HK0.out).2.1) | exact drew_pt (alloc_cell (args2 HK0.out).2.2) | exact (args2 (HK0.out.trans0 HKx.out)).1 | exact (args2 (HK0.out.trans0 HKx.out)).2.1 | exact (args2 (HK0.out.trans0 HKx.out)).2.2 | exact HKx | exact alloc_cell (args2 (HK0.out.trans0 HKx.out)).1 | exact alloc_cell (args2 (HK0.out.trans0 HKx.out)).2.1 | exact alloc_cell (args2 (HK0.out.trans0 HKx.out)).2.2 | exact Lib.hid (Kept.alloc HKx.out _) | exact (args2s HK0.out HKx.out zb3.out.ge _ _).1 | exact (args2s HK0.out HKx.out zb3.out.ge _ _).2.1 | exact (args2s HK0.out HKx.out zb3.out.ge _ _).2.2.1 | exact Lib.hid (args2s HK0.out HKx.out zb3.out.ge _ _).2.2.2 | exact Lib.hid ((Kept.refl [] _).alloc _).drew | exact Lib.hid ((Kept.refl [] _).drew.alloc _) | fail))
      (first
        | (go_at_call 7; go_split_ands; refine (toStore_any _ _ _ _ _ (HR.out.kept0 (HK0.out.peel.peel.trans0 (Hid.out (by assumption)))) HN.out).mono ?_; rintro e v1 ⟨g1, gs1, rfl, hb1, ha1, hk1⟩; (first | (have zb1 : Hid (ZBox v1 w0.heap.size w0.heap.size) := Lib.hid (by first | exact zbox (w := w0) (Nat.le_refl _) hk1.undrew | exact zbox (w := w0.drew) (by simp) hk1)) | skip); (first | (obtain ⟨_, q0, q1, q2, q3⟩ := zb1.out) | skip))
        | (go_at_call 8; go_split_ands; refine (toShape_any _ _ _ _ _ _ (HP.out.kept0 (HK0.out.peel.peel.trans0 (Hid.out (by assumption)))) (by have := HSN.out; omega)).mono ?_; rintro e v2 ⟨g2, rfl, hg2, hb2, hk2⟩; (first | (have zb2 := Lib.hid (zb1.out.kept0 hk2)) | (have zb2 : Hid (ZBox v2 w0.heap.size v1.heap.size) := Lib.hid (zbox (show w0.heap.size ≤ _ by have h1 := hk1.size; simp at h1 ⊢; omega) hk2)) | skip); (first | (obtain ⟨_, q0, q1, q2, q3⟩ := zb2.out) | skip); have HK2v : Hid (Kept [] v1 v2) := Lib.hid (by first | exact hk2 | exact hk2.peel))
        | (go_at_call 6; go_split_ands; refine (sPutShape_u _ _ _ _ _ _ _ _ _ _ _ (by first | exact (hb1.kept0 HK2v.out).rd | exact ((hb1.kept0 HK2v.out).kept0 ((Kept.refl [] v2).alloc _)).rd) (rd_newP (by first | exact hb2 | exact (((Kept.refl [] v2).alloc _).blk hb2 (by simp))) HP.out.1 (by have := HSN.out; omega)) HX.out).mono ?_; rw [HQ.out.1, HQ.out.2]; intro e w2 hh; obtain ⟨a1, c1, rfl, sp1, k1⟩ := stoRes_form hh HMM.out; clear hh; (first | (have zb3 := Lib.hid (zb2.out.kept0 k1)) | (have zb3 : Hid (ZBox w2 w0.heap.size v2.heap.size) := Lib.hid (zbox (show w0.heap.size ≤ _ by have h1 := hk1.size; have h2 := HK2v.out.size; simp at h1 ⊢; omega) k1)) | skip); (first | (obtain ⟨_, q0, q1, q2, q3⟩ := zb3.out) | skip); have HK1v : Hid (Kept [] w0 v1) := Lib.hid (by first | exact (Kept.refl [] w0).drew.trans0 hk1 | exact ((Kept.refl [] w0).drew.alloc _).trans0 hk1 | exact ((Kept.refl [] w0).alloc _).drew.trans0 hk1); have HKx : Hid (Kept [] w0 w2) := Lib.hid ((HK1v.out.trans0 HK2v.out).trans0 (by first | exact k1 | exact k1.peel))))
    all_goals
      try go_wp2_with fail
      go_meet
      first
        | exact ⟨_, a1, c1, rfl, Lib.hid ⟨HKx.out.size, by simp⟩, Lib.hid BoxD.new, Lib.hid ((sp1.w.kept0 ((Kept.refl [] w2).alloc _)).mono (by have h1 := HK1v.out.size; have h2 := HK2v.out.size; (try simp only [World.size_alloc]); omega) (by simp)), Lib.hid (HKx.out.alloc _)⟩
        | exact ⟨_, a1, c1, rfl, put_end zb3.out HKx.out sp1 (by have h1 := HK1v.out.size; have h2 := HK2v.out.size; (try simp only [World.size_alloc]); omega) (by have h1 := hk1.size; have h2 := hk2.size; (try simp only [World.size_alloc, World.size_drew] at h1); (try simp only [World.size_alloc] at h2); (try simp only [World.size_alloc]); omega)⟩
  case rest =>
  obtain ⟨b9, a9, c9, rfl, hbb, B9, S9, K9⟩ := hcut
  obtain ⟨W2, rfl⟩ : ∃ w' : World, w' = wc := ⟨_, rfl⟩
  have HK2 := Lib.hid (HK0.out.trans0 K9.out)
  have HZ2 := Lib.hid (And.intro hbb.out K9.out.size)
  have HK2s : Hid (w.heap.size + 1 + 1 ≤ W2.heap.size) := by have h1 := (HK0.out.trans0 K9.out).size; simp at h1; exact h1
  clear HK0 K9 y0 y1 y2 hbb
  obtain ⟨y0, _, _⟩ := args2 HK2.out
  go_wp2_with fail
  refine (toStore_any _ _ _ _ _ (HR.out.kept0 HK2.out.peel.peel) HN.out).mono ?_
  rintro e w3 ⟨g3, gs3, rfl, hb3, ha3, k3⟩
  have ka3 : Kept [] w3 (w3.alloc (.cells #[.slice (some ⟨g3, 0, none⟩) n n] 32)) := (Kept.refl [] w3).alloc _
  have X0 := Lib.hid (boxSt (Kept.refl [] (w3.alloc (.cells #[.slice (some ⟨g3, 0, none⟩) n n] 32))))
  have L3 := Lib.hid (And.intro ha3 (stb_lt hb3))
  have HS3 := Lib.hid (hb3.kept0 ka3)
  have B13 := Lib.hid (B9.out.kept (k3.trans0 ka3) (by simp))
  have S13 := Lib.hid (S9.out.kept0 (k3.trans0 ka3))
  have HK3 := Lib.hid (HK2.out.trans0 (k3.trans0 ka3))
  clear y0
  obtain ⟨_, y1, y2⟩ := args2 (HK2.out.trans0 k3)
  have Z23 := Lib.hid k3.size
  obtain ⟨W3, hW3⟩ : ∃ W3, W3 = w3.alloc (.cells #[.slice (some ⟨g3, 0, none⟩) n n] 32) := ⟨_, rfl⟩
  have Z33 : Hid (w3.heap.size < W3.heap.size) := by show _ < _; rw [hW3]; simp
  have hzw3 : w.heap.size + 1 < w3.heap.size := World.block_lt_of_cell? w3 _ y1
  clear ka3 k3 hb3 ha3 B9 S9 HK2
  go_wp2_with fail
  rw [← hW3] at X0 HS3 B13 S13 HK3 ⊢
  clear hW3 y1 y2 hzw3
  refine (toShape_any _ _ _ _ _ _ (HP.out.kept0 HK3.out.peel.peel) (by have := HSN.out; omega)).mono ?_
  rintro e w4 ⟨g4, rfl, hg4, hb4, k4⟩
  have ka4 : Kept [] w4 (w4.alloc (.cells #[.int .i64 sk, .slice (some ⟨g4, 0, none⟩) sn sn] 39)) := (Kept.refl [] w4).alloc _
  have XB := Lib.hid (BoxD.new (w := w4) (u := sk) (v := .slice (some ⟨g4, 0, none⟩) sn sn) (T := 39))
  have HB4 := Lib.hid (ka4.blk hb4 (by simp))
  have G4 := Lib.hid (And.intro hg4 hb4.lt)
  have HS4 := Lib.hid (HS3.out.kept0 (k4.trans0 ka4))
  have B14 := Lib.hid (B13.out.kept (k4.trans0 ka4) (by simp))
  have S14 := Lib.hid (S13.out.kept0 (k4.trans0 ka4))
  have HK4 := Lib.hid (HK3.out.trans0 (k4.trans0 ka4))
  have X04 := Lib.hid ((k4.trans0 ka4).cell X0.out (by simp))
  have y0 := k4.cell X0.out (by simp)
  have hzw4 : w3.heap.size < w4.heap.size := World.block_lt_of_cell? w4 _ y0
  have Z34 := Lib.hid k4.size
  obtain ⟨x1, x2⟩ := XB.out
  obtain ⟨W4, hW4⟩ : ∃ W4, W4 = w4.alloc (.cells #[.int .i64 sk, .slice (some ⟨g4, 0, none⟩) sn sn] 39) := ⟨_, rfl⟩
  have Z44 : Hid (w4.heap.size < W4.heap.size) := by show _ < _; rw [hW4]; simp
  clear ka4 k4 hb4 hg4 X0 HS3 B13 S13 HK3
  go_wp2_with fail
  rw [← hW4] at XB HB4 HS4 B14 S14 HK4 X04 ⊢
  clear hW4 y0 x1 x2 hzw4
  refine (PutShape_u _ _ _ _ _ _ _ _ _ _ _ HS4.out.rd (rd_newP HB4.out HP.out.1 (by have := HSN.out; omega)) HX.out).mono ?_
  rw [HQ.out.1, HQ.out.2]
  intro e w5 hh
  obtain ⟨a2, c2, rfl, sp2, k5⟩ := stoRes_form hh HMM.out
  clear hh
  have ka5 : Kept [] w5 (w5.alloc (.cells #[.int .i64 gc, .slice a2 m c2] 34)) := (Kept.refl [] w5).alloc _
  have B2 := Lib.hid (BoxD.new (w := w5) (u := gc) (v := .slice a2 m c2) (T := 34))
  have S2 := Lib.hid (sp2.w.kept0 ka5)
  have B15 := Lib.hid (B14.out.kept (k5.trans0 ka5) (by simp))
  have S15 := Lib.hid (S14.out.kept0 (k5.trans0 ka5))
  have X05 := Lib.hid ((k5.trans0 ka5).cell X04.out (by simp))
  have XB5 := Lib.hid (XB.out.kept (k5.trans0 ka5) (by simp))
  have HB5 := Lib.hid ((k5.trans0 ka5).blk HB4.out (by simp))
  have HS5 := Lib.hid (HS4.out.kept0 (k5.trans0 ka5))
  have HK5 := Lib.hid (HK4.out.trans0 (k5.trans0 ka5))
  obtain ⟨y2, y3⟩ := B14.out.kept k5 (by simp)
  have Z45 := Lib.hid k5.size
  have hzw5 : b9 < w5.heap.size := World.block_lt_of_cell? w5 _ y2
  obtain ⟨y5, y6⟩ := B2.out
  obtain ⟨W5, hW5⟩ : ∃ W5, W5 = w5.alloc (.cells #[.int .i64 gc, .slice a2 m c2] 34) := ⟨_, rfl⟩
  clear ka5 k5 sp2 B14 S14 X04 XB HB4 HS4 HK4
  go_wp2_with fail
  rw [← hW5] at B2 S2 B15 S15 X05 XB5 HB5 HS5 HK5 ⊢
  clear hW5 y2 y3 y5 y6 hzw5
  refine (eqStoreResult_yes _ _ _ _ _ _ _ _ S2.out.rd S15.out.rd).mono ?_
  rintro e w6 ⟨rfl, k6⟩
  have B16 := Lib.hid (B15.out.kept k6 (by simp))
  have B26 := Lib.hid (B2.out.kept k6 (by simp))
  have S16 := Lib.hid (S15.out.kept0 k6)
  have S26 := Lib.hid (S2.out.kept0 k6)
  have XB6 := Lib.hid (XB5.out.kept k6 (by simp))
  have HB6 := Lib.hid (k6.blk HB5.out (by simp))
  have HS6 := Lib.hid (HS5.out.kept0 k6)
  have HK6 := Lib.hid (HK5.out.trans0 k6)
  have y1 := k6.cell X05.out (by simp)
  have X06 := Lib.hid y1
  clear k6 B15 B2 S15 S2 X05 XB5 HB5 HS5 HK5
  obtain ⟨y0, _, _⟩ := args2 HK6.out
  go_wp2_with fail
  go_region_held3 (fun w' => w'.cell? ⟨w3.heap.size, 0, none⟩ = some (.slice (some ⟨g3, 0, none⟩) n n) ∧ w'.cell? ⟨w.heap.size, 0, none⟩ = some (.slice a n c) ∧ Hid (Kept [] w6 w'))
    ((go_split_ands; (try refine ⟨?_, ?_, ?_⟩) <;> with_reducible first | exact Lib.hid ((Kept.refl _ _).drew) | exact drew_pt (by assumption) | exact Kept.allocH (by assumption) | exact alloc_cell (by assumption) | exact Lib.hid (Kept.trans0 (Hid.out (by assumption)) (by assumption)) | exact Kept.cell (by assumption) (by assumption) (by simp)))
    (first
      | (go_at_call 7; go_split_ands; refine (toStore_any _ _ _ _ _ (HR.out.kept0 (HK6.out.peel.peel.trans0 (Kept.refl [] _).drew)) HN.out).mono ?_; rintro e v7 ⟨ge0, gse, rfl, hb, qe0, hk1⟩)
      | (go_at_call 11; go_split_ands; refine (eqStore_yes _ _ _ _ _ _ _ (HS6.out.kept0 ((Kept.refl [] w6).drew.trans0 hk1)).rd hb.rd).mono ?_; rintro e w7 ⟨rfl, hk2⟩))
  have k7 : Kept [] w6 w7 := ((Kept.refl [] w6).drew.trans0 hk1).trans0 hk2
  have B17 := Lib.hid (B16.out.kept k7 (by simp))
  have B27 := Lib.hid (B26.out.kept k7 (by simp))
  have S17 := Lib.hid (S16.out.kept0 k7)
  have S27 := Lib.hid (S26.out.kept0 k7)
  have XB7 := Lib.hid (XB6.out.kept k7 (by simp))
  have HB7 := Lib.hid (k7.blk HB6.out (by simp))
  have HS7 := Lib.hid (HS6.out.kept0 k7)
  have HK7 := Lib.hid (HK6.out.trans0 k7)
  have X07 := Lib.hid (k7.cell X06.out (by simp))
  clear k7 hk1 hk2 hb B16 B26 S16 S26 XB6 HB6 HS6 HK6 X06 y0 y1 qe0
  obtain ⟨_, y1, y2⟩ := args2 HK7.out
  obtain ⟨x1, x2⟩ := XB7.out
  go_wp2_with fail
  go_region_held3 (fun w' => w'.cell? ⟨w4.heap.size, 0, none⟩ = some (.int .i64 sk) ∧ w'.cell? ⟨w4.heap.size, 1, none⟩ = some (.slice (some ⟨g4, 0, none⟩) sn sn) ∧ w'.cell? ⟨w.heap.size + 1, 0, none⟩ = some (.int .i64 sk) ∧ w'.cell? ⟨w.heap.size + 1, 1, none⟩ = some (.slice sp sn sd) ∧ Hid (Kept [] w7 w'))
    ((go_split_ands; (try refine ⟨?_, ?_, ?_, ?_, ?_⟩) <;> with_reducible first | exact Lib.hid ((Kept.refl _ _).drew) | exact drew_pt (by assumption) | exact Kept.allocH (by assumption) | exact alloc_cell (by assumption) | exact Lib.hid (Kept.trans0 (Hid.out (by assumption)) (by assumption)) | exact Kept.cell (by assumption) (by assumption) (by simp)))
    (first
      | (go_at_call 8; go_split_ands; refine (toShape_any _ _ _ _ _ _ (HP.out.kept0 (HK7.out.peel.peel.trans0 (Kept.refl [] _).drew)) (by have := HSN.out; omega)).mono ?_; rintro e v7 ⟨ge0, rfl, qe0, hb, hk1⟩)
      | (go_at_call 12; go_split_ands; refine (eqShape_yes _ _ _ _ _ _ _ _ (rd_newP (hk1.blk ((Kept.refl [] w7).drew.blk HB7.out (by simp)) (by simp)) HP.out.1 (by have := HSN.out; omega)) (rd_newP hb HP.out.1 (by have := HSN.out; omega))).mono ?_; rintro e w8 ⟨rfl, hk2⟩))
  have k8 : Kept [] w7 w8 := ((Kept.refl [] w7).drew.trans0 hk1).trans0 hk2
  have B18 := Lib.hid (B17.out.kept k8 (by simp))
  have B28 := Lib.hid (B27.out.kept k8 (by simp))
  have S18 := Lib.hid (S17.out.kept0 k8)
  have S28 := Lib.hid (S27.out.kept0 k8)
  have XB8 := Lib.hid (XB7.out.kept k8 (by simp))
  have HB8 := Lib.hid (k8.blk HB7.out (by simp))
  have HS8 := Lib.hid (HS7.out.kept0 k8)
  have HK8 := Lib.hid (HK7.out.trans0 k8)
  have y1 := k8.cell X07.out (by simp)
  clear k8 hk1 hk2 hb B17 B27 S17 S27 XB7 HB7 HS7 HK7 X07 x1 x2 y2 qe0
  go_wp2_with fail
  refine (markStore_any _ _ _ _ _ _ _ _ HS8.out (by decide) HN.out).mono ?_
  obtain ⟨K, hKv⟩ : ∃ K : Int, kAt L 1 n = K := ⟨_, rfl⟩
  have hK1 : (1 : Int) ≤ K := by rw [← hKv]; exact (kAt_le L 1 n).1
  have hK2 : K ≤ 1099511627776 := by have h1 := (kAt_le L 1 n).2; have h2 := HN.out; rw [hKv] at h1; omega
  rw [hKv]
  rintro e w9 ⟨rfl, _, k9⟩
  have R1 : ∀ x ∈ blksS g3 gs3 n, W2.heap.size ≤ x := L3.out.1.blks
  have R2 : ∀ x ∈ blksS g3 gs3 n, x < w3.heap.size := L3.out.2
  have HZZ : Hid (b9 < W2.heap.size ∧ w0.heap.size ≤ W2.heap.size ∧ W2.heap.size ≤ w3.heap.size ∧ w3.heap.size < W3.heap.size ∧ W3.heap.size ≤ g4 ∧ g4 < w4.heap.size ∧ w4.heap.size < W4.heap.size ∧ W4.heap.size ≤ w5.heap.size) := ⟨HZ2.out.1.2, HZ2.out.2, Z23.out, Z33.out, G4.out.1, G4.out.2, Z44.out, Z45.out⟩
  have hzz := HZZ.out
  have B19 := Lib.hid (B18.out.kept k9 (fun hm => by have := R1 _ hm; omega))
  have B29 := Lib.hid (B28.out.kept k9 (fun hm => by have := R2 _ hm; omega))
  have S19 := Lib.hid (S18.out.kept k9 (fun g hm => by have := R1 _ hm; omega))
  have S29 := Lib.hid (S28.out.kept k9 (fun g hm => by have := R2 _ hm; omega))
  have XB9 := Lib.hid (XB8.out.kept k9 (fun hm => by have := R2 _ hm; omega))
  have HB9 := Lib.hid (k9.blk HB8.out (fun hm => by have := R2 _ hm; omega))
  have HK9 := Lib.hid (HK8.out.trans k9 (fun x hx hlt => by have := R1 _ hx; have := HK2s.out; simp at hlt; omega))
  clear k9 B18 B28 S18 S28 XB8 HB8 HS8 HK8 y1 R1 R2 hzz hKv
  obtain ⟨x1, x2⟩ := XB9.out
  have HKK := Lib.hid (And.intro (show (0 : Int) ≤ K by omega) hK2)
  obtain ⟨K2, hK2v⟩ : ∃ K2 : Int, K + ((sn * 2 : Nat) : Int) = K2 := ⟨_, rfl⟩
  have hK20 : ¬ K2 < 0 := by omega
  have HKV := Lib.hid hK2v
  clear hK1 hK2 hK2v
  go_wp2_with fail
  refine (markShape_any _ _ _ _ _ _ _ ⟨by have := HSN.out; omega, HP.out.1, .inr ⟨g4, rfl, HB9.out⟩⟩ HKK.out).mono ?_
  rw [HKV.out]
  rintro e wA ⟨rfl, _, kA⟩
  have R1 : ∀ x ∈ blkP (some ⟨g4, 0, none⟩) sn, x = g4 := fun x hx => by
    unfold blkP at hx
    split at hx
    · simp at hx
    · simpa using hx
  have hzz := HZZ.out
  have B1A := Lib.hid (B19.out.kept kA (fun hm => by have := R1 _ hm; omega))
  have B2A := Lib.hid (B29.out.kept kA (fun hm => by have := R1 _ hm; omega))
  have S1A := Lib.hid (S19.out.kept kA (fun g hm => by have := R1 _ hm; omega))
  have S2A := Lib.hid (S29.out.kept kA (fun g hm => by have := R1 _ hm; omega))
  have HKA := Lib.hid (HK9.out.trans kA (fun x hx hlt => by have := R1 _ hx; have := HK2s.out; simp at hlt; omega))
  clear kA R1 hzz B19 B29 S19 S29 XB9 HB9 HK9 x1 x2
  obtain ⟨y0, y1⟩ := B1A.out
  obtain ⟨z0, z1⟩ := B2A.out
  go_wp2_with fail
  refine (eqStoreResult_yes _ _ _ _ _ _ _ _ S2A.out.rd S1A.out.rd).mono ?_
  rintro e wB ⟨rfl, kB⟩
  have B1B := Lib.hid (B1A.out.kept kB (by simp))
  have B2B := Lib.hid (B2A.out.kept kB (by simp))
  have S1B := Lib.hid (S1A.out.kept0 kB)
  have S2B := Lib.hid (S2A.out.kept0 kB)
  have HKB := Lib.hid (HKA.out.trans0 kB)
  clear kB B1A B2A S1A S2A HKA y0 y1 z0 z1
  obtain ⟨z0, z1⟩ := B2B.out
  obtain ⟨q, hq⟩ : ∃ q : Int, kAt R 1 m = q := ⟨_, rfl⟩
  have hq0 : ¬ q < 0 := by have := (kAt_le R 1 m).1; omega
  have HQ2 := Lib.hid hq
  clear hq
  go_wp2_with fail
  refine (markStoreResult_v gc _ m R 1 _ S2B.out (by decide) HG.out).mono ?_
  rintro e wC ⟨rfl, S2C, Ls, hLs, kC⟩
  rw [HQ2.out]
  have hzz := HZZ.out
  have B1C := Lib.hid (B1B.out.kept kC (fun hm => by have := hLs _ hm; omega))
  have B2C := Lib.hid (B2B.out.kept kC (fun hm => by have := hLs _ hm; omega))
  have S1C := Lib.hid (S1B.out.kept kC (fun g hm => by have := hLs _ hm; omega))
  have S2C := Lib.hid S2C
  have HKC := Lib.hid (HKB.out.trans kC (fun x hx hlt => by have := hLs _ hx; have := HK2s.out; simp at hlt; omega))
  clear kC B1B B2B S1B S2B HKB hLs hzz z0 z1
  obtain ⟨z0, z1⟩ := B2C.out
  go_wp2_with fail
  refine (heldStoreResult_v gc _ m R 1 _ HMM.out S2C.out (by decide) HG.out).mono ?_
  rw [HQ2.out]
  rintro e wD ⟨rfl, kD⟩
  have B1D := Lib.hid (B1C.out.kept kD (by simp))
  have B2D := Lib.hid (B2C.out.kept kD (by simp))
  have S1D := Lib.hid (S1C.out.kept0 kD)
  have S2D := Lib.hid (S2C.out.kept0 kD)
  have HKD := Lib.hid (HKC.out.trans0 kD)
  clear kD B1C B2C S1C S2C HKC z0 z1
  obtain ⟨y0, y1, y2⟩ := args2 HKD.out
  go_wp2_with fail
  go_cut [15] (fun s9 wx => ∃ b a1 c1, s9 = .pointer (some ⟨b, 0, none⟩) ∧ Hid (wD.heap.size ≤ b ∧ b < wx.heap.size) ∧ Hid (BoxD wx b gc (.slice a1 m c1)) ∧ Hid (StW wD.heap.size wx.heap.size wx (.slice a1 m c1) m R) ∧ Hid (Kept [] wD wx))
  case first =>
    go_region_held3 (fun w' => w'.cell? ⟨w.heap.size, 0, none⟩ = some (.slice a n c) ∧ w'.cell? ⟨w.heap.size + 1, 0, none⟩ = some (.int .i64 sk) ∧ w'.cell? ⟨w.heap.size + 1, 1, none⟩ = some (.slice sp sn sd) ∧ Hid (Kept [] wD w'))
      ((go_split_ands; (try refine ⟨?_, ?_, ?_, ?_⟩) <;> with_reducible first | exact Lib.hid ((Kept.refl _ _).drew) | exact drew_pt (by assumption) | exact Kept.allocH (by assumption) | exact alloc_cell (by assumption) | exact Lib.hid (Kept.trans0 (Hid.out (by assumption)) (by assumption)) | exact Kept.cell (by assumption) (by assumption) (by simp) | exact drew_pt (alloc_cell (args2 HKD.out).1) | exact drew_pt (alloc_cell (args2 HKD.out).2.1) | exact drew_pt (alloc_cell (args2 HKD.out).2.2) | exact (args2 (HKD.out.trans0 HKx.out)).1 | exact (args2 (HKD.out.trans0 HKx.out)).2.1 | exact (args2 (HKD.out.trans0 HKx.out)).2.2 | exact HKx | exact alloc_cell (args2 (HKD.out.trans0 HKx.out)).1 | exact alloc_cell (args2 (HKD.out.trans0 HKx.out)).2.1 | exact alloc_cell (args2 (HKD.out.trans0 HKx.out)).2.2 | exact Lib.hid (Kept.alloc HKx.out _) | exact (args2s HKD.out HKx.out zb3.out.ge _ _).1 | exact (args2s HKD.out HKx.out zb3.out.ge _ _).2.1 | exact (args2s HKD.out HKx.out zb3.out.ge _ _).2.2.1 | exact Lib.hid (args2s HKD.out HKx.out zb3.out.ge _ _).2.2.2 | exact Lib.hid ((Kept.refl [] _).alloc _).drew | exact Lib.hid ((Kept.refl [] _).drew.alloc _) | fail))
      (first
        | (go_at_call 7; go_split_ands; refine (toStore_any _ _ _ _ _ (HR.out.kept0 (HKD.out.peel.peel.trans0 (Hid.out (by assumption)))) HN.out).mono ?_; rintro e v1 ⟨g1, gs1, rfl, hb1, ha1, hk1⟩; (first | (have zb1 : Hid (ZBox v1 wD.heap.size wD.heap.size) := Lib.hid (by first | exact zbox (w := wD) (Nat.le_refl _) hk1.undrew | exact zbox (w := wD.drew) (by simp) hk1)) | skip); (first | (obtain ⟨_, q0, q1, q2, q3⟩ := zb1.out) | skip))
        | (go_at_call 8; go_split_ands; refine (toShape_any _ _ _ _ _ _ (HP.out.kept0 (HKD.out.peel.peel.trans0 (Hid.out (by assumption)))) (by have := HSN.out; omega)).mono ?_; rintro e v2 ⟨g2, rfl, hg2, hb2, hk2⟩; (first | (have zb2 := Lib.hid (zb1.out.kept0 hk2)) | (have zb2 : Hid (ZBox v2 wD.heap.size v1.heap.size) := Lib.hid (zbox (show wD.heap.size ≤ _ by have h1 := hk1.size; simp at h1 ⊢; omega) hk2)) | skip); (first | (obtain ⟨_, q0, q1, q2, q3⟩ := zb2.out) | skip); have HK2v : Hid (Kept [] v1 v2) := Lib.hid (by first | exact hk2 | exact hk2.peel))
        | (go_at_call 9; go_split_ands; refine (PutShape_u _ _ _ _ _ _ _ _ _ _ _ (by first | exact (hb1.kept0 HK2v.out).rd | exact ((hb1.kept0 HK2v.out).kept0 ((Kept.refl [] v2).alloc _)).rd) (rd_newP (by first | exact hb2 | exact (((Kept.refl [] v2).alloc _).blk hb2 (by simp))) HP.out.1 (by have := HSN.out; omega)) HX.out).mono ?_; rw [HQ.out.1, HQ.out.2]; intro e w2 hh; obtain ⟨a1, c1, rfl, sp1, k1⟩ := stoRes_form hh HMM.out; clear hh; (first | (have zb3 := Lib.hid (zb2.out.kept0 k1)) | (have zb3 : Hid (ZBox w2 wD.heap.size v2.heap.size) := Lib.hid (zbox (show wD.heap.size ≤ _ by have h1 := hk1.size; have h2 := HK2v.out.size; simp at h1 ⊢; omega) k1)) | skip); (first | (obtain ⟨_, q0, q1, q2, q3⟩ := zb3.out) | skip); have HK1v : Hid (Kept [] wD v1) := Lib.hid (by first | exact (Kept.refl [] wD).drew.trans0 hk1 | exact ((Kept.refl [] wD).drew.alloc _).trans0 hk1 | exact ((Kept.refl [] wD).alloc _).drew.trans0 hk1); have HKx : Hid (Kept [] wD w2) := Lib.hid ((HK1v.out.trans0 HK2v.out).trans0 (by first | exact k1 | exact k1.peel))))
    all_goals
      try go_wp2_with fail
      go_meet
      first
        | exact ⟨_, a1, c1, rfl, Lib.hid ⟨HKx.out.size, by simp⟩, Lib.hid BoxD.new, Lib.hid ((sp1.w.kept0 ((Kept.refl [] w2).alloc _)).mono (by have h1 := HK1v.out.size; have h2 := HK2v.out.size; (try simp only [World.size_alloc]); omega) (by simp)), Lib.hid (HKx.out.alloc _)⟩
        | exact ⟨_, a1, c1, rfl, put_end zb3.out HKx.out sp1 (by have h1 := HK1v.out.size; have h2 := HK2v.out.size; (try simp only [World.size_alloc]); omega) (by have h1 := hk1.size; have h2 := hk2.size; (try simp only [World.size_alloc, World.size_drew] at h1); (try simp only [World.size_alloc] at h2); (try simp only [World.size_alloc]); omega)⟩
  case rest =>
  obtain ⟨bE, aE, cE, rfl, hbE, B3, S3, K3⟩ := hcut

  obtain ⟨WE, rfl⟩ : ∃ w' : World, w' = wc := ⟨_, rfl⟩
  have B1E := Lib.hid (B1D.out.kept K3.out (by simp))
  have B2E := Lib.hid (B2D.out.kept K3.out (by simp))
  have S1E := Lib.hid (S1D.out.kept0 K3.out)
  have S2E := Lib.hid (S2D.out.kept0 K3.out)
  have HKE := Lib.hid (HKD.out.trans0 K3.out)
  clear K3 hbE B1D B2D S1D S2D HKD y0 y1 y2
  obtain ⟨x0, x1⟩ := B3.out
  obtain ⟨y0, y1⟩ := B1E.out
  go_wp2_with fail
  refine (eqStoreResult_yes _ _ _ _ _ _ _ _ S3.out.rd S1E.out.rd).mono ?_
  rintro e wF ⟨rfl, kF⟩
  have B2F := Lib.hid (B2E.out.kept kF (by simp))
  have S2F := Lib.hid (S2E.out.kept0 kF)
  have HKF := Lib.hid (HKE.out.trans0 kF)
  clear kF B3 S3 B1E B2E S1E S2E HKE x0 x1 y0 y1
  obtain ⟨z0, z1⟩ := B2F.out
  go_wp2_with fail
  refine (heldStoreResult_v gc _ m R 1 _ HMM.out S2F.out (by decide) HG.out).mono ?_
  rw [HQ2.out]
  rintro e wG ⟨rfl, kG⟩
  have HKG := Lib.hid (HKF.out.trans0 kG)
  clear kG
  go_wp2_with fail
  go_ret
  exact ⟨rfl, HKG.out.peel.peel⟩

end Go.Proofs.Ytklecaojkngjmad
