/-
 Several of my texts in one, each as it was: ShelfLen, Root, SpanP, SpanQ. No condition but theirs.
-/
import Derived.Test.YtfafjijoeanbhaaProg
import Derived.Shelf.Strconv.Itoa0
import Derived.Test.YtfafjijoeanbhaaBigF
import Derived.Lib.BitFns
import Derived.Deep.LoopGhost
import Derived.Deep.RegionHeld3
import Derived.Deep.DrawnRows
import Derived.Deep.DeepCutAuto
import Derived.Test.YtfafjijoeanbhaaSpanI
import Derived.Test.YtfafjijoeanbhaaJ2
import Derived.Test.YtfafjijoeanbhaaSMul
import Derived.Test.YtfafjijoeanbhaaJ1
namespace Go.Proofs
open Go.Shelf

end Go.Proofs
namespace Go.Proofs.Ytfafjijoeanbhaa

end Go.Proofs.Ytfafjijoeanbhaa

namespace Go.Proofs.Ytfafjijoeanbhaa
open Go.RowKit

theorem val_pow (k : Nat) (y : Int) : val (List.replicate k 0 ++ [y]) = pw k * y := by
 rw [val_append]
 have h : ∀ k x, ap (List.replicate k 0) x = pw k * x := by
  intro k
  induction k with
  | zero => intro x; simp [ap, pw]
  | succ k ih => intro x; simp only [List.replicate_succ, ap, pw]; rw [ih, Int.mul_assoc]; omega
 rw [h]; simp [val]
theorem canon_pow (k : Nat) {y : Int} (hy : 1 ≤ y ∧ y ≤ 65535) : Canon (List.replicate k 0 ++ [y]) := by
 induction k with
 | zero => exact ⟨by omega, by omega, trivial, fun _ => by omega⟩
 | succ k ih => exact ⟨by omega, by omega, ih, fun h => by simp at h⟩
theorem set_pow (k : Nat) (y : Int) : (List.replicate (k + 1) (0 : Int)).set k y = List.replicate k 0 ++ [y] := by
 rw [List.replicate_succ', List.set_append_right _ _ (by simp)]; simp
theorem p2_shl : ∀ r : Nat, r ≤ 15 → (1 : Int) * 2 ^ r = p2 r
 | 0, _ => by decide
 | r + 1, h => by simp only [p2]; have := p2_shl r (by omega); rw [Int.pow_succ]; omega

set_option maxHeartbeats 1000000 in
set_option maxRecDepth 100000 in
theorem powerOfTwo_any (k : Nat) (w : World) (hk : k ≤ 640) :
  Calls Try.prog 78 #[.int .i64 k] w (NewS w (digits (p2 k))) := by
 obtain ⟨i0, hi, hz0, hz1, hz2⟩ := info_parts Try.info64
 obtain ⟨q, hq⟩ : ∃ q, q = k / 16 := ⟨_, rfl⟩
 obtain ⟨r, hr⟩ : ∃ r, r = k % 16 := ⟨_, rfl⟩
 have hmk := fun (w : World) => run_make_row (P := Try.prog) 30 2 i0 (.int .i64 0) Try.underlying30 hi hz0 hz1 rfl .i64 .i64 (q + 1) (by rw [hz2]; omega) (by omega) w
 have hcast : ((q + 1 : Nat) : Int) = (q : Int) + 1 := by omega
 simp only [hcast] at hmk
 clear hcast
 have hb0 := Blk.new w (List.replicate (q + 1) 0)
 rw [← made_zeros] at hb0
 have hy : 1 ≤ p2 r ∧ p2 r ≤ 65535 := ⟨p2_pos r, by have := p2_mono r 15 (by omega); have e : p2 15 = 32768 := rfl; omega⟩
 have hv : digits (p2 k) = List.replicate q 0 ++ [p2 r] := by
  rw [← digits_val (canon_pow q hy), val_pow, pw_p2, ← p2_add, hq, hr, Nat.div_add_mod]
 rw [hv]
 have hset := hb0.set q (p2 r)
 rw [set_pow] at hset
 have HSET := Lib.hid hset
 have HB := Lib.hid hb0
 have hc := hb0.cell (j := q) (by simp)
 have hf := hb0.frozen q
 have e1 : (k : Int) / 16 = (q : Int) := by omega
 have e2 : (k : Int) % 16 = (r : Int) := by omega
 have hq39 : q ≤ 40 := by omega
 have hr15 : r ≤ 15 := by omega
 have hsh := p2_shl r hr15
 clear hset hb0 hi hz0 hz1 hz2 hv hq hr
 go_enter Try.func78, Try.ntmps78
 go_wp2_with fail
 have h9 := HSET.out
 rw [World.setCell_alloc_at _ _ _ _ _ rfl] at h9
 go_ret
 exact ⟨w.heap.size, by simp, Nat.le_refl _, h9, (Kept.refl [] w).alloc _⟩

end Go.Proofs.Ytfafjijoeanbhaa

namespace Go.Proofs.Ytfafjijoeanbhaa
open Go.RowKit

set_option maxHeartbeats 1000000 in
theorem l3Prec_any (P : Int) (w : World) : Calls Try.prog 53 #[.int .i64 P] w (Ans w (.bool (isP P))) := by
 unfold isP
 by_cases h1 : P = 48
 ·subst h1
  go_enter Try.func53, Try.ntmps53
  go_wp2
  go_ret
  exact ⟨rfl, Kept.refl _ _⟩
 ·by_cases h2 : P = 72
  ·subst h2
   go_enter Try.func53, Try.ntmps53
   go_wp2
   go_ret
   exact ⟨rfl, Kept.refl _ _⟩
  ·by_cases h3 : P = 96
   ·subst h3
    go_enter Try.func53, Try.ntmps53
    go_wp2
    go_ret
    exact ⟨rfl, Kept.refl _ _⟩
   ·have e1 : (P == 48) = false := by simpa using h1
    have e2 : (P == 72) = false := by simpa using h2
    have e3 : (P == 96) = false := by simpa using h3
    have HE := Lib.hid (show decide (P = 48 ∨ P = 72 ∨ P = 96) = false from decide_eq_false (by omega))
    clear h1 h2 h3
    go_enter Try.func53, Try.ntmps53
    go_wp2
    go_ret
    exact ⟨by rw [HE.out] <;> rfl, Kept.refl _ _⟩

set_option maxHeartbeats 1000000 in
theorem l3Bits_72 (w : World) : Calls Try.prog 88 #[.int .i64 72] w (Ans w (.int .i64 256)) := by
 go_enter Try.func88, Try.ntmps88
 go_wp2
 go_loopw [0, 3] (fun p l wr => ∃ (k : Nat) (v : Int), k ≤ 8 ∧ p = .int .i64 (8 - (k : Int)) ∧ l = .int .i64 v ∧ 1 ≤ v ∧ v ≤ 256 ∧ Hid (v = p2 k) ∧ wr = w) (fun p _ _ => (intOf p).toNat)
 case atStart => exact ⟨0, 1, by omega, rfl, rfl, by omega, by omega, rfl, rfl⟩
 case round =>
  obtain ⟨k, v, hk, rfl, rfl, hv1, hv2, hv, rfl⟩ := hrel
  by_cases hlt : k < 8
  ·have hv3 : v ≤ 128 := by
    have h1 := p2_mono k 7 (by omega)
    have h2 : p2 7 = 128 := rfl
    have := hv.out
    omega
   have e1 : IntKind.i64.wrap (v * 2) = v * 2 := IntWalk.i64_in _ (by omega)
   have e2 : IntKind.i64.wrap (8 - (k : Int) - 1) = 8 - (k : Int) - 1 := IntWalk.i64_in _ (by omega)
   have HV2 : Hid (v * 2 = p2 (k + 1)) := by
    show v * 2 = 2 * p2 k
    rw [hv.out]; omega
   have hg : (0 : Int) < 8 - (k : Int) := by omega
   go_wp2
   go_roundw
   case rel => exact ⟨k + 1, v * 2, by omega, by congr 1; omega, rfl, by omega, by omega, HV2, trivial⟩
   case measure => simp [intOf]; omega
  ·obtain rfl : k = 8 := by omega
   have h2 : v = 256 := hv.out
   subst h2
   go_wp2
   go_ret
   exact ⟨rfl, Kept.refl _ _⟩

end Go.Proofs.Ytfafjijoeanbhaa

namespace Go.Proofs.Ytfafjijoeanbhaa
open Go.RowKit

theorem MulBigs_z (p q : Bool) (a b : Option Addr) (n c m d : Nat) (xs ys : List Int) (z : Int) (w : World) (h : Sl w a n c xs) (h' : Sl w b m d ys) (hx : BigOk p xs) (hy : BigOk q ys) (hl : (mag z).length ≤ 40) (hz : z = sv p xs * sv q ys) :
  Calls Try.prog 49 #[.agg #[.bool p, .slice a n c], .agg #[.bool q, .slice b m d]] w (BigZ w z) := by
 have := MulBigs_any p q a b n c m d xs ys w h h'
 rw [mulB_z hx hy hl hz] at this
 exact this
theorem FloorDiv_z (p q : Bool) (a b : Option Addr) (n c m d : Nat) (xs ys : List Int) (z : Int) (w : World) (h : Sl w a n c xs) (h' : Sl w b m d ys) (hx : BigOk p xs) (hy : BigOk q ys) (hy0 : ys.length ≠ 0) (lx : xs.length ≤ 39) (hz : z = divZ false p q (val xs) (val ys)) :
  Calls Try.prog 27 #[.agg #[.bool p, .slice a n c], .agg #[.bool q, .slice b m d]] w (BigZ w z) := by
 have := FloorDiv_any p q a b n c m d xs ys w h h'
 rw [divB_z hx hy hy0 lx hz] at this
 exact this
theorem CeilDiv_z (p q : Bool) (a b : Option Addr) (n c m d : Nat) (xs ys : List Int) (z : Int) (w : World) (h : Sl w a n c xs) (h' : Sl w b m d ys) (hx : BigOk p xs) (hy : BigOk q ys) (hy0 : ys.length ≠ 0) (lx : xs.length ≤ 39) (hz : z = divZ true p q (val xs) (val ys)) :
  Calls Try.prog 28 #[.agg #[.bool p, .slice a n c], .agg #[.bool q, .slice b m d]] w (BigZ w z) := by
 have := CeilDiv_any p q a b n c m d xs ys w h h'
 rw [divB_z hx hy hy0 lx hz] at this
 exact this
attribute [local go_sem ↓] field_big
/-- A call that answers the units of 1. -/
def OneR (w : World) (k : Nat) (e : Ending) (w' : World) : Prop :=
 ∃ g, e = .returned (.agg #[.bool false, .slice (some ⟨g, 0, none⟩) (digits (p2 k)).length (digits (p2 k)).length]) ∧ w.heap.size ≤ g ∧ Blk w' g (digits (p2 k)) ∧ Kept [] w w'
set_option maxHeartbeats 2000000 in
set_option maxRecDepth 20000 in
theorem oneInUnits_any (k : Nat) (w : World) (hk : k ≤ 96) :
  Calls Try.prog 50 #[.int .i64 (k : Int)] w (OneR w k) := by
 obtain ⟨ds, hds⟩ : ∃ ds : List Int, ds = digits (p2 k) := ⟨_, rfl⟩
 unfold OneR
 rw [← hds]
 have HD := Lib.hid hds
 have hlen : ds.length ≤ 7 := by rw [hds]; exact p2_len hk
 clear hds
 go_enter Try.func50, Try.ntmps50
 go_wp2_with fail
 generalize hW : (w.alloc (.cells #[.bool false, .slice none 0 0] 41)) = ww0
 have hkk : Kept [] (w.alloc (.cells #[.bool false, .slice none 0 0] 41)) ww0 := by rw [hW]; exact Kept.refl _ _
 have zzA : w.heap.size + 1 = ww0.heap.size := by rw [← hW]; simp
 obtain ⟨⟨nR0, nR1⟩, fR0, fR1⟩ := tp2 hkk (g := w.heap.size) (by simp) (by simp)
 have hk := hkk.peel
 clear hkk hW
 have z0 := hk.size
 have KT := Lib.hid hk
 clear hk
 refine (powerOfTwo_any k _ (by omega)).mono ?_
 rintro e ww1 ⟨g1, rfl, hg, hb, hk1⟩
 rw [← HD.out] at hb ⊢
 have hk := hk1
 clear hk1
 have HB := Lib.hid hb
 clear hb
 have z1 := hk.size
 replace fR0 := kf hk nR0 fR0
 replace fR1 := kf hk nR1 fR1
 replace nR0 := kc hk nR0
 replace nR1 := kc hk nR1
 replace KT := Lib.hid (KT.out.trans0 hk)
 clear hk
 have tR0 := nR0.out
 have tR1 := nR1.out
 have uR0 := fR0.out
 have uR1 := fR1.out
 go_wp2_with fail
 clear tR0 tR1 uR0 uR1
 generalize hW : ((ww1.setCell ⟨w.heap.size, 0, none⟩ (.bool false)).setCell ⟨w.heap.size, 1, none⟩ (.slice (some ⟨g1, 0, none⟩) ds.length ds.length)) = ww2
 have hk : Kept [w.heap.size] ww1 ww2 := by rw [← hW]; exact ((Kept.refl _ _).setCell _ _ (by simp)).setCell _ _ (by simp)
 have hfz : ∀ x, ww2.frozen? x = ww1.frozen? x := by rw [← hW]; intro x; simp only [World.frozen?_setCell]
 obtain ⟨e0, e1⟩ := st2 hW.symm nR0.out nR1.out
 have z2 := hk.size
 replace fR0 := kz hfz fR0
 replace fR1 := kz hfz fR1
 replace HB := Lib.hid (hk.blk HB.out (by simp <;> omega))
 replace nR0 := Lib.hid e0
 replace nR1 := Lib.hid e1
 replace KT := Lib.hid (KT.out.trans hk (fun x hx hlt => by simp at hx; omega))
 clear hk hfz hW e0 e1
 have e0 := nR0.out
 have e1 := nR1.out
 refine bodyPost_ret (v := .agg #[.bool false, .slice (some ⟨g1, 0, none⟩) ds.length ds.length]) (by simp [results, Try.results50, go_sem, e0, e1]) rfl ?_
 exact ⟨g1, rfl, by omega, HB.out, KT.out⟩

set_option maxHeartbeats 4000000 in
set_option maxRecDepth 20000 in
theorem inUnits_any (k : Nat) (p : Bool) (a : Option Addr) (n c : Nat) (xs : List Int) (u : Int) (w : World) (hk : k ≤ 96) (h : Sl w a n c xs) (hx : BigOk p xs) (hl : (mag u).length ≤ 40) (hu : u = sv p xs * p2 k) :
  Calls Try.prog 46 #[.int .i64 (k : Int), .agg #[.bool p, .slice a n c]] w (BigV w.heap.size w u) := by
 have HS := Lib.hid h
 have FS := Lib.hid h.lt
 have HX := Lib.hid hx
 have HP := Lib.hid (p2_ok hk).1
 have HZ := Lib.hid (show u = sv p xs * sv false (digits (p2 k)) by rw [(p2_ok hk).2]; exact hu)
 have HU := Lib.hid hl
 clear h hx hu hl
 go_enter Try.func46, Try.ntmps46
 go_upto_region 1 with fail
 generalize hW : ((w.alloc (.cells #[.bool p, .slice a n c] 41)).alloc (.cells #[.bool false, .slice none 0 0] 41)) = ww0
 have hkk : Kept [] ((w.alloc (.cells #[.bool p, .slice a n c] 41)).alloc (.cells #[.bool false, .slice none 0 0] 41)) ww0 := by rw [hW]; exact Kept.refl _ _
 have zzA : w.heap.size + 1 + 1 = ww0.heap.size := by rw [← hW]; simp
 obtain ⟨⟨nA0, nA1⟩, _⟩ := tp2 hkk.peel (g := w.heap.size) (by simp) (by simp)
 obtain ⟨⟨nR0, nR1⟩, fR0, fR1⟩ := tp2 hkk (g := w.heap.size + 1) (by simp) (by simp)
 have hk := hkk.peel.peel
 clear hkk hW
 have z0 := hk.size
 have KT := Lib.hid hk
 clear hk
 replace HS := Lib.hid (HS.out.kept0 KT.out)
 have tA0 := nA0.out
 have tA1 := nA1.out
 go_region_held3 (fun w' => w'.cell? ⟨w.heap.size, 0, none⟩ = some (.bool p) ∧ w'.cell? ⟨w.heap.size, 1, none⟩ = some (.slice a n c) ∧ Hid (Kept [w.heap.size + 1] ww0 w'))
  ((go_split_ands; (try refine ⟨?_, ?_, ?_⟩) <;> with_reducible first | exact Kept.set2 (by assumption) | exact cell_set2 (by assumption) (by simp <;> omega) | exact Lib.hid ((Kept.refl _ _).drew) | exact drew_cell (by assumption) | exact Kept.allocH (by assumption) | exact alloc_cell (by assumption) | exact Lib.hid (Kept.trans0 (Hid.out (by assumption)) (by assumption)) | exact Kept.cell (by assumption) (by assumption) (by simp)))
  (first
   | (go_at_call 50; go_split_ands; refine (oneInUnits_any k _ hk).mono ?_; rintro e v1 ⟨g1, rfl, hg1, hb1, hk1⟩)
   | (go_at_call 49; go_split_ands; refine (MulBigs_z _ _ _ _ _ _ _ _ _ _ _ _ (HS.out.kept0 (((Kept.refl [] _).drew).trans0 hk1)) (sl_new hb1 rfl (by have := p2_len hk; omega)) HX.out HP.out HU.out HZ.out).mono ?_; rintro e v2 ⟨a2, c2, rfl, hs2, hf2, hk2⟩; have z12 := hk1.size; simp only [World.size_drew] at z12; have hkr := (((Kept.refl [] ww0).drew).trans0 hk1).trans0 hk2; have rg0 := hkr.cell (p := ⟨w.heap.size + 1, 0, none⟩) nR0.out (by simp); have rg1 := hkr.cell (p := ⟨w.heap.size + 1, 1, none⟩) nR1.out (by simp); have ru0 := hkr.free' (p := ⟨w.heap.size + 1, 0, none⟩) nR0.out fR0.out (by simp); have ru1 := hkr.free' (p := ⟨w.heap.size + 1, 1, none⟩) nR1.out fR1.out (by simp)))
 clear tA0 tA1
 have hk := hkr
 clear hkr
 clear hb1 hk1 hk2
 have z1 := hk.size
 replace fR0 := kf hk nR0 fR0
 replace fR1 := kf hk nR1 fR1
 replace nA0 := kc hk nA0
 replace nA1 := kc hk nA1
 replace nR0 := kc hk nR0
 replace nR1 := kc hk nR1
 replace HS := Lib.hid (HS.out.kept0 hk)
 replace KT := Lib.hid (KT.out.trans0 hk)
 clear hk
 have hs2 := Lib.hid hs2
 have G2 := Lib.hid (hf2.mono (B' := w.heap.size + 1 + 1) (by omega))
 clear hf2
 generalize hW : ((v2.setCell ⟨w.heap.size + 1, 0, none⟩ (.bool (isNeg u))).setCell ⟨w.heap.size + 1, 1, none⟩ (.slice a2 (mag u).length c2)) = ww2
 have hk : Kept [w.heap.size + 1] v2 ww2 := by rw [← hW]; exact ((Kept.refl _ _).setCell _ _ (by simp)).setCell _ _ (by simp)
 have hfz : ∀ x, ww2.frozen? x = v2.frozen? x := by rw [← hW]; intro x; simp only [World.frozen?_setCell]
 obtain ⟨e0, e1⟩ := st2 hW.symm nR0.out nR1.out
 have z2 := hk.size
 replace fR0 := kz hfz fR0
 replace fR1 := kz hfz fR1
 replace nA0 := kd hk nA0 (by simp <;> omega)
 replace nA1 := kd hk nA1 (by simp <;> omega)
 replace HS := Lib.hid (HS.out.kept hk (fun hn y hy hm => by have h9 := FS.out hn y hy; simp at hm; omega))
 replace hs2 := Lib.hid (hs2.out.kept hk (fun hn y hy hm => by have h9 := G2.out hn y hy; simp at hm; omega))
 replace nR0 := Lib.hid e0
 replace nR1 := Lib.hid e1
 replace KT := Lib.hid (KT.out.trans hk (fun x hx hlt => by simp at hx; omega))
 clear hk hfz hW e0 e1
 go_wp2_with fail
 have e0 := nR0.out
 have e1 := nR1.out
 refine bodyPost_ret (v := .agg #[.bool (isNeg u), .slice a2 (mag u).length c2]) (by simp [results, Try.results46, go_sem, e0, e1]) rfl ?_
 exact ⟨a2, c2, rfl, hs2.out, G2.out.mono (by omega), KT.out⟩

end Go.Proofs.Ytfafjijoeanbhaa
