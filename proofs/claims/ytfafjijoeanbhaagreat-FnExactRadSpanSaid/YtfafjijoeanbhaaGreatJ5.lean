/-
 Several of my texts in one, each as it was: ShelfLen, Root, SpanP, SpanQ. No condition but theirs.
-/
import Derived.Test.YtfafjijoeanbhaaGreatProg
import Derived.Shelf.Strconv.Itoa0
import Derived.Test.YtfafjijoeanbhaaGreatBigF
import Derived.Lib.BitFns
import Derived.Deep.LoopGhost
import Derived.Deep.RegionHeld3
import Derived.Deep.DrawnRows
import Derived.Deep.DeepCutAuto
import Derived.Test.YtfafjijoeanbhaaGreatSpanI
import Derived.Test.YtfafjijoeanbhaaGreatJ2
import Derived.Test.YtfafjijoeanbhaaGreatSMul
import Derived.Test.YtfafjijoeanbhaaGreatJ1
namespace Go.Proofs
open Go.Shelf

end Go.Proofs
namespace Go.Proofs.YtfafjijoeanbhaaGreat

end Go.Proofs.YtfafjijoeanbhaaGreat

namespace Go.Proofs.YtfafjijoeanbhaaGreat
open Go.RowKit

theorem val_pow (k : Nat) (y : Int) : val (List.replicate k 0 ++ [y]) = pw k * y := by
 rw [val_append]
 have h : ∀ k x, ap (List.replicate k 0) x = pw k * x := by
  intro k
  induction k with
  | zero => intro x; simp [ap, pw]
  | succ k ih => intro x; simp only [List.replicate_succ, ap, pw]; rw [ih, Int.mul_assoc]; omega
 rw [h]; simp [val]
theorem canon_pow (k : Nat) {y : Int} (hy : 1 ≤ y ∧ y ≤ 65535) : Canon (List.replicate k 0 ++ [y]) := by
 induction k with
 | zero => exact ⟨by omega, by omega, trivial, fun _ => by omega⟩
 | succ k ih => exact ⟨by omega, by omega, ih, fun h => by simp at h⟩
theorem set_pow (k : Nat) (y : Int) : (List.replicate (k + 1) (0 : Int)).set k y = List.replicate k 0 ++ [y] := by
 rw [List.replicate_succ', List.set_append_right _ _ (by simp)]; simp
theorem p2_shl : ∀ r : Nat, r ≤ 15 → (1 : Int) * 2 ^ r = p2 r
 | 0, _ => by decide
 | r + 1, h => by simp only [p2]; have := p2_shl r (by omega); rw [Int.pow_succ]; omega

set_option maxHeartbeats 1000000 in
set_option maxRecDepth 100000 in
theorem powerOfTwo_any (k : Nat) (w : World) (hk : k ≤ 640) :
  Calls Tryz.prog 190 #[.int .i64 k] w (NewS w (digits (p2 k))) := by
 obtain ⟨i0, hi, hz0, hz1, hz2⟩ := info_parts Tryz.info64
 obtain ⟨q, hq⟩ : ∃ q, q = k / 16 := ⟨_, rfl⟩
 obtain ⟨r, hr⟩ : ∃ r, r = k % 16 := ⟨_, rfl⟩
 have hmk := fun (w : World) => run_make_row (P := Tryz.prog) 22 2 i0 (.int .i64 0) Tryz.underlying22 hi hz0 hz1 rfl .i64 .i64 (q + 1) (by rw [hz2]; omega) (by omega) w
 have hcast : ((q + 1 : Nat) : Int) = (q : Int) + 1 := by omega
 simp only [hcast] at hmk
 clear hcast
 have hb0 := Blk.new w (List.replicate (q + 1) 0)
 rw [← made_zeros] at hb0
 have hy : 1 ≤ p2 r ∧ p2 r ≤ 65535 := ⟨p2_pos r, by have := p2_mono r 15 (by omega); have e : p2 15 = 32768 := rfl; omega⟩
 have hv : digits (p2 k) = List.replicate q 0 ++ [p2 r] := by
  rw [← digits_val (canon_pow q hy), val_pow, pw_p2, ← p2_add, hq, hr, Nat.div_add_mod]
 rw [hv]
 have hset := hb0.set q (p2 r)
 rw [set_pow] at hset
 have HSET := Lib.hid hset
 have HB := Lib.hid hb0
 have hc := hb0.cell (j := q) (by simp)
 have hf := hb0.frozen q
 have e1 : (k : Int) / 16 = (q : Int) := by omega
 have e2 : (k : Int) % 16 = (r : Int) := by omega
 have hq39 : q ≤ 40 := by omega
 have hr15 : r ≤ 15 := by omega
 have hsh := p2_shl r hr15
 clear hset hb0 hi hz0 hz1 hz2 hv hq hr
 go_enter Tryz.func190, Tryz.ntmps190
 go_wp2_with fail
 have h9 := HSET.out
 rw [World.setCell_alloc_at _ _ _ _ _ rfl] at h9
 go_ret
 exact ⟨w.heap.size, by simp, Nat.le_refl _, h9, (Kept.refl [] w).alloc _⟩

end Go.Proofs.YtfafjijoeanbhaaGreat

namespace Go.Proofs.YtfafjijoeanbhaaGreat
open Go.RowKit

set_option maxHeartbeats 1000000 in
theorem isPrecision_any (P : Int) (w : World) : Calls Tryz.prog 46 #[.int .i64 P] w (Ans w (.bool (isP P))) := by
 unfold isP
 by_cases h1 : P = 48
 ·subst h1
  go_enter Tryz.func46, Tryz.ntmps46
  go_wp2
  go_ret
  exact ⟨rfl, Kept.refl _ _⟩
 ·by_cases h2 : P = 72
  ·subst h2
   go_enter Tryz.func46, Tryz.ntmps46
   go_wp2
   go_ret
   exact ⟨rfl, Kept.refl _ _⟩
  ·by_cases h3 : P = 96
   ·subst h3
    go_enter Tryz.func46, Tryz.ntmps46
    go_wp2
    go_ret
    exact ⟨rfl, Kept.refl _ _⟩
   ·have e1 : (P == 48) = false := by simpa using h1
    have e2 : (P == 72) = false := by simpa using h2
    have e3 : (P == 96) = false := by simpa using h3
    have HE := Lib.hid (show decide (P = 48 ∨ P = 72 ∨ P = 96) = false from decide_eq_false (by omega))
    clear h1 h2 h3
    go_enter Tryz.func46, Tryz.ntmps46
    go_wp2
    go_ret
    exact ⟨by rw [HE.out] <;> rfl, Kept.refl _ _⟩
set_option maxHeartbeats 1000000 in
theorem l3Prec_any (P : Int) (w : World) : Calls Tryz.prog 42 #[.int .i64 P] w (Ans w (.bool (isP P))) := by
 unfold isP
 by_cases h1 : P = 48
 ·subst h1
  go_enter Tryz.func42, Tryz.ntmps42
  go_wp2
  go_ret
  exact ⟨rfl, Kept.refl _ _⟩
 ·by_cases h2 : P = 72
  ·subst h2
   go_enter Tryz.func42, Tryz.ntmps42
   go_wp2
   go_ret
   exact ⟨rfl, Kept.refl _ _⟩
  ·by_cases h3 : P = 96
   ·subst h3
    go_enter Tryz.func42, Tryz.ntmps42
    go_wp2
    go_ret
    exact ⟨rfl, Kept.refl _ _⟩
   ·have e1 : (P == 48) = false := by simpa using h1
    have e2 : (P == 72) = false := by simpa using h2
    have e3 : (P == 96) = false := by simpa using h3
    have HE := Lib.hid (show decide (P = 48 ∨ P = 72 ∨ P = 96) = false from decide_eq_false (by omega))
    clear h1 h2 h3
    go_enter Tryz.func42, Tryz.ntmps42
    go_wp2
    go_ret
    exact ⟨by rw [HE.out] <;> rfl, Kept.refl _ _⟩

set_option maxHeartbeats 1000000 in
theorem l3Bits_72 (w : World) : Calls Tryz.prog 192 #[.int .i64 72] w (Ans w (.int .i64 256)) := by
 go_enter Tryz.func192, Tryz.ntmps192
 go_wp2
 go_loopw [0, 3] (fun p l wr => ∃ (k : Nat) (v : Int), k ≤ 8 ∧ p = .int .i64 (8 - (k : Int)) ∧ l = .int .i64 v ∧ 1 ≤ v ∧ v ≤ 256 ∧ Hid (v = p2 k) ∧ wr = w) (fun p _ _ => (intOf p).toNat)
 case atStart => exact ⟨0, 1, by omega, rfl, rfl, by omega, by omega, rfl, rfl⟩
 case round =>
  obtain ⟨k, v, hk, rfl, rfl, hv1, hv2, hv, rfl⟩ := hrel
  by_cases hlt : k < 8
  ·have hv3 : v ≤ 128 := by
    have h1 := p2_mono k 7 (by omega)
    have h2 : p2 7 = 128 := rfl
    have := hv.out
    omega
   have e1 : IntKind.i64.wrap (v * 2) = v * 2 := IntWalk.i64_in _ (by omega)
   have e2 : IntKind.i64.wrap (8 - (k : Int) - 1) = 8 - (k : Int) - 1 := IntWalk.i64_in _ (by omega)
   have HV2 : Hid (v * 2 = p2 (k + 1)) := by
    show v * 2 = 2 * p2 k
    rw [hv.out]; omega
   have hg : (0 : Int) < 8 - (k : Int) := by omega
   go_wp2
   go_roundw
   case rel => exact ⟨k + 1, v * 2, by omega, by congr 1; omega, rfl, by omega, by omega, HV2, trivial⟩
   case measure => simp [intOf]; omega
  ·obtain rfl : k = 8 := by omega
   have h2 : v = 256 := hv.out
   subst h2
   go_wp2
   go_ret
   exact ⟨rfl, Kept.refl _ _⟩

theorem make_run (k : Nat) (hk : k ≤ 1000) (w : World) : Sem.run Tryz.prog (Instr.makeSlice 22 (.int .i64 (k : Int)) (.int .i64 (k : Int))) w = .ok (.slice (some ⟨w.heap.size, 0, none⟩) k k) (w.alloc (.cells (ints (List.replicate k 0)) 2)) := by
 obtain ⟨i0, hi, hz0, hz1, hz2⟩ := info_parts Tryz.info64
 have h := run_make_row (P := Tryz.prog) 22 2 i0 (.int .i64 0) Tryz.underlying22 hi hz0 hz1 rfl .i64 .i64 k (by rw [hz2]; omega) (by omega) w
 rw [made_zeros] at h
 exact h
theorem ow_lit (B : Nat) (w : World) (l : List Int) (hB : B ≤ w.heap.size) (hl : l.length ≤ 1000) : Ow B (w.alloc (.cells (ints l) 2)) (.slice (some ⟨w.heap.size, 0, none⟩) l.length l.length) l := by
 have h := World.ownsRow_lit (base := B) (e := 2) (size := 1) w (ints l) l.length hB (by unfold maxLen; omega) (by simp [ints])
 exact h
theorem canon_zeros {xs : List Int} (k : Nat) (hx : Nat40 xs) (hn : xs.length ≠ 0) : List.replicate k 0 ++ xs = digits (val xs * pw k) := by
 have h1 : AllLimbs (List.replicate k 0 ++ xs) := (AllLimbs.zeros k).append hx.limb
 have hv : val (List.replicate k 0 ++ xs) = val xs * pw k := by
  rw [val_append, ap_pw, val_zeros, List.length_replicate, Int.mul_comm]; omega
 rw [← hv]
 refine digits_of_limbs h1 (fun _ => ?_)
 have ht := hx.top (by omega)
 rw [List.getD_eq_getElem?_getD, List.getElem?_append_right (by simp; omega)] 
 simp only [List.length_append, List.length_replicate] at *
 rw [show k + xs.length - 1 - k = xs.length - 1 by omega]
 rw [List.getD_eq_getElem?_getD] at ht
 exact ht
set_option maxHeartbeats 2000000 in
set_option maxRecDepth 20000 in
theorem l3Shift_any (P : Int) (a : Option Addr) (n c : Nat) (xs : List Int) (w : World) (hP : isP P = true) (h : Sl w a n c xs) (hx : Nat40 xs) (lx : xs.length ≤ 20) :
  Calls Tryz.prog 156 #[.int .i64 P, .slice a n c] w (SlR w (digits (val xs * p2 P.toNat))) := by
 have hl := h.1
 have HS := Lib.hid h
 have hbc : a = none → n = 0 ∧ c = 0 := fun e => by have := h.2.2.2.1 e; have := h.2.1; omega
 have HBC := Lib.hid hbc
 clear h hbc
 by_cases hn : n = 0
 ·have hxs : xs = [] := List.eq_nil_of_length_eq_zero (by omega)
  have hd : digits (val xs * p2 P.toNat) = [] := by rw [hxs]; simp [val, digits_zero]
  rw [hd]
  subst hn
  clear hd hxs hl HS HBC
  go_enter Tryz.func156, Tryz.ntmps156
  go_wp2
  go_ret
  exact ⟨_, rfl, Ow.empty _ w (Nat.le_refl _), (Kept.refl [] w).alloc _⟩
 ·have hn0 : ((n : Int) == 0) = false := by rw [beq_eq_false_iff_ne]; omega
  rcases isP_cases hP with rfl | rfl | rfl
  ·have hd : digits (val xs * p2 (48 : Int).toNat) = List.replicate 3 0 ++ xs := by
    rw [canon_zeros 3 hx (by omega), pw_p2 3, show (48 : Int).toNat = 16 * 3 from rfl]
   rw [hd]
   clear hd hP
   obtain ⟨zs, hzs⟩ : ∃ zs : List Int, zs = List.replicate 3 0 ++ xs := ⟨_, rfl⟩
   rw [← hzs]
   have HZS := Lib.hid hzs
   clear hzs
   have hmk : ∀ w : World, Sem.run Tryz.prog (Instr.makeSlice 22 (.int .i64 3) (.int .i64 3)) w = .ok (.slice (some ⟨w.heap.size, 0, none⟩) 3 3) (w.alloc (.cells (ints (List.replicate 3 0)) 2)) := make_run 3 (by omega)
   go_enter Tryz.func156, Tryz.ntmps156
   go_wp2_with (at_builtin; refine appS rfl _ _ rfl w.heap.size _ (List.replicate 3 0) rfl (ow_lit _ w (List.replicate 3 0) (Nat.le_refl _) (by simp)) a n c xs rfl (HS.out.rd.kept0 ((Kept.refl [] w).alloc _)) HBC.out (by simp; omega) (by simp) ?_; intro v9 w1 hown hgr)
   have hkk : Kept [] w w1 := Kept.grown ((Kept.refl [] w).alloc _) hgr (fun k hk hlt => by have e : some w.heap.size = some k := hk; cases e; omega)
   go_ret
   exact ⟨_, rfl, by rw [HZS.out]; exact hown, hkk⟩
  ·have hd : digits (val xs * p2 (72 : Int).toNat) = digits (val (List.replicate 4 0 ++ xs) * val [256]) := by
    have hv : val (List.replicate 4 0 ++ xs) = val xs * pw 4 := by
     rw [val_append, ap_pw, val_zeros, List.length_replicate, Int.mul_comm]; omega
    rw [hv, show (72 : Int).toNat = 16 * 4 + 8 from rfl, p2_add, ← pw_p2 4, show val [256] = p2 8 from rfl, Int.mul_assoc]
   rw [hd]
   clear hd hP
   obtain ⟨zs, hzs⟩ : ∃ zs : List Int, zs = List.replicate 4 0 ++ xs := ⟨_, rfl⟩
   rw [← hzs]
   have hzl : zs.length = 4 + n := by rw [hzs]; simp; omega
   have hza : AllLimbs zs := by rw [hzs]; exact (AllLimbs.zeros 4).append hx.limb
   have HZS := Lib.hid hzs
   have HZA := Lib.hid hza
   have HZL := Lib.hid hzl
   clear hzs hza hzl
   obtain ⟨v, hv⟩ : ∃ v : List Int, v = digits (val zs * val [256]) := ⟨_, rfl⟩
   rw [← hv]
   have HV := Lib.hid hv
   clear hv
   have hmk : ∀ w : World, Sem.run Tryz.prog (Instr.makeSlice 22 (.int .i64 4) (.int .i64 4)) w = .ok (.slice (some ⟨w.heap.size, 0, none⟩) 4 4) (w.alloc (.cells (ints (List.replicate 4 0)) 2)) := make_run 4 (by omega)
   have h256 : AllLimbs [256] := fun i hi => by
    have : i = 0 := (by simpa using hi); subst this; simp
   go_enter Tryz.func156, Tryz.ntmps156
   go_wp2_with (at_builtin; refine appS rfl _ _ rfl w.heap.size _ (List.replicate 4 0) rfl (ow_lit _ w (List.replicate 4 0) (Nat.le_refl _) (by simp)) a n c xs rfl (HS.out.rd.kept0 ((Kept.refl [] w).alloc _)) HBC.out (by simp; omega) (by simp) ?_; intro v9 w1 hown hgr)
   have hkk : Kept [] w w1 := Kept.grown ((Kept.refl [] w).alloc _) hgr (fun k hk hlt => by have e : some w.heap.size = some k := hk; cases e; omega)
   rw [← HZS.out] at hown
   obtain ⟨a9, c9, rfl, hS9, hF9⟩ := hown.sl
   have HK := Lib.hid hkk
   have HS9 := Lib.hid hS9
   clear hkk hS9 hF9 hown hgr
   refine (l3Bits_72 _).mono ?_
   rintro e w2 ⟨rfl, hk2⟩
   replace HS9 := Lib.hid (HS9.out.kept0 hk2)
   replace HK := Lib.hid (HK.out.trans0 hk2)
   clear hk2
   go_wp2_with fail
   refine (l1Mul_any _ _ _ _ _ _ _ _ _ (HS9.out.rd.kept0 ((Kept.refl [] w2).alloc _)) (Sl.ofBlk (Blk.new w2 [256]) (by simp)).rd HZA.out h256 (by have := HZL.out; omega) (by simp)).mono ?_
   rintro e w3 ⟨v3, rfl, ho3, hk3⟩
   rw [← HV.out] at ho3
   have HK3 := Lib.hid (HK.out.trans0 (((Kept.refl [] w2).alloc _).trans0 hk3))
   have HO3 := Lib.hid (ho3.mono (B' := w.heap.size) (by have := HK.out.size; simp; omega))
   clear ho3 hk3
   go_wp2_with fail
   go_ret
   exact ⟨_, rfl, HO3.out, HK3.out⟩
  ·have hd : digits (val xs * p2 (96 : Int).toNat) = List.replicate 6 0 ++ xs := by
    rw [canon_zeros 6 hx (by omega), pw_p2 6, show (96 : Int).toNat = 16 * 6 from rfl]
   rw [hd]
   clear hd hP
   obtain ⟨zs, hzs⟩ : ∃ zs : List Int, zs = List.replicate 6 0 ++ xs := ⟨_, rfl⟩
   rw [← hzs]
   have HZS := Lib.hid hzs
   clear hzs
   have hmk : ∀ w : World, Sem.run Tryz.prog (Instr.makeSlice 22 (.int .i64 6) (.int .i64 6)) w = .ok (.slice (some ⟨w.heap.size, 0, none⟩) 6 6) (w.alloc (.cells (ints (List.replicate 6 0)) 2)) := make_run 6 (by omega)
   go_enter Tryz.func156, Tryz.ntmps156
   go_wp2_with (at_builtin; refine appS rfl _ _ rfl w.heap.size _ (List.replicate 6 0) rfl (ow_lit _ w (List.replicate 6 0) (Nat.le_refl _) (by simp)) a n c xs rfl (HS.out.rd.kept0 ((Kept.refl [] w).alloc _)) HBC.out (by simp; omega) (by simp) ?_; intro v9 w1 hown hgr)
   have hkk : Kept [] w w1 := Kept.grown ((Kept.refl [] w).alloc _) hgr (fun k hk hlt => by have e : some w.heap.size = some k := hk; cases e; omega)
   go_ret
   exact ⟨_, rfl, by rw [HZS.out]; exact hown, hkk⟩

end Go.Proofs.YtfafjijoeanbhaaGreat

namespace Go.Proofs.YtfafjijoeanbhaaGreat
open Go.RowKit

theorem MulBigs_z (p q : Bool) (a b : Option Addr) (n c m d : Nat) (xs ys : List Int) (z : Int) (w : World) (h : Sl w a n c xs) (h' : Sl w b m d ys) (hx : BigOk p xs) (hy : BigOk q ys) (hl : (mag z).length ≤ 40) (hz : z = sv p xs * sv q ys) :
  Calls Tryz.prog 119 #[.agg #[.bool p, .slice a n c], .agg #[.bool q, .slice b m d]] w (BigZ w z) := by
 have := MulBigs_any p q a b n c m d xs ys w h h'
 rw [mulB_z hx hy hl hz] at this
 exact this
theorem FloorDiv_z (p q : Bool) (a b : Option Addr) (n c m d : Nat) (xs ys : List Int) (z : Int) (w : World) (h : Sl w a n c xs) (h' : Sl w b m d ys) (hx : BigOk p xs) (hy : BigOk q ys) (hy0 : ys.length ≠ 0) (lx : xs.length ≤ 39) (hz : z = divZ false p q (val xs) (val ys)) :
  Calls Tryz.prog 111 #[.agg #[.bool p, .slice a n c], .agg #[.bool q, .slice b m d]] w (BigZ w z) := by
 have := FloorDiv_any p q a b n c m d xs ys w h h'
 rw [divB_z hx hy hy0 lx hz] at this
 exact this
theorem CeilDiv_z (p q : Bool) (a b : Option Addr) (n c m d : Nat) (xs ys : List Int) (z : Int) (w : World) (h : Sl w a n c xs) (h' : Sl w b m d ys) (hx : BigOk p xs) (hy : BigOk q ys) (hy0 : ys.length ≠ 0) (lx : xs.length ≤ 39) (hz : z = divZ true p q (val xs) (val ys)) :
  Calls Tryz.prog 112 #[.agg #[.bool p, .slice a n c], .agg #[.bool q, .slice b m d]] w (BigZ w z) := by
 have := CeilDiv_any p q a b n c m d xs ys w h h'
 rw [divB_z hx hy hy0 lx hz] at this
 exact this
attribute [local go_sem ↓] field_big
/-- A call that answers the units of 1. -/
def OneR (w : World) (k : Nat) (e : Ending) (w' : World) : Prop :=
 ∃ g, e = .returned (.agg #[.bool false, .slice (some ⟨g, 0, none⟩) (digits (p2 k)).length (digits (p2 k)).length]) ∧ w.heap.size ≤ g ∧ Blk w' g (digits (p2 k)) ∧ Kept [] w w'
set_option maxHeartbeats 2000000 in
set_option maxRecDepth 20000 in
theorem oneInUnits_any (k : Nat) (w : World) (hk : k ≤ 96) :
  Calls Tryz.prog 146 #[.int .i64 (k : Int)] w (OneR w k) := by
 obtain ⟨ds, hds⟩ : ∃ ds : List Int, ds = digits (p2 k) := ⟨_, rfl⟩
 unfold OneR
 rw [← hds]
 have HD := Lib.hid hds
 have hlen : ds.length ≤ 7 := by rw [hds]; exact p2_len hk
 clear hds
 go_enter Tryz.func146, Tryz.ntmps146
 go_wp2_with fail
 generalize hW : (w.alloc (.cells #[.bool false, .slice none 0 0] 24)) = ww0
 have hkk : Kept [] (w.alloc (.cells #[.bool false, .slice none 0 0] 24)) ww0 := by rw [hW]; exact Kept.refl _ _
 have zzA : w.heap.size + 1 = ww0.heap.size := by rw [← hW]; simp
 obtain ⟨⟨nR0, nR1⟩, fR0, fR1⟩ := tp2 hkk (g := w.heap.size) (by simp) (by simp)
 have hk := hkk.peel
 clear hkk hW
 have z0 := hk.size
 have KT := Lib.hid hk
 clear hk
 refine (powerOfTwo_any k _ (by omega)).mono ?_
 rintro e ww1 ⟨g1, rfl, hg, hb, hk1⟩
 rw [← HD.out] at hb ⊢
 have hk := hk1
 clear hk1
 have HB := Lib.hid hb
 clear hb
 have z1 := hk.size
 replace fR0 := kf hk nR0 fR0
 replace fR1 := kf hk nR1 fR1
 replace nR0 := kc hk nR0
 replace nR1 := kc hk nR1
 replace KT := Lib.hid (KT.out.trans0 hk)
 clear hk
 have tR0 := nR0.out
 have tR1 := nR1.out
 have uR0 := fR0.out
 have uR1 := fR1.out
 go_wp2_with fail
 clear tR0 tR1 uR0 uR1
 generalize hW : ((ww1.setCell ⟨w.heap.size, 0, none⟩ (.bool false)).setCell ⟨w.heap.size, 1, none⟩ (.slice (some ⟨g1, 0, none⟩) ds.length ds.length)) = ww2
 have hk : Kept [w.heap.size] ww1 ww2 := by rw [← hW]; exact ((Kept.refl _ _).setCell _ _ (by simp)).setCell _ _ (by simp)
 have hfz : ∀ x, ww2.frozen? x = ww1.frozen? x := by rw [← hW]; intro x; simp only [World.frozen?_setCell]
 obtain ⟨e0, e1⟩ := st2 hW.symm nR0.out nR1.out
 have z2 := hk.size
 replace fR0 := kz hfz fR0
 replace fR1 := kz hfz fR1
 replace HB := Lib.hid (hk.blk HB.out (by simp <;> omega))
 replace nR0 := Lib.hid e0
 replace nR1 := Lib.hid e1
 replace KT := Lib.hid (KT.out.trans hk (fun x hx hlt => by simp at hx; omega))
 clear hk hfz hW e0 e1
 have e0 := nR0.out
 have e1 := nR1.out
 refine bodyPost_ret (v := .agg #[.bool false, .slice (some ⟨g1, 0, none⟩) ds.length ds.length]) (by simp [results, Tryz.results146, go_sem, e0, e1]) rfl ?_
 exact ⟨g1, rfl, by omega, HB.out, KT.out⟩

set_option maxHeartbeats 4000000 in
set_option maxRecDepth 20000 in
theorem inUnits_any (k : Nat) (p : Bool) (a : Option Addr) (n c : Nat) (xs : List Int) (u : Int) (w : World) (hk : k ≤ 96) (h : Sl w a n c xs) (hx : BigOk p xs) (hl : (mag u).length ≤ 40) (hu : u = sv p xs * p2 k) :
  Calls Tryz.prog 116 #[.int .i64 (k : Int), .agg #[.bool p, .slice a n c]] w (BigV w.heap.size w u) := by
 have HS := Lib.hid h
 have FS := Lib.hid h.lt
 have HX := Lib.hid hx
 have HP := Lib.hid (p2_ok hk).1
 have HZ := Lib.hid (show u = sv p xs * sv false (digits (p2 k)) by rw [(p2_ok hk).2]; exact hu)
 have HU := Lib.hid hl
 clear h hx hu hl
 go_enter Tryz.func116, Tryz.ntmps116
 go_upto_region 1 with fail
 generalize hW : ((w.alloc (.cells #[.bool p, .slice a n c] 24)).alloc (.cells #[.bool false, .slice none 0 0] 24)) = ww0
 have hkk : Kept [] ((w.alloc (.cells #[.bool p, .slice a n c] 24)).alloc (.cells #[.bool false, .slice none 0 0] 24)) ww0 := by rw [hW]; exact Kept.refl _ _
 have zzA : w.heap.size + 1 + 1 = ww0.heap.size := by rw [← hW]; simp
 obtain ⟨⟨nA0, nA1⟩, _⟩ := tp2 hkk.peel (g := w.heap.size) (by simp) (by simp)
 obtain ⟨⟨nR0, nR1⟩, fR0, fR1⟩ := tp2 hkk (g := w.heap.size + 1) (by simp) (by simp)
 have hk := hkk.peel.peel
 clear hkk hW
 have z0 := hk.size
 have KT := Lib.hid hk
 clear hk
 replace HS := Lib.hid (HS.out.kept0 KT.out)
 have tA0 := nA0.out
 have tA1 := nA1.out
 go_region_held3 (fun w' => w'.cell? ⟨w.heap.size, 0, none⟩ = some (.bool p) ∧ w'.cell? ⟨w.heap.size, 1, none⟩ = some (.slice a n c) ∧ Hid (Kept [w.heap.size + 1] ww0 w'))
  ((go_split_ands; (try refine ⟨?_, ?_, ?_⟩) <;> with_reducible first | exact Kept.set2 (by assumption) | exact cell_set2 (by assumption) (by simp <;> omega) | exact Lib.hid ((Kept.refl _ _).drew) | exact drew_cell (by assumption) | exact Kept.allocH (by assumption) | exact alloc_cell (by assumption) | exact Lib.hid (Kept.trans0 (Hid.out (by assumption)) (by assumption)) | exact Kept.cell (by assumption) (by assumption) (by simp)))
  (first
   | (go_at_call 146; go_split_ands; refine (oneInUnits_any k _ hk).mono ?_; rintro e v1 ⟨g1, rfl, hg1, hb1, hk1⟩)
   | (go_at_call 119; go_split_ands; refine (MulBigs_z _ _ _ _ _ _ _ _ _ _ _ _ (HS.out.kept0 (((Kept.refl [] _).drew).trans0 hk1)) (sl_new hb1 rfl (by have := p2_len hk; omega)) HX.out HP.out HU.out HZ.out).mono ?_; rintro e v2 ⟨a2, c2, rfl, hs2, hf2, hk2⟩; have z12 := hk1.size; simp only [World.size_drew] at z12; have hkr := (((Kept.refl [] ww0).drew).trans0 hk1).trans0 hk2; have rg0 := hkr.cell (p := ⟨w.heap.size + 1, 0, none⟩) nR0.out (by simp); have rg1 := hkr.cell (p := ⟨w.heap.size + 1, 1, none⟩) nR1.out (by simp); have ru0 := hkr.free' (p := ⟨w.heap.size + 1, 0, none⟩) nR0.out fR0.out (by simp); have ru1 := hkr.free' (p := ⟨w.heap.size + 1, 1, none⟩) nR1.out fR1.out (by simp)))
 clear tA0 tA1
 have hk := hkr
 clear hkr
 clear hb1 hk1 hk2
 have z1 := hk.size
 replace fR0 := kf hk nR0 fR0
 replace fR1 := kf hk nR1 fR1
 replace nA0 := kc hk nA0
 replace nA1 := kc hk nA1
 replace nR0 := kc hk nR0
 replace nR1 := kc hk nR1
 replace HS := Lib.hid (HS.out.kept0 hk)
 replace KT := Lib.hid (KT.out.trans0 hk)
 clear hk
 have hs2 := Lib.hid hs2
 have G2 := Lib.hid (hf2.mono (B' := w.heap.size + 1 + 1) (by omega))
 clear hf2
 generalize hW : ((v2.setCell ⟨w.heap.size + 1, 0, none⟩ (.bool (isNeg u))).setCell ⟨w.heap.size + 1, 1, none⟩ (.slice a2 (mag u).length c2)) = ww2
 have hk : Kept [w.heap.size + 1] v2 ww2 := by rw [← hW]; exact ((Kept.refl _ _).setCell _ _ (by simp)).setCell _ _ (by simp)
 have hfz : ∀ x, ww2.frozen? x = v2.frozen? x := by rw [← hW]; intro x; simp only [World.frozen?_setCell]
 obtain ⟨e0, e1⟩ := st2 hW.symm nR0.out nR1.out
 have z2 := hk.size
 replace fR0 := kz hfz fR0
 replace fR1 := kz hfz fR1
 replace nA0 := kd hk nA0 (by simp <;> omega)
 replace nA1 := kd hk nA1 (by simp <;> omega)
 replace HS := Lib.hid (HS.out.kept hk (fun hn y hy hm => by have h9 := FS.out hn y hy; simp at hm; omega))
 replace hs2 := Lib.hid (hs2.out.kept hk (fun hn y hy hm => by have h9 := G2.out hn y hy; simp at hm; omega))
 replace nR0 := Lib.hid e0
 replace nR1 := Lib.hid e1
 replace KT := Lib.hid (KT.out.trans hk (fun x hx hlt => by simp at hx; omega))
 clear hk hfz hW e0 e1
 go_wp2_with fail
 have e0 := nR0.out
 have e1 := nR1.out
 refine bodyPost_ret (v := .agg #[.bool (isNeg u), .slice a2 (mag u).length c2]) (by simp [results, Tryz.results116, go_sem, e0, e1]) rfl ?_
 exact ⟨a2, c2, rfl, hs2.out, G2.out.mono (by omega), KT.out⟩

set_option maxHeartbeats 8000000 in
set_option maxRecDepth 20000 in
theorem RatSpan_any (P : Int) (p q : Bool) (a b : Option Addr) (n c m d : Nat) (xs ys : List Int) (w : World) (h : Sl w a n c xs) (h' : Sl w b m d ys) :
  Calls Tryz.prog 63 #[.int .i64 P, .agg #[.bool p, .slice a n c], .agg #[.bool q, .slice b m d]] w (SpanR w (ratS P p xs q ys)) := by
 have hL : xs.length = n := h.1
 have hM : ys.length = m := h'.1
 have HS := Lib.hid h
 have HS' := Lib.hid h'
 have FS := Lib.hid h.lt
 have FS' := Lib.hid h'.lt
 clear h h'
 by_cases hP : isP P = true
 ·skip
  by_cases hz : bigFault2 p xs q ys = 0
  ·by_cases hy0 : ys.length = 0
   ·skip
    rw [show ratS P p xs q ys = noSpan 6 from by unfold ratS; rw [if_pos hP, twoS_zero hz, if_pos hy0]]
    have hm0 : ((m : Int) == 0) = true := by rw [beq_iff_eq]; omega
    have HZ := Lib.hid hz
    have HP := Lib.hid hP
    clear hz hP hy0 hM hL
    go_enter Tryz.func63, Tryz.ntmps63
    go_wp2_with fail
    generalize hW : (((w.alloc (.cells #[.bool p, .slice a n c] 24)).alloc (.cells #[.bool q, .slice b m d] 24)).alloc (.cells #[.int .i64 0, .bool false, .slice none 0 0, .bool false, .slice none 0 0] 28)) = ww0
    have hkk : Kept [] (((w.alloc (.cells #[.bool p, .slice a n c] 24)).alloc (.cells #[.bool q, .slice b m d] 24)).alloc (.cells #[.int .i64 0, .bool false, .slice none 0 0, .bool false, .slice none 0 0] 28)) ww0 := by rw [hW]; exact Kept.refl _ _
    have zzA : w.heap.size + 1 + 1 + 1 = ww0.heap.size := by rw [← hW]; simp
    obtain ⟨⟨nA0, nA1⟩, _⟩ := tp2 hkk.peel.peel (g := w.heap.size) (by simp) (by simp)
    obtain ⟨⟨nB0, nB1⟩, _⟩ := tp2 hkk.peel (g := w.heap.size + 1) (by simp) (by simp)
    obtain ⟨⟨nR0, nR1, nR2, nR3, nR4⟩, fR0, fR1, fR2, fR3, fR4⟩ := tp5 hkk (g := w.heap.size + 1 + 1) (by simp) (by simp)
    have hk := hkk.peel.peel.peel
    clear hkk hW
    have z0 := hk.size
    have KT := Lib.hid hk
    clear hk
    replace HS := Lib.hid (HS.out.kept0 KT.out)
    replace HS' := Lib.hid (HS'.out.kept0 KT.out)
    refine (isPrecision_any _ _).mono ?_
    rintro e ww1 ⟨rfl, hk⟩
    rw [HP.out]
    have z1 := hk.size
    replace fR0 := kf hk nR0 fR0
    replace fR1 := kf hk nR1 fR1
    replace fR2 := kf hk nR2 fR2
    replace fR3 := kf hk nR3 fR3
    replace fR4 := kf hk nR4 fR4
    replace nA0 := kc hk nA0
    replace nA1 := kc hk nA1
    replace nB0 := kc hk nB0
    replace nB1 := kc hk nB1
    replace nR0 := kc hk nR0
    replace nR1 := kc hk nR1
    replace nR2 := kc hk nR2
    replace nR3 := kc hk nR3
    replace nR4 := kc hk nR4
    replace HS := Lib.hid (HS.out.kept0 hk)
    replace HS' := Lib.hid (HS'.out.kept0 hk)
    replace KT := Lib.hid (KT.out.trans0 hk)
    clear hk
    have tA0 := nA0.out
    have tA1 := nA1.out
    have tB0 := nB0.out
    have tB1 := nB1.out
    go_wp2_with fail
    clear tA0 tA1 tB0 tB1
    refine (firstBigFault_two _ _ _ _ _ _ _ _ _ _ _ _ (by omega) HS.out.rd HS'.out.rd).mono ?_
    rintro e ww2 ⟨rfl, hk⟩
    rw [HZ.out]
    have z2 := hk.size
    replace fR0 := kf hk nR0 fR0
    replace fR1 := kf hk nR1 fR1
    replace fR2 := kf hk nR2 fR2
    replace fR3 := kf hk nR3 fR3
    replace fR4 := kf hk nR4 fR4
    replace nA0 := kc hk nA0
    replace nA1 := kc hk nA1
    replace nB0 := kc hk nB0
    replace nB1 := kc hk nB1
    replace nR0 := kc hk nR0
    replace nR1 := kc hk nR1
    replace nR2 := kc hk nR2
    replace nR3 := kc hk nR3
    replace nR4 := kc hk nR4
    replace HS := Lib.hid (HS.out.kept0 hk)
    replace HS' := Lib.hid (HS'.out.kept0 hk)
    replace KT := Lib.hid (KT.out.trans0 hk)
    clear hk
    have tA0 := nA0.out
    have tA1 := nA1.out
    have tB0 := nB0.out
    have tB1 := nB1.out
    have tR0 := nR0.out
    have tR1 := nR1.out
    have tR2 := nR2.out
    have tR3 := nR3.out
    have tR4 := nR4.out
    have uR0 := fR0.out
    have uR1 := fR1.out
    have uR2 := fR2.out
    have uR3 := fR3.out
    have uR4 := fR4.out
    go_wp2_with fail
    clear tA0 tA1 tB0 tB1 tR0 tR1 tR2 tR3 tR4 uR0 uR1 uR2 uR3 uR4
    generalize hW : (((((ww2.setCell ⟨w.heap.size + 1 + 1, 0, none⟩ (.int .i64 6)).setCell ⟨w.heap.size + 1 + 1, 1, none⟩ (.bool false)).setCell ⟨w.heap.size + 1 + 1, 2, none⟩ (.slice none 0 0)).setCell ⟨w.heap.size + 1 + 1, 3, none⟩ (.bool false)).setCell ⟨w.heap.size + 1 + 1, 4, none⟩ (.slice none 0 0)) = ww3
    have hk : Kept [w.heap.size + 1 + 1] ww2 ww3 := by rw [← hW]; exact (((((Kept.refl _ _).setCell _ _ (by simp)).setCell _ _ (by simp)).setCell _ _ (by simp)).setCell _ _ (by simp)).setCell _ _ (by simp)
    have hfz : ∀ x, ww3.frozen? x = ww2.frozen? x := by rw [← hW]; intro x; simp only [World.frozen?_setCell]
    obtain ⟨e0, e1, e2, e3, e4⟩ := st5 hW.symm nR0.out nR1.out nR2.out nR3.out nR4.out
    have z3 := hk.size
    replace fR0 := kz hfz fR0
    replace fR1 := kz hfz fR1
    replace fR2 := kz hfz fR2
    replace fR3 := kz hfz fR3
    replace fR4 := kz hfz fR4
    replace nA0 := kd hk nA0 (by simp <;> omega)
    replace nA1 := kd hk nA1 (by simp <;> omega)
    replace nB0 := kd hk nB0 (by simp <;> omega)
    replace nB1 := kd hk nB1 (by simp <;> omega)
    replace HS := Lib.hid (HS.out.kept hk (fun hn y hy hm => by have h9 := FS.out hn y hy; simp at hm; omega))
    replace HS' := Lib.hid (HS'.out.kept hk (fun hn y hy hm => by have h9 := FS'.out hn y hy; simp at hm; omega))
    replace nR0 := Lib.hid e0
    replace nR1 := Lib.hid e1
    replace nR2 := Lib.hid e2
    replace nR3 := Lib.hid e3
    replace nR4 := Lib.hid e4
    replace KT := Lib.hid (KT.out.trans hk (fun x hx hlt => by simp at hx; omega))
    clear hk hfz hW e0 e1 e2 e3 e4
    have e0 := nR0.out
    have e1 := nR1.out
    have e2 := nR2.out
    have e3 := nR3.out
    have e4 := nR4.out
    refine bodyPost_ret (v := .agg #[.int .i64 6, .bool false, .slice none 0 0, .bool false, .slice none 0 0]) (by simp [results, Tryz.results63, go_sem, e0, e1, e2, e3, e4]) rfl ?_
    exact spanR_no KT.out
   ·skip
    by_cases h20 : 20 < n
    ·skip
     rw [show ratS P p xs q ys = noSpan 2 from by unfold ratS; rw [if_pos hP, twoS_zero hz, if_neg hy0, if_pos (by omega)]]
     have hm0 : ((m : Int) == 0) = false := by rw [beq_eq_false_iff_ne]; omega
     have HZ := Lib.hid hz
     have HP := Lib.hid hP
     clear hz hP hy0 hM hL
     go_enter Tryz.func63, Tryz.ntmps63
     go_wp2_with fail
     generalize hW : (((w.alloc (.cells #[.bool p, .slice a n c] 24)).alloc (.cells #[.bool q, .slice b m d] 24)).alloc (.cells #[.int .i64 0, .bool false, .slice none 0 0, .bool false, .slice none 0 0] 28)) = ww0
     have hkk : Kept [] (((w.alloc (.cells #[.bool p, .slice a n c] 24)).alloc (.cells #[.bool q, .slice b m d] 24)).alloc (.cells #[.int .i64 0, .bool false, .slice none 0 0, .bool false, .slice none 0 0] 28)) ww0 := by rw [hW]; exact Kept.refl _ _
     have zzA : w.heap.size + 1 + 1 + 1 = ww0.heap.size := by rw [← hW]; simp
     obtain ⟨⟨nA0, nA1⟩, _⟩ := tp2 hkk.peel.peel (g := w.heap.size) (by simp) (by simp)
     obtain ⟨⟨nB0, nB1⟩, _⟩ := tp2 hkk.peel (g := w.heap.size + 1) (by simp) (by simp)
     obtain ⟨⟨nR0, nR1, nR2, nR3, nR4⟩, fR0, fR1, fR2, fR3, fR4⟩ := tp5 hkk (g := w.heap.size + 1 + 1) (by simp) (by simp)
     have hk := hkk.peel.peel.peel
     clear hkk hW
     have z0 := hk.size
     have KT := Lib.hid hk
     clear hk
     replace HS := Lib.hid (HS.out.kept0 KT.out)
     replace HS' := Lib.hid (HS'.out.kept0 KT.out)
     refine (isPrecision_any _ _).mono ?_
     rintro e ww1 ⟨rfl, hk⟩
     rw [HP.out]
     have z1 := hk.size
     replace fR0 := kf hk nR0 fR0
     replace fR1 := kf hk nR1 fR1
     replace fR2 := kf hk nR2 fR2
     replace fR3 := kf hk nR3 fR3
     replace fR4 := kf hk nR4 fR4
     replace nA0 := kc hk nA0
     replace nA1 := kc hk nA1
     replace nB0 := kc hk nB0
     replace nB1 := kc hk nB1
     replace nR0 := kc hk nR0
     replace nR1 := kc hk nR1
     replace nR2 := kc hk nR2
     replace nR3 := kc hk nR3
     replace nR4 := kc hk nR4
     replace HS := Lib.hid (HS.out.kept0 hk)
     replace HS' := Lib.hid (HS'.out.kept0 hk)
     replace KT := Lib.hid (KT.out.trans0 hk)
     clear hk
     have tA0 := nA0.out
     have tA1 := nA1.out
     have tB0 := nB0.out
     have tB1 := nB1.out
     go_wp2_with fail
     clear tA0 tA1 tB0 tB1
     refine (firstBigFault_two _ _ _ _ _ _ _ _ _ _ _ _ (by omega) HS.out.rd HS'.out.rd).mono ?_
     rintro e ww2 ⟨rfl, hk⟩
     rw [HZ.out]
     have z2 := hk.size
     replace fR0 := kf hk nR0 fR0
     replace fR1 := kf hk nR1 fR1
     replace fR2 := kf hk nR2 fR2
     replace fR3 := kf hk nR3 fR3
     replace fR4 := kf hk nR4 fR4
     replace nA0 := kc hk nA0
     replace nA1 := kc hk nA1
     replace nB0 := kc hk nB0
     replace nB1 := kc hk nB1
     replace nR0 := kc hk nR0
     replace nR1 := kc hk nR1
     replace nR2 := kc hk nR2
     replace nR3 := kc hk nR3
     replace nR4 := kc hk nR4
     replace HS := Lib.hid (HS.out.kept0 hk)
     replace HS' := Lib.hid (HS'.out.kept0 hk)
     replace KT := Lib.hid (KT.out.trans0 hk)
     clear hk
     have tA0 := nA0.out
     have tA1 := nA1.out
     have tB0 := nB0.out
     have tB1 := nB1.out
     go_wp2_with fail
     clear tA0 tA1 tB0 tB1
     refine (isTooLong_yes _ _ _ _ _ h20).mono ?_
     rintro e ww3 ⟨rfl, hk⟩
     have z3 := hk.size
     replace fR0 := kf hk nR0 fR0
     replace fR1 := kf hk nR1 fR1
     replace fR2 := kf hk nR2 fR2
     replace fR3 := kf hk nR3 fR3
     replace fR4 := kf hk nR4 fR4
     replace nA0 := kc hk nA0
     replace nA1 := kc hk nA1
     replace nB0 := kc hk nB0
     replace nB1 := kc hk nB1
     replace nR0 := kc hk nR0
     replace nR1 := kc hk nR1
     replace nR2 := kc hk nR2
     replace nR3 := kc hk nR3
     replace nR4 := kc hk nR4
     replace HS := Lib.hid (HS.out.kept0 hk)
     replace HS' := Lib.hid (HS'.out.kept0 hk)
     replace KT := Lib.hid (KT.out.trans0 hk)
     clear hk
     have tA0 := nA0.out
     have tA1 := nA1.out
     have tB0 := nB0.out
     have tB1 := nB1.out
     have tR0 := nR0.out
     have tR1 := nR1.out
     have tR2 := nR2.out
     have tR3 := nR3.out
     have tR4 := nR4.out
     have uR0 := fR0.out
     have uR1 := fR1.out
     have uR2 := fR2.out
     have uR3 := fR3.out
     have uR4 := fR4.out
     go_wp2_with fail
     clear tA0 tA1 tB0 tB1 tR0 tR1 tR2 tR3 tR4 uR0 uR1 uR2 uR3 uR4
     generalize hW : (((((ww3.setCell ⟨w.heap.size + 1 + 1, 0, none⟩ (.int .i64 2)).setCell ⟨w.heap.size + 1 + 1, 1, none⟩ (.bool false)).setCell ⟨w.heap.size + 1 + 1, 2, none⟩ (.slice none 0 0)).setCell ⟨w.heap.size + 1 + 1, 3, none⟩ (.bool false)).setCell ⟨w.heap.size + 1 + 1, 4, none⟩ (.slice none 0 0)) = ww4
     have hk : Kept [w.heap.size + 1 + 1] ww3 ww4 := by rw [← hW]; exact (((((Kept.refl _ _).setCell _ _ (by simp)).setCell _ _ (by simp)).setCell _ _ (by simp)).setCell _ _ (by simp)).setCell _ _ (by simp)
     have hfz : ∀ x, ww4.frozen? x = ww3.frozen? x := by rw [← hW]; intro x; simp only [World.frozen?_setCell]
     obtain ⟨e0, e1, e2, e3, e4⟩ := st5 hW.symm nR0.out nR1.out nR2.out nR3.out nR4.out
     have z4 := hk.size
     replace fR0 := kz hfz fR0
     replace fR1 := kz hfz fR1
     replace fR2 := kz hfz fR2
     replace fR3 := kz hfz fR3
     replace fR4 := kz hfz fR4
     replace nA0 := kd hk nA0 (by simp <;> omega)
     replace nA1 := kd hk nA1 (by simp <;> omega)
     replace nB0 := kd hk nB0 (by simp <;> omega)
     replace nB1 := kd hk nB1 (by simp <;> omega)
     replace HS := Lib.hid (HS.out.kept hk (fun hn y hy hm => by have h9 := FS.out hn y hy; simp at hm; omega))
     replace HS' := Lib.hid (HS'.out.kept hk (fun hn y hy hm => by have h9 := FS'.out hn y hy; simp at hm; omega))
     replace nR0 := Lib.hid e0
     replace nR1 := Lib.hid e1
     replace nR2 := Lib.hid e2
     replace nR3 := Lib.hid e3
     replace nR4 := Lib.hid e4
     replace KT := Lib.hid (KT.out.trans hk (fun x hx hlt => by simp at hx; omega))
     clear hk hfz hW e0 e1 e2 e3 e4
     have e0 := nR0.out
     have e1 := nR1.out
     have e2 := nR2.out
     have e3 := nR3.out
     have e4 := nR4.out
     refine bodyPost_ret (v := .agg #[.int .i64 2, .bool false, .slice none 0 0, .bool false, .slice none 0 0]) (by simp [results, Tryz.results63, go_sem, e0, e1, e2, e3, e4]) rfl ?_
     exact spanR_no KT.out
    have g20 := h20
    clear h20
    by_cases h20 : 20 < m
    ·skip
     rw [show ratS P p xs q ys = noSpan 2 from by unfold ratS; rw [if_pos hP, twoS_zero hz, if_neg hy0, if_pos (by omega)]]
     have hm0 : ((m : Int) == 0) = false := by rw [beq_eq_false_iff_ne]; omega
     have HZ := Lib.hid hz
     have HP := Lib.hid hP
     clear hz hP hy0 hM hL
     go_enter Tryz.func63, Tryz.ntmps63
     go_wp2_with fail
     generalize hW : (((w.alloc (.cells #[.bool p, .slice a n c] 24)).alloc (.cells #[.bool q, .slice b m d] 24)).alloc (.cells #[.int .i64 0, .bool false, .slice none 0 0, .bool false, .slice none 0 0] 28)) = ww0
     have hkk : Kept [] (((w.alloc (.cells #[.bool p, .slice a n c] 24)).alloc (.cells #[.bool q, .slice b m d] 24)).alloc (.cells #[.int .i64 0, .bool false, .slice none 0 0, .bool false, .slice none 0 0] 28)) ww0 := by rw [hW]; exact Kept.refl _ _
     have zzA : w.heap.size + 1 + 1 + 1 = ww0.heap.size := by rw [← hW]; simp
     obtain ⟨⟨nA0, nA1⟩, _⟩ := tp2 hkk.peel.peel (g := w.heap.size) (by simp) (by simp)
     obtain ⟨⟨nB0, nB1⟩, _⟩ := tp2 hkk.peel (g := w.heap.size + 1) (by simp) (by simp)
     obtain ⟨⟨nR0, nR1, nR2, nR3, nR4⟩, fR0, fR1, fR2, fR3, fR4⟩ := tp5 hkk (g := w.heap.size + 1 + 1) (by simp) (by simp)
     have hk := hkk.peel.peel.peel
     clear hkk hW
     have z0 := hk.size
     have KT := Lib.hid hk
     clear hk
     replace HS := Lib.hid (HS.out.kept0 KT.out)
     replace HS' := Lib.hid (HS'.out.kept0 KT.out)
     refine (isPrecision_any _ _).mono ?_
     rintro e ww1 ⟨rfl, hk⟩
     rw [HP.out]
     have z1 := hk.size
     replace fR0 := kf hk nR0 fR0
     replace fR1 := kf hk nR1 fR1
     replace fR2 := kf hk nR2 fR2
     replace fR3 := kf hk nR3 fR3
     replace fR4 := kf hk nR4 fR4
     replace nA0 := kc hk nA0
     replace nA1 := kc hk nA1
     replace nB0 := kc hk nB0
     replace nB1 := kc hk nB1
     replace nR0 := kc hk nR0
     replace nR1 := kc hk nR1
     replace nR2 := kc hk nR2
     replace nR3 := kc hk nR3
     replace nR4 := kc hk nR4
     replace HS := Lib.hid (HS.out.kept0 hk)
     replace HS' := Lib.hid (HS'.out.kept0 hk)
     replace KT := Lib.hid (KT.out.trans0 hk)
     clear hk
     have tA0 := nA0.out
     have tA1 := nA1.out
     have tB0 := nB0.out
     have tB1 := nB1.out
     go_wp2_with fail
     clear tA0 tA1 tB0 tB1
     refine (firstBigFault_two _ _ _ _ _ _ _ _ _ _ _ _ (by omega) HS.out.rd HS'.out.rd).mono ?_
     rintro e ww2 ⟨rfl, hk⟩
     rw [HZ.out]
     have z2 := hk.size
     replace fR0 := kf hk nR0 fR0
     replace fR1 := kf hk nR1 fR1
     replace fR2 := kf hk nR2 fR2
     replace fR3 := kf hk nR3 fR3
     replace fR4 := kf hk nR4 fR4
     replace nA0 := kc hk nA0
     replace nA1 := kc hk nA1
     replace nB0 := kc hk nB0
     replace nB1 := kc hk nB1
     replace nR0 := kc hk nR0
     replace nR1 := kc hk nR1
     replace nR2 := kc hk nR2
     replace nR3 := kc hk nR3
     replace nR4 := kc hk nR4
     replace HS := Lib.hid (HS.out.kept0 hk)
     replace HS' := Lib.hid (HS'.out.kept0 hk)
     replace KT := Lib.hid (KT.out.trans0 hk)
     clear hk
     have tA0 := nA0.out
     have tA1 := nA1.out
     have tB0 := nB0.out
     have tB1 := nB1.out
     go_wp2_with fail
     clear tA0 tA1 tB0 tB1
     refine (isTooLong_no _ _ _ _ _ g20).mono ?_
     rintro e ww3 ⟨rfl, hk⟩
     have z3 := hk.size
     replace fR0 := kf hk nR0 fR0
     replace fR1 := kf hk nR1 fR1
     replace fR2 := kf hk nR2 fR2
     replace fR3 := kf hk nR3 fR3
     replace fR4 := kf hk nR4 fR4
     replace nA0 := kc hk nA0
     replace nA1 := kc hk nA1
     replace nB0 := kc hk nB0
     replace nB1 := kc hk nB1
     replace nR0 := kc hk nR0
     replace nR1 := kc hk nR1
     replace nR2 := kc hk nR2
     replace nR3 := kc hk nR3
     replace nR4 := kc hk nR4
     replace HS := Lib.hid (HS.out.kept0 hk)
     replace HS' := Lib.hid (HS'.out.kept0 hk)
     replace KT := Lib.hid (KT.out.trans0 hk)
     clear hk
     have tB0 := nB0.out
     have tB1 := nB1.out
     go_wp2_with fail
     clear tB0 tB1
     refine (isTooLong_yes _ _ _ _ _ h20).mono ?_
     rintro e ww4 ⟨rfl, hk⟩
     have z4 := hk.size
     replace fR0 := kf hk nR0 fR0
     replace fR1 := kf hk nR1 fR1
     replace fR2 := kf hk nR2 fR2
     replace fR3 := kf hk nR3 fR3
     replace fR4 := kf hk nR4 fR4
     replace nA0 := kc hk nA0
     replace nA1 := kc hk nA1
     replace nB0 := kc hk nB0
     replace nB1 := kc hk nB1
     replace nR0 := kc hk nR0
     replace nR1 := kc hk nR1
     replace nR2 := kc hk nR2
     replace nR3 := kc hk nR3
     replace nR4 := kc hk nR4
     replace HS := Lib.hid (HS.out.kept0 hk)
     replace HS' := Lib.hid (HS'.out.kept0 hk)
     replace KT := Lib.hid (KT.out.trans0 hk)
     clear hk
     have tA0 := nA0.out
     have tA1 := nA1.out
     have tB0 := nB0.out
     have tB1 := nB1.out
     have tR0 := nR0.out
     have tR1 := nR1.out
     have tR2 := nR2.out
     have tR3 := nR3.out
     have tR4 := nR4.out
     have uR0 := fR0.out
     have uR1 := fR1.out
     have uR2 := fR2.out
     have uR3 := fR3.out
     have uR4 := fR4.out
     go_wp2_with fail
     clear tA0 tA1 tB0 tB1 tR0 tR1 tR2 tR3 tR4 uR0 uR1 uR2 uR3 uR4
     generalize hW : (((((ww4.setCell ⟨w.heap.size + 1 + 1, 0, none⟩ (.int .i64 2)).setCell ⟨w.heap.size + 1 + 1, 1, none⟩ (.bool false)).setCell ⟨w.heap.size + 1 + 1, 2, none⟩ (.slice none 0 0)).setCell ⟨w.heap.size + 1 + 1, 3, none⟩ (.bool false)).setCell ⟨w.heap.size + 1 + 1, 4, none⟩ (.slice none 0 0)) = ww5
     have hk : Kept [w.heap.size + 1 + 1] ww4 ww5 := by rw [← hW]; exact (((((Kept.refl _ _).setCell _ _ (by simp)).setCell _ _ (by simp)).setCell _ _ (by simp)).setCell _ _ (by simp)).setCell _ _ (by simp)
     have hfz : ∀ x, ww5.frozen? x = ww4.frozen? x := by rw [← hW]; intro x; simp only [World.frozen?_setCell]
     obtain ⟨e0, e1, e2, e3, e4⟩ := st5 hW.symm nR0.out nR1.out nR2.out nR3.out nR4.out
     have z5 := hk.size
     replace fR0 := kz hfz fR0
     replace fR1 := kz hfz fR1
     replace fR2 := kz hfz fR2
     replace fR3 := kz hfz fR3
     replace fR4 := kz hfz fR4
     replace nA0 := kd hk nA0 (by simp <;> omega)
     replace nA1 := kd hk nA1 (by simp <;> omega)
     replace nB0 := kd hk nB0 (by simp <;> omega)
     replace nB1 := kd hk nB1 (by simp <;> omega)
     replace HS := Lib.hid (HS.out.kept hk (fun hn y hy hm => by have h9 := FS.out hn y hy; simp at hm; omega))
     replace HS' := Lib.hid (HS'.out.kept hk (fun hn y hy hm => by have h9 := FS'.out hn y hy; simp at hm; omega))
     replace nR0 := Lib.hid e0
     replace nR1 := Lib.hid e1
     replace nR2 := Lib.hid e2
     replace nR3 := Lib.hid e3
     replace nR4 := Lib.hid e4
     replace KT := Lib.hid (KT.out.trans hk (fun x hx hlt => by simp at hx; omega))
     clear hk hfz hW e0 e1 e2 e3 e4
     have e0 := nR0.out
     have e1 := nR1.out
     have e2 := nR2.out
     have e3 := nR3.out
     have e4 := nR4.out
     refine bodyPost_ret (v := .agg #[.int .i64 2, .bool false, .slice none 0 0, .bool false, .slice none 0 0]) (by simp [results, Tryz.results63, go_sem, e0, e1, e2, e3, e4]) rfl ?_
     exact spanR_no KT.out
    obtain ⟨k, rfl⟩ : ∃ k : Nat, P = (k : Int) := ⟨P.toNat, by rcases isP_cases hP with h | h | h <;> omega⟩
    have hk96 : k ≤ 96 := by rcases isP_cases hP with h | h | h <;> omega
    obtain ⟨u, hu⟩ : ∃ u, u = inU (k : Int) p xs := ⟨_, rfl⟩
    obtain ⟨hx, hy⟩ := bigFault2_zero hz
    have hul : (mag u).length ≤ 27 := by rw [hu]; exact inU_len hP hx (by omega)
    obtain ⟨t1, ht1⟩ : ∃ t, t = divZ false (isNeg u) q (val (mag u)) (val ys) := ⟨_, rfl⟩
    obtain ⟨t2, ht2⟩ : ∃ t, t = divZ true (isNeg u) q (val (mag u)) (val ys) := ⟨_, rfl⟩
    obtain ⟨r, hr⟩ : ∃ r, r = fitS t1 t2 := ⟨_, rfl⟩
    rw [show ratS (k : Int) p xs q ys = r from by unfold ratS; rw [if_pos hP, twoS_zero hz, if_neg hy0, if_neg (by omega), ← hu, ← ht1, ← ht2, hr]]
    have hm0 : ((m : Int) == 0) = false := by rw [beq_eq_false_iff_ne]; omega
    have HU := Lib.hid (show u = sv p xs * p2 k from hu)
    have HZ := Lib.hid hz
    have HP := Lib.hid hP
    have HR := Lib.hid hr
    have HT1 := Lib.hid ht1
    have HT2 := Lib.hid ht2
    have HX := Lib.hid hx
    have HY := Lib.hid hy
    have HY0 := Lib.hid hy0
    have HUO := Lib.hid (bigOk_of (z := u) (by omega))
    clear hz hP hr ht1 ht2 hx hy hu hy0 hM hL
    go_enter Tryz.func63, Tryz.ntmps63
    go_wp2_with fail
    generalize hW : (((w.alloc (.cells #[.bool p, .slice a n c] 24)).alloc (.cells #[.bool q, .slice b m d] 24)).alloc (.cells #[.int .i64 0, .bool false, .slice none 0 0, .bool false, .slice none 0 0] 28)) = ww0
    have hkk : Kept [] (((w.alloc (.cells #[.bool p, .slice a n c] 24)).alloc (.cells #[.bool q, .slice b m d] 24)).alloc (.cells #[.int .i64 0, .bool false, .slice none 0 0, .bool false, .slice none 0 0] 28)) ww0 := by rw [hW]; exact Kept.refl _ _
    have zzA : w.heap.size + 1 + 1 + 1 = ww0.heap.size := by rw [← hW]; simp
    obtain ⟨⟨nA0, nA1⟩, _⟩ := tp2 hkk.peel.peel (g := w.heap.size) (by simp) (by simp)
    obtain ⟨⟨nB0, nB1⟩, _⟩ := tp2 hkk.peel (g := w.heap.size + 1) (by simp) (by simp)
    obtain ⟨⟨nR0, nR1, nR2, nR3, nR4⟩, fR0, fR1, fR2, fR3, fR4⟩ := tp5 hkk (g := w.heap.size + 1 + 1) (by simp) (by simp)
    have hk := hkk.peel.peel.peel
    clear hkk hW
    have z0 := hk.size
    have KT := Lib.hid hk
    clear hk
    replace HS := Lib.hid (HS.out.kept0 KT.out)
    replace HS' := Lib.hid (HS'.out.kept0 KT.out)
    refine (isPrecision_any _ _).mono ?_
    rintro e ww1 ⟨rfl, hk⟩
    rw [HP.out]
    have z1 := hk.size
    replace fR0 := kf hk nR0 fR0
    replace fR1 := kf hk nR1 fR1
    replace fR2 := kf hk nR2 fR2
    replace fR3 := kf hk nR3 fR3
    replace fR4 := kf hk nR4 fR4
    replace nA0 := kc hk nA0
    replace nA1 := kc hk nA1
    replace nB0 := kc hk nB0
    replace nB1 := kc hk nB1
    replace nR0 := kc hk nR0
    replace nR1 := kc hk nR1
    replace nR2 := kc hk nR2
    replace nR3 := kc hk nR3
    replace nR4 := kc hk nR4
    replace HS := Lib.hid (HS.out.kept0 hk)
    replace HS' := Lib.hid (HS'.out.kept0 hk)
    replace KT := Lib.hid (KT.out.trans0 hk)
    clear hk
    have tA0 := nA0.out
    have tA1 := nA1.out
    have tB0 := nB0.out
    have tB1 := nB1.out
    go_wp2_with fail
    clear tA0 tA1 tB0 tB1
    refine (firstBigFault_two _ _ _ _ _ _ _ _ _ _ _ _ (by omega) HS.out.rd HS'.out.rd).mono ?_
    rintro e ww2 ⟨rfl, hk⟩
    rw [HZ.out]
    have z2 := hk.size
    replace fR0 := kf hk nR0 fR0
    replace fR1 := kf hk nR1 fR1
    replace fR2 := kf hk nR2 fR2
    replace fR3 := kf hk nR3 fR3
    replace fR4 := kf hk nR4 fR4
    replace nA0 := kc hk nA0
    replace nA1 := kc hk nA1
    replace nB0 := kc hk nB0
    replace nB1 := kc hk nB1
    replace nR0 := kc hk nR0
    replace nR1 := kc hk nR1
    replace nR2 := kc hk nR2
    replace nR3 := kc hk nR3
    replace nR4 := kc hk nR4
    replace HS := Lib.hid (HS.out.kept0 hk)
    replace HS' := Lib.hid (HS'.out.kept0 hk)
    replace KT := Lib.hid (KT.out.trans0 hk)
    clear hk
    have tA0 := nA0.out
    have tA1 := nA1.out
    have tB0 := nB0.out
    have tB1 := nB1.out
    go_wp2_with fail
    clear tA0 tA1 tB0 tB1
    refine (isTooLong_no _ _ _ _ _ g20).mono ?_
    rintro e ww3 ⟨rfl, hk⟩
    have z3 := hk.size
    replace fR0 := kf hk nR0 fR0
    replace fR1 := kf hk nR1 fR1
    replace fR2 := kf hk nR2 fR2
    replace fR3 := kf hk nR3 fR3
    replace fR4 := kf hk nR4 fR4
    replace nA0 := kc hk nA0
    replace nA1 := kc hk nA1
    replace nB0 := kc hk nB0
    replace nB1 := kc hk nB1
    replace nR0 := kc hk nR0
    replace nR1 := kc hk nR1
    replace nR2 := kc hk nR2
    replace nR3 := kc hk nR3
    replace nR4 := kc hk nR4
    replace HS := Lib.hid (HS.out.kept0 hk)
    replace HS' := Lib.hid (HS'.out.kept0 hk)
    replace KT := Lib.hid (KT.out.trans0 hk)
    clear hk
    have tB0 := nB0.out
    have tB1 := nB1.out
    go_wp2_with fail
    clear tB0 tB1
    refine (isTooLong_no _ _ _ _ _ h20).mono ?_
    rintro e ww4 ⟨rfl, hk⟩
    have z4 := hk.size
    replace fR0 := kf hk nR0 fR0
    replace fR1 := kf hk nR1 fR1
    replace fR2 := kf hk nR2 fR2
    replace fR3 := kf hk nR3 fR3
    replace fR4 := kf hk nR4 fR4
    replace nA0 := kc hk nA0
    replace nA1 := kc hk nA1
    replace nB0 := kc hk nB0
    replace nB1 := kc hk nB1
    replace nR0 := kc hk nR0
    replace nR1 := kc hk nR1
    replace nR2 := kc hk nR2
    replace nR3 := kc hk nR3
    replace nR4 := kc hk nR4
    replace HS := Lib.hid (HS.out.kept0 hk)
    replace HS' := Lib.hid (HS'.out.kept0 hk)
    replace KT := Lib.hid (KT.out.trans0 hk)
    clear hk
    have tA0 := nA0.out
    have tA1 := nA1.out
    go_wp2_with fail
    clear tA0 tA1
    refine (inUnits_any k _ _ _ _ _ u _ hk96 HS.out HX.out (by omega) HU.out).mono ?_
    rintro e ww5 ⟨a0, c0, rfl, hs0, hf0, hk⟩
    have SU := Lib.hid hs0
    have GU := Lib.hid (hf0.mono (B' := w.heap.size + 1 + 1 + 1) (by omega))
    clear hs0 hf0
    have z5 := hk.size
    replace fR0 := kf hk nR0 fR0
    replace fR1 := kf hk nR1 fR1
    replace fR2 := kf hk nR2 fR2
    replace fR3 := kf hk nR3 fR3
    replace fR4 := kf hk nR4 fR4
    replace nA0 := kc hk nA0
    replace nA1 := kc hk nA1
    replace nB0 := kc hk nB0
    replace nB1 := kc hk nB1
    replace nR0 := kc hk nR0
    replace nR1 := kc hk nR1
    replace nR2 := kc hk nR2
    replace nR3 := kc hk nR3
    replace nR4 := kc hk nR4
    replace HS := Lib.hid (HS.out.kept0 hk)
    replace HS' := Lib.hid (HS'.out.kept0 hk)
    replace KT := Lib.hid (KT.out.trans0 hk)
    clear hk
    go_upto_region 11 with fail
    generalize hW : (ww5.alloc (.cells #[.bool (isNeg u), .slice a0 (mag u).length c0] 24)) = ww6
    have hk : Kept [] ww5 ww6 := by rw [← hW]; exact (Kept.refl [] _).alloc _
    have zzU : ww5.heap.size + 1 = ww6.heap.size := by rw [← hW]; simp
    have nU0 := Lib.hid (show ww6.cell? ⟨ww5.heap.size, 0, none⟩ = some (.bool (isNeg u)) by rw [← hW, World.cell?_alloc_new]; rfl)
    have nU1 := Lib.hid (show ww6.cell? ⟨ww5.heap.size, 1, none⟩ = some (.slice a0 (mag u).length c0) by rw [← hW, World.cell?_alloc_new]; rfl)
    clear hW
    have z6 := hk.size
    replace fR0 := kf hk nR0 fR0
    replace fR1 := kf hk nR1 fR1
    replace fR2 := kf hk nR2 fR2
    replace fR3 := kf hk nR3 fR3
    replace fR4 := kf hk nR4 fR4
    replace nA0 := kc hk nA0
    replace nA1 := kc hk nA1
    replace nB0 := kc hk nB0
    replace nB1 := kc hk nB1
    replace nR0 := kc hk nR0
    replace nR1 := kc hk nR1
    replace nR2 := kc hk nR2
    replace nR3 := kc hk nR3
    replace nR4 := kc hk nR4
    replace HS := Lib.hid (HS.out.kept0 hk)
    replace HS' := Lib.hid (HS'.out.kept0 hk)
    replace SU := Lib.hid (SU.out.kept0 hk)
    replace KT := Lib.hid (KT.out.trans0 hk)
    clear hk
    have tU0 := nU0.out
    have tU1 := nU1.out
    have tB0 := nB0.out
    have tB1 := nB1.out
    go_region_held3 (fun w' => w'.cell? ⟨ww5.heap.size, 0, none⟩ = some (.bool (isNeg u)) ∧ w'.cell? ⟨ww5.heap.size, 1, none⟩ = some (.slice a0 (mag u).length c0) ∧ w'.cell? ⟨w.heap.size + 1, 0, none⟩ = some (.bool q) ∧ w'.cell? ⟨w.heap.size + 1, 1, none⟩ = some (.slice b m d) ∧ Hid (Kept [w.heap.size + 1 + 1] ww6 w'))
     ((go_split_ands; (try refine ⟨?_, ?_, ?_, ?_, ?_⟩) <;> with_reducible first | exact Kept.set5 (by assumption) | exact cell_set5 (by assumption) (by simp <;> omega) | exact Lib.hid ((Kept.refl _ _).drew) | exact drew_cell (by assumption) | exact Kept.allocH (by assumption) | exact alloc_cell (by assumption) | exact Lib.hid (Kept.trans0 (Hid.out (by assumption)) (by assumption)) | exact Kept.cell (by assumption) (by assumption) (by simp)))
     (first
      | (go_at_call 111; go_split_ands; refine (FloorDiv_z _ _ _ _ _ _ _ _ _ _ _ _ (SU.out.kept0 ((Kept.refl [] _).drew)) (HS'.out.kept0 ((Kept.refl [] _).drew)) HUO.out HY.out HY0.out (by omega) HT1.out).mono ?_; rintro e v1 ⟨a1, c1, rfl, hs1, hf1, hk1⟩)
      | (go_at_call 112; go_split_ands; refine (CeilDiv_z _ _ _ _ _ _ _ _ _ _ _ _ (SU.out.kept0 (((Kept.refl [] _).drew).trans0 hk1)) (HS'.out.kept0 (((Kept.refl [] _).drew).trans0 hk1)) HUO.out HY.out HY0.out (by omega) HT2.out).mono ?_; rintro e v2 ⟨a2, c2, rfl, hs2, hf2, hk2⟩)
      | (go_at_call 73; go_split_ands; refine (spanResult_any _ _ _ _ _ _ _ _ _ (hs1.kept0 hk2) hs2).mono ?_; rintro e v3 ⟨a3, c3, b3, d3, rfl, hs3, hs4, hf3, hf4, hne, hk3⟩; have z12 := (hk1.trans0 hk2).size; simp only [World.size_drew] at z12; have hkr := ((((Kept.refl [] ww6).drew).trans0 hk1).trans0 hk2).trans0 hk3; have rg0 := hkr.cell (p := ⟨w.heap.size + 1 + 1, 0, none⟩) nR0.out (by simp); have rg1 := hkr.cell (p := ⟨w.heap.size + 1 + 1, 1, none⟩) nR1.out (by simp); have rg2 := hkr.cell (p := ⟨w.heap.size + 1 + 1, 2, none⟩) nR2.out (by simp); have rg3 := hkr.cell (p := ⟨w.heap.size + 1 + 1, 3, none⟩) nR3.out (by simp); have rg4 := hkr.cell (p := ⟨w.heap.size + 1 + 1, 4, none⟩) nR4.out (by simp); have ru0 := hkr.free' (p := ⟨w.heap.size + 1 + 1, 0, none⟩) nR0.out fR0.out (by simp); have ru1 := hkr.free' (p := ⟨w.heap.size + 1 + 1, 1, none⟩) nR1.out fR1.out (by simp); have ru2 := hkr.free' (p := ⟨w.heap.size + 1 + 1, 2, none⟩) nR2.out fR2.out (by simp); have ru3 := hkr.free' (p := ⟨w.heap.size + 1 + 1, 3, none⟩) nR3.out fR3.out (by simp); have ru4 := hkr.free' (p := ⟨w.heap.size + 1 + 1, 4, none⟩) nR4.out fR4.out (by simp)))
    clear tU0 tU1 tB0 tB1
    have hk := hkr
    clear hkr
    clear hs1 hf1 hs2 hf2 hk1 hk2 hk3
    rw [← HR.out] at hs3 hs4 hf3 hf4 hne ⊢
    have z7 := hk.size
    replace fR0 := kf hk nR0 fR0
    replace fR1 := kf hk nR1 fR1
    replace fR2 := kf hk nR2 fR2
    replace fR3 := kf hk nR3 fR3
    replace fR4 := kf hk nR4 fR4
    replace nA0 := kc hk nA0
    replace nA1 := kc hk nA1
    replace nB0 := kc hk nB0
    replace nB1 := kc hk nB1
    replace nR0 := kc hk nR0
    replace nR1 := kc hk nR1
    replace nR2 := kc hk nR2
    replace nR3 := kc hk nR3
    replace nR4 := kc hk nR4
    replace HS := Lib.hid (HS.out.kept0 hk)
    replace HS' := Lib.hid (HS'.out.kept0 hk)
    replace SU := Lib.hid (SU.out.kept0 hk)
    replace nU0 := kc hk nU0
    replace nU1 := kc hk nU1
    replace KT := Lib.hid (KT.out.trans0 hk)
    clear hk
    have hs3 := Lib.hid hs3
    have hs4 := Lib.hid hs4
    have HNE := Lib.hid hne
    have G3 := Lib.hid (hf3.mono (B' := w.heap.size + 1 + 1 + 1) (by omega))
    have G4 := Lib.hid (hf4.mono (B' := w.heap.size + 1 + 1 + 1) (by omega))
    clear hf3 hf4 hne
    generalize hW : (((((v3.setCell ⟨w.heap.size + 1 + 1, 0, none⟩ (.int .i64 r.code)).setCell ⟨w.heap.size + 1 + 1, 1, none⟩ (.bool (isNeg r.lo))).setCell ⟨w.heap.size + 1 + 1, 2, none⟩ (.slice a3 (mag r.lo).length c3)).setCell ⟨w.heap.size + 1 + 1, 3, none⟩ (.bool (isNeg r.hi))).setCell ⟨w.heap.size + 1 + 1, 4, none⟩ (.slice b3 (mag r.hi).length d3)) = ww8
    have hk : Kept [w.heap.size + 1 + 1] v3 ww8 := by rw [← hW]; exact (((((Kept.refl _ _).setCell _ _ (by simp)).setCell _ _ (by simp)).setCell _ _ (by simp)).setCell _ _ (by simp)).setCell _ _ (by simp)
    have hfz : ∀ x, ww8.frozen? x = v3.frozen? x := by rw [← hW]; intro x; simp only [World.frozen?_setCell]
    obtain ⟨e0, e1, e2, e3, e4⟩ := st5 hW.symm nR0.out nR1.out nR2.out nR3.out nR4.out
    have z8 := hk.size
    replace fR0 := kz hfz fR0
    replace fR1 := kz hfz fR1
    replace fR2 := kz hfz fR2
    replace fR3 := kz hfz fR3
    replace fR4 := kz hfz fR4
    replace nA0 := kd hk nA0 (by simp <;> omega)
    replace nA1 := kd hk nA1 (by simp <;> omega)
    replace nB0 := kd hk nB0 (by simp <;> omega)
    replace nB1 := kd hk nB1 (by simp <;> omega)
    replace HS := Lib.hid (HS.out.kept hk (fun hn y hy hm => by have h9 := FS.out hn y hy; simp at hm; omega))
    replace HS' := Lib.hid (HS'.out.kept hk (fun hn y hy hm => by have h9 := FS'.out hn y hy; simp at hm; omega))
    replace SU := Lib.hid (SU.out.kept hk (fun hn y hy hm => by have h9 := GU.out hn y hy; simp at hm; omega))
    replace nU0 := kd hk nU0 (by simp <;> omega)
    replace nU1 := kd hk nU1 (by simp <;> omega)
    replace hs3 := Lib.hid (hs3.out.kept hk (fun hn y hy hm => by have h9 := G3.out hn y hy; simp at hm; omega))
    replace hs4 := Lib.hid (hs4.out.kept hk (fun hn y hy hm => by have h9 := G4.out hn y hy; simp at hm; omega))
    replace nR0 := Lib.hid e0
    replace nR1 := Lib.hid e1
    replace nR2 := Lib.hid e2
    replace nR3 := Lib.hid e3
    replace nR4 := Lib.hid e4
    replace KT := Lib.hid (KT.out.trans hk (fun x hx hlt => by simp at hx; omega))
    clear hk hfz hW e0 e1 e2 e3 e4
    go_wp2_with fail
    have e0 := nR0.out
    have e1 := nR1.out
    have e2 := nR2.out
    have e3 := nR3.out
    have e4 := nR4.out
    refine bodyPost_ret (v := .agg #[.int .i64 r.code, .bool (isNeg r.lo), .slice a3 (mag r.lo).length c3, .bool (isNeg r.hi), .slice b3 (mag r.hi).length d3]) (by simp [results, Tryz.results63, go_sem, e0, e1, e2, e3, e4]) rfl ?_
    exact ⟨a3, c3, b3, d3, rfl, hs3.out, hs4.out, G3.out.mono (by omega), G4.out.mono (by omega), HNE.out, KT.out⟩
  ·skip
   rw [show ratS P p xs q ys = noSpan (bigFault2 p xs q ys) from by unfold ratS; rw [if_pos hP, twoS_not hz]]
   generalize hf : bigFault2 p xs q ys = f at *
   have hne : (f == 0) = false := by rw [beq_eq_false_iff_ne]; exact hz
   have HZ := Lib.hid hf
   have HP := Lib.hid hP
   clear hf hz hP hM hL
   go_enter Tryz.func63, Tryz.ntmps63
   go_wp2_with fail
   generalize hW : (((w.alloc (.cells #[.bool p, .slice a n c] 24)).alloc (.cells #[.bool q, .slice b m d] 24)).alloc (.cells #[.int .i64 0, .bool false, .slice none 0 0, .bool false, .slice none 0 0] 28)) = ww0
   have hkk : Kept [] (((w.alloc (.cells #[.bool p, .slice a n c] 24)).alloc (.cells #[.bool q, .slice b m d] 24)).alloc (.cells #[.int .i64 0, .bool false, .slice none 0 0, .bool false, .slice none 0 0] 28)) ww0 := by rw [hW]; exact Kept.refl _ _
   have zzA : w.heap.size + 1 + 1 + 1 = ww0.heap.size := by rw [← hW]; simp
   obtain ⟨⟨nA0, nA1⟩, _⟩ := tp2 hkk.peel.peel (g := w.heap.size) (by simp) (by simp)
   obtain ⟨⟨nB0, nB1⟩, _⟩ := tp2 hkk.peel (g := w.heap.size + 1) (by simp) (by simp)
   obtain ⟨⟨nR0, nR1, nR2, nR3, nR4⟩, fR0, fR1, fR2, fR3, fR4⟩ := tp5 hkk (g := w.heap.size + 1 + 1) (by simp) (by simp)
   have hk := hkk.peel.peel.peel
   clear hkk hW
   have z0 := hk.size
   have KT := Lib.hid hk
   clear hk
   replace HS := Lib.hid (HS.out.kept0 KT.out)
   replace HS' := Lib.hid (HS'.out.kept0 KT.out)
   refine (isPrecision_any _ _).mono ?_
   rintro e ww1 ⟨rfl, hk⟩
   rw [HP.out]
   have z1 := hk.size
   replace fR0 := kf hk nR0 fR0
   replace fR1 := kf hk nR1 fR1
   replace fR2 := kf hk nR2 fR2
   replace fR3 := kf hk nR3 fR3
   replace fR4 := kf hk nR4 fR4
   replace nA0 := kc hk nA0
   replace nA1 := kc hk nA1
   replace nB0 := kc hk nB0
   replace nB1 := kc hk nB1
   replace nR0 := kc hk nR0
   replace nR1 := kc hk nR1
   replace nR2 := kc hk nR2
   replace nR3 := kc hk nR3
   replace nR4 := kc hk nR4
   replace HS := Lib.hid (HS.out.kept0 hk)
   replace HS' := Lib.hid (HS'.out.kept0 hk)
   replace KT := Lib.hid (KT.out.trans0 hk)
   clear hk
   have tA0 := nA0.out
   have tA1 := nA1.out
   have tB0 := nB0.out
   have tB1 := nB1.out
   go_wp2_with fail
   clear tA0 tA1 tB0 tB1
   refine (firstBigFault_two _ _ _ _ _ _ _ _ _ _ _ _ (by omega) HS.out.rd HS'.out.rd).mono ?_
   rintro e ww2 ⟨rfl, hk⟩
   rw [HZ.out]
   have z2 := hk.size
   replace fR0 := kf hk nR0 fR0
   replace fR1 := kf hk nR1 fR1
   replace fR2 := kf hk nR2 fR2
   replace fR3 := kf hk nR3 fR3
   replace fR4 := kf hk nR4 fR4
   replace nA0 := kc hk nA0
   replace nA1 := kc hk nA1
   replace nB0 := kc hk nB0
   replace nB1 := kc hk nB1
   replace nR0 := kc hk nR0
   replace nR1 := kc hk nR1
   replace nR2 := kc hk nR2
   replace nR3 := kc hk nR3
   replace nR4 := kc hk nR4
   replace HS := Lib.hid (HS.out.kept0 hk)
   replace HS' := Lib.hid (HS'.out.kept0 hk)
   replace KT := Lib.hid (KT.out.trans0 hk)
   clear hk
   have tA0 := nA0.out
   have tA1 := nA1.out
   have tB0 := nB0.out
   have tB1 := nB1.out
   have tR0 := nR0.out
   have tR1 := nR1.out
   have tR2 := nR2.out
   have tR3 := nR3.out
   have tR4 := nR4.out
   have uR0 := fR0.out
   have uR1 := fR1.out
   have uR2 := fR2.out
   have uR3 := fR3.out
   have uR4 := fR4.out
   go_wp2_with fail
   clear tA0 tA1 tB0 tB1 tR0 tR1 tR2 tR3 tR4 uR0 uR1 uR2 uR3 uR4
   generalize hW : (((((ww2.setCell ⟨w.heap.size + 1 + 1, 0, none⟩ (.int .i64 f)).setCell ⟨w.heap.size + 1 + 1, 1, none⟩ (.bool false)).setCell ⟨w.heap.size + 1 + 1, 2, none⟩ (.slice none 0 0)).setCell ⟨w.heap.size + 1 + 1, 3, none⟩ (.bool false)).setCell ⟨w.heap.size + 1 + 1, 4, none⟩ (.slice none 0 0)) = ww3
   have hk : Kept [w.heap.size + 1 + 1] ww2 ww3 := by rw [← hW]; exact (((((Kept.refl _ _).setCell _ _ (by simp)).setCell _ _ (by simp)).setCell _ _ (by simp)).setCell _ _ (by simp)).setCell _ _ (by simp)
   have hfz : ∀ x, ww3.frozen? x = ww2.frozen? x := by rw [← hW]; intro x; simp only [World.frozen?_setCell]
   obtain ⟨e0, e1, e2, e3, e4⟩ := st5 hW.symm nR0.out nR1.out nR2.out nR3.out nR4.out
   have z3 := hk.size
   replace fR0 := kz hfz fR0
   replace fR1 := kz hfz fR1
   replace fR2 := kz hfz fR2
   replace fR3 := kz hfz fR3
   replace fR4 := kz hfz fR4
   replace nA0 := kd hk nA0 (by simp <;> omega)
   replace nA1 := kd hk nA1 (by simp <;> omega)
   replace nB0 := kd hk nB0 (by simp <;> omega)
   replace nB1 := kd hk nB1 (by simp <;> omega)
   replace HS := Lib.hid (HS.out.kept hk (fun hn y hy hm => by have h9 := FS.out hn y hy; simp at hm; omega))
   replace HS' := Lib.hid (HS'.out.kept hk (fun hn y hy hm => by have h9 := FS'.out hn y hy; simp at hm; omega))
   replace nR0 := Lib.hid e0
   replace nR1 := Lib.hid e1
   replace nR2 := Lib.hid e2
   replace nR3 := Lib.hid e3
   replace nR4 := Lib.hid e4
   replace KT := Lib.hid (KT.out.trans hk (fun x hx hlt => by simp at hx; omega))
   clear hk hfz hW e0 e1 e2 e3 e4
   have e0 := nR0.out
   have e1 := nR1.out
   have e2 := nR2.out
   have e3 := nR3.out
   have e4 := nR4.out
   refine bodyPost_ret (v := .agg #[.int .i64 f, .bool false, .slice none 0 0, .bool false, .slice none 0 0]) (by simp [results, Tryz.results63, go_sem, e0, e1, e2, e3, e4]) rfl ?_
   exact spanR_no KT.out
 ·skip
  rw [show ratS P p xs q ys = noSpan 3 from by unfold ratS; rw [if_neg hP]]
  have HP := Lib.hid (show isP P = false by simpa using hP)
  clear hP hM hL
  go_enter Tryz.func63, Tryz.ntmps63
  go_wp2_with fail
  generalize hW : (((w.alloc (.cells #[.bool p, .slice a n c] 24)).alloc (.cells #[.bool q, .slice b m d] 24)).alloc (.cells #[.int .i64 0, .bool false, .slice none 0 0, .bool false, .slice none 0 0] 28)) = ww0
  have hkk : Kept [] (((w.alloc (.cells #[.bool p, .slice a n c] 24)).alloc (.cells #[.bool q, .slice b m d] 24)).alloc (.cells #[.int .i64 0, .bool false, .slice none 0 0, .bool false, .slice none 0 0] 28)) ww0 := by rw [hW]; exact Kept.refl _ _
  have zzA : w.heap.size + 1 + 1 + 1 = ww0.heap.size := by rw [← hW]; simp
  obtain ⟨⟨nA0, nA1⟩, _⟩ := tp2 hkk.peel.peel (g := w.heap.size) (by simp) (by simp)
  obtain ⟨⟨nB0, nB1⟩, _⟩ := tp2 hkk.peel (g := w.heap.size + 1) (by simp) (by simp)
  obtain ⟨⟨nR0, nR1, nR2, nR3, nR4⟩, fR0, fR1, fR2, fR3, fR4⟩ := tp5 hkk (g := w.heap.size + 1 + 1) (by simp) (by simp)
  have hk := hkk.peel.peel.peel
  clear hkk hW
  have z0 := hk.size
  have KT := Lib.hid hk
  clear hk
  replace HS := Lib.hid (HS.out.kept0 KT.out)
  replace HS' := Lib.hid (HS'.out.kept0 KT.out)
  refine (isPrecision_any _ _).mono ?_
  rintro e ww1 ⟨rfl, hk⟩
  rw [HP.out]
  have z1 := hk.size
  replace fR0 := kf hk nR0 fR0
  replace fR1 := kf hk nR1 fR1
  replace fR2 := kf hk nR2 fR2
  replace fR3 := kf hk nR3 fR3
  replace fR4 := kf hk nR4 fR4
  replace nA0 := kc hk nA0
  replace nA1 := kc hk nA1
  replace nB0 := kc hk nB0
  replace nB1 := kc hk nB1
  replace nR0 := kc hk nR0
  replace nR1 := kc hk nR1
  replace nR2 := kc hk nR2
  replace nR3 := kc hk nR3
  replace nR4 := kc hk nR4
  replace HS := Lib.hid (HS.out.kept0 hk)
  replace HS' := Lib.hid (HS'.out.kept0 hk)
  replace KT := Lib.hid (KT.out.trans0 hk)
  clear hk
  have tA0 := nA0.out
  have tA1 := nA1.out
  have tB0 := nB0.out
  have tB1 := nB1.out
  have tR0 := nR0.out
  have tR1 := nR1.out
  have tR2 := nR2.out
  have tR3 := nR3.out
  have tR4 := nR4.out
  have uR0 := fR0.out
  have uR1 := fR1.out
  have uR2 := fR2.out
  have uR3 := fR3.out
  have uR4 := fR4.out
  go_wp2_with fail
  clear tA0 tA1 tB0 tB1 tR0 tR1 tR2 tR3 tR4 uR0 uR1 uR2 uR3 uR4
  generalize hW : (((((ww1.setCell ⟨w.heap.size + 1 + 1, 0, none⟩ (.int .i64 3)).setCell ⟨w.heap.size + 1 + 1, 1, none⟩ (.bool false)).setCell ⟨w.heap.size + 1 + 1, 2, none⟩ (.slice none 0 0)).setCell ⟨w.heap.size + 1 + 1, 3, none⟩ (.bool false)).setCell ⟨w.heap.size + 1 + 1, 4, none⟩ (.slice none 0 0)) = ww2
  have hk : Kept [w.heap.size + 1 + 1] ww1 ww2 := by rw [← hW]; exact (((((Kept.refl _ _).setCell _ _ (by simp)).setCell _ _ (by simp)).setCell _ _ (by simp)).setCell _ _ (by simp)).setCell _ _ (by simp)
  have hfz : ∀ x, ww2.frozen? x = ww1.frozen? x := by rw [← hW]; intro x; simp only [World.frozen?_setCell]
  obtain ⟨e0, e1, e2, e3, e4⟩ := st5 hW.symm nR0.out nR1.out nR2.out nR3.out nR4.out
  have z2 := hk.size
  replace fR0 := kz hfz fR0
  replace fR1 := kz hfz fR1
  replace fR2 := kz hfz fR2
  replace fR3 := kz hfz fR3
  replace fR4 := kz hfz fR4
  replace nA0 := kd hk nA0 (by simp <;> omega)
  replace nA1 := kd hk nA1 (by simp <;> omega)
  replace nB0 := kd hk nB0 (by simp <;> omega)
  replace nB1 := kd hk nB1 (by simp <;> omega)
  replace HS := Lib.hid (HS.out.kept hk (fun hn y hy hm => by have h9 := FS.out hn y hy; simp at hm; omega))
  replace HS' := Lib.hid (HS'.out.kept hk (fun hn y hy hm => by have h9 := FS'.out hn y hy; simp at hm; omega))
  replace nR0 := Lib.hid e0
  replace nR1 := Lib.hid e1
  replace nR2 := Lib.hid e2
  replace nR3 := Lib.hid e3
  replace nR4 := Lib.hid e4
  replace KT := Lib.hid (KT.out.trans hk (fun x hx hlt => by simp at hx; omega))
  clear hk hfz hW e0 e1 e2 e3 e4
  have e0 := nR0.out
  have e1 := nR1.out
  have e2 := nR2.out
  have e3 := nR3.out
  have e4 := nR4.out
  refine bodyPost_ret (v := .agg #[.int .i64 3, .bool false, .slice none 0 0, .bool false, .slice none 0 0]) (by simp [results, Tryz.results63, go_sem, e0, e1, e2, e3, e4]) rfl ?_
  exact spanR_no KT.out

end Go.Proofs.YtfafjijoeanbhaaGreat
