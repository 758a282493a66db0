/-
  Several of my texts in one, each as it was: ShelfLen, Root, SpanP, SpanQ. No condition but theirs.
-/
import Derived.Test.YtofpommikmdlfaaProg
import Derived.Shelf.Strconv.Itoa0
import Derived.Test.YtofpommikmdlfaaBigF
import Derived.Lib.BitFns
import Derived.Deep.LoopGhost
import Derived.Deep.RegionHeld3
import Derived.Deep.DrawnRows
import Derived.Deep.DeepCutAuto
import Derived.Test.YtofpommikmdlfaaSpanI
import Derived.Test.YtofpommikmdlfaaJ2
import Derived.Test.YtofpommikmdlfaaSMul
import Derived.Test.YtofpommikmdlfaaJ1
namespace Go.Proofs
open Go.Shelf

end Go.Proofs
namespace Go.Proofs.Ytofpommikmdlfaa

end Go.Proofs.Ytofpommikmdlfaa

namespace Go.Proofs.Ytofpommikmdlfaa
open Go.RowKit

theorem bitLen_zero : Lib.bitLen 0 = 0 := by decide +kernel
theorem bitLen_lt : ∀ (f x : Nat), x ≤ f → x < 2 ^ 64 → (x : Int) < p2 (Lib.bitLen x)
  | 0, x, h, _ => by obtain rfl : x = 0 := by omega
                     rw [bitLen_zero]; simp [p2]
  | f + 1, x, h, hx => by
    by_cases e : x = 0
    · subst e; rw [bitLen_zero]; simp [p2]
    · rw [Lib.bitLen_half x e hx]
      have := bitLen_lt f (x / 2) (by omega) (by omega)
      rw [show 1 + Lib.bitLen (x / 2) = Lib.bitLen (x / 2) + 1 by omega]
      simp only [p2]; omega
theorem bitLen_le : ∀ (k x : Nat), (x : Int) < p2 k → x < 2 ^ 64 → Lib.bitLen x ≤ k
  | 0, x, h, _ => by simp only [p2] at h; obtain rfl : x = 0 := by omega
                     rw [bitLen_zero]; exact Nat.le_refl _
  | k + 1, x, h, hx => by
    by_cases e : x = 0
    · subst e; rw [bitLen_zero]; exact Nat.zero_le _
    · rw [Lib.bitLen_half x e hx]
      simp only [p2] at h
      have := bitLen_le k (x / 2) (by omega) (by omega)
      omega

theorem val_last {xs : List Int} {n : Nat} (h : AllLimbs xs) (hn : xs.length = n + 1) : val xs < pw n * (xs.getD n 0 + 1) := by
  have h1 := val_split xs n (by omega)
  have h2 := (h.take n).val
  have h3 : (xs.take n).length = n := by simp; omega
  rw [h3] at h2
  have h4 : val (xs.drop n) = xs.getD n 0 := by
    rw [val_drop, List.drop_eq_nil_of_le (by omega)]; simp [val]
  rw [h4] at h1
  rw [h1, Int.mul_add]; omega

/-- How many binary digits a number has, at most; none of them is 0 ahead. -/
def BitR (w : World) (X : Int) (e : Ending) (w' : World) : Prop := ∃ L : Nat, e = .returned (.int .i64 L) ∧ w = w' ∧ X < p2 L ∧ L ≤ 640

theorem val_pow (k : Nat) (y : Int) : val (List.replicate k 0 ++ [y]) = pw k * y := by
  rw [val_append]
  have h : ∀ k x, ap (List.replicate k 0) x = pw k * x := by
    intro k
    induction k with
    | zero => intro x; simp [ap, pw]
    | succ k ih => intro x; simp only [List.replicate_succ, ap, pw]; rw [ih, Int.mul_assoc]; omega
  rw [h]; simp [val]
theorem canon_pow (k : Nat) {y : Int} (hy : 1 ≤ y ∧ y ≤ 65535) : Canon (List.replicate k 0 ++ [y]) := by
  induction k with
  | zero => exact ⟨by omega, by omega, trivial, fun _ => by omega⟩
  | succ k ih => exact ⟨by omega, by omega, ih, fun h => by simp at h⟩
theorem set_pow (k : Nat) (y : Int) : (List.replicate (k + 1) (0 : Int)).set k y = List.replicate k 0 ++ [y] := by
  rw [List.replicate_succ', List.set_append_right _ _ (by simp)]; simp
theorem p2_shl : ∀ r : Nat, r ≤ 15 → (1 : Int) * 2 ^ r = p2 r
  | 0, _ => by decide
  | r + 1, h => by simp only [p2]; have := p2_shl r (by omega); rw [Int.pow_succ]; omega

set_option maxHeartbeats 1000000 in
set_option maxRecDepth 100000 in
theorem powerOfTwo_any (k : Nat) (w : World) (hk : k ≤ 640) :
    Calls Try.prog 70 #[.int .i64 k] w (NewS w (digits (p2 k))) := by
  obtain ⟨i0, hi, hz0, hz1, hz2⟩ := info_parts Try.info64
  obtain ⟨q, hq⟩ : ∃ q, q = k / 16 := ⟨_, rfl⟩
  obtain ⟨r, hr⟩ : ∃ r, r = k % 16 := ⟨_, rfl⟩
  have hmk := fun (w : World) => run_make_row (P := Try.prog) 22 2 i0 (.int .i64 0) Try.underlying22 hi hz0 hz1 rfl .i64 .i64 (q + 1) (by rw [hz2]; omega) (by omega) w
  have hcast : ((q + 1 : Nat) : Int) = (q : Int) + 1 := by omega
  simp only [hcast] at hmk
  clear hcast
  have hb0 := Blk.new w (List.replicate (q + 1) 0)
  rw [← made_zeros] at hb0
  have hy : 1 ≤ p2 r ∧ p2 r ≤ 65535 := ⟨p2_pos r, by have := p2_mono r 15 (by omega); have e : p2 15 = 32768 := rfl; omega⟩
  have hv : digits (p2 k) = List.replicate q 0 ++ [p2 r] := by
    rw [← digits_val (canon_pow q hy), val_pow, pw_p2, ← p2_add, hq, hr, Nat.div_add_mod]
  rw [hv]
  have hset := hb0.set q (p2 r)
  rw [set_pow] at hset
  have HSET := Lib.hid hset
  have HB := Lib.hid hb0
  have hc := hb0.cell (j := q) (by simp)
  have hf := hb0.frozen q
  have e1 : (k : Int) / 16 = (q : Int) := by omega
  have e2 : (k : Int) % 16 = (r : Int) := by omega
  have hq39 : q ≤ 40 := by omega
  have hr15 : r ≤ 15 := by omega
  have hsh := p2_shl r hr15
  clear hset hb0 hi hz0 hz1 hz2 hv hq hr
  go_enter Try.func70, Try.ntmps70
  go_wp2_with fail
  have h9 := HSET.out
  rw [World.setCell_alloc_at _ _ _ _ _ rfl] at h9
  go_ret
  exact ⟨w.heap.size, by simp, Nat.le_refl _, h9, (Kept.refl [] w).alloc _⟩

theorem DivNats_dig (a b : Option Addr) (n c m d : Nat) (x y : Int) (w : World) (h : Rd w a n (digits x)) (h' : Rd w b m (digits y)) (hx : 0 ≤ x) (hy : 0 < y) (hxl : (digits x).length ≤ 40) (hyl : (digits y).length ≤ 40) :
    Calls Try.prog 71 #[.slice a n c, .slice b m d] w (DivR w 0 (digits (x / y)) (digits (x % y))) := by
  have h1 := nat40_of_canon (canon_digits' x) hxl
  have h2 := nat40_of_canon (canon_digits' y) hyl
  have := DivNats_ok a b n c m d (digits x) (digits y) w h h' (by rw [fault2_second (nat40_fault h1)]; exact nat40_fault h2) (by have := digits_len_pos hy; omega)
  rwa [val_digits' hx, val_digits' (Int.le_of_lt hy)] at this
theorem AddNats_dig (a b : Option Addr) (n c m d : Nat) (x y : Int) (w : World) (h : Rd w a n (digits x)) (h' : Rd w b m (digits y)) (hx : 0 ≤ x) (hy : 0 ≤ y) (hxl : (digits x).length ≤ 40) (hyl : (digits y).length ≤ 40) (hs : x + y < pw 40) :
    Calls Try.prog 72 #[.slice a n c, .slice b m d] w (NatR w 0 (digits (x + y))) := by
  have h1 := nat40_of_canon (canon_digits' x) hxl
  have h2 := nat40_of_canon (canon_digits' y) hyl
  have := AddNats_fit a b n c m d (digits x) (digits y) w h h' (by rw [fault2_second (nat40_fault h1)]; exact nat40_fault h2)
  rw [val_digits' hx, val_digits' hy] at this
  obtain ⟨e1, e2⟩ := fit_small (v := x + y) (n := 40) hs (Nat.le_refl _)
  rwa [e1, e2] at this
theorem CompareNats_dig (a b : Option Addr) (n c m d : Nat) (x y : Int) (w : World) (h : Rd w a n (digits x)) (h' : Rd w b m (digits y)) (hx : 0 ≤ x) (hy : 0 ≤ y) (hxl : (digits x).length ≤ 40) (hyl : (digits y).length ≤ 40) :
    Calls Try.prog 73 #[.slice a n c, .slice b m d] w (Ans w (.int .i64 (cmpV x y))) := by
  have h1 := nat40_of_canon (canon_digits' x) hxl
  have h2 := nat40_of_canon (canon_digits' y) hyl
  have := CompareNats_any a b n c m d (digits x) (digits y) w h h'
  rwa [if_pos (by rw [fault2_second (nat40_fault h1)]; exact nat40_fault h2), val_digits' hx, val_digits' hy] at this
/-- From above the root a quotient is little greater than what it was divided by. -/
theorem newton_le {v r x : Int} (h : IsRoot v r) (hx : 0 < x) (hr : r ≤ x) : v / x ≤ x + 2 := by
  have h1 := sq_mono (a := r + 1) (b := x + 1) (by have := h.pos; omega) (by omega)
  have h2 := h.high
  have h3 : (x + 1) * (x + 1) = x * x + 2 * x + 1 := by rw [Int.add_mul, Int.mul_add]; omega
  have h4 : v < (x + 3) * x := by rw [Int.add_mul]; omega
  have := Int.ediv_lt_of_lt_mul hx h4
  omega
theorem two_dig : digits 2 = [2] := by rw [digits_pos (by omega), digits_zero (by omega)]; rfl
theorem rd_two (w : World) {g : Nat} (hg : w.heap.size = g) : Rd (w.alloc (.cells #[.int .i64 2] 2)) (some ⟨g, 0, none⟩) 1 [2] := by
  subst hg
  exact (Sl.ofBlk (Blk.new w [2]) (by simp)).rd

theorem field_quot (v0 v1 v2 : Value) (w : World) : Sem.run Try.prog (Instr.field 90 (.agg #[v0, v1, v2]) 1) w = .ok v1 w := by kernel_rfl

/-- The program's root: the limbs lie in memory of the call's own. -/
def RootR (w : World) (v : Int) (e : Ending) (w' : World) : Prop := ∃ a c, e = .returned (.slice a (digits (isq v)).length c) ∧ Sl w' a (digits (isq v)).length c (digits (isq v)) ∧ Fr w.heap.size a (digits (isq v)).length ∧ Kept [] w w'

end Go.Proofs.Ytofpommikmdlfaa

namespace Go.Proofs.Ytofpommikmdlfaa
open Go.RowKit

set_option maxHeartbeats 1000000 in
theorem isPrecision_any (P : Int) (w : World) : Calls Try.prog 48 #[.int .i64 P] w (Ans w (.bool (isP P))) := by
  unfold isP
  by_cases h1 : P = 48
  · subst h1
    go_enter Try.func48, Try.ntmps48
    go_wp2
    go_ret
    exact ⟨rfl, Kept.refl _ _⟩
  · by_cases h2 : P = 72
    · subst h2
      go_enter Try.func48, Try.ntmps48
      go_wp2
      go_ret
      exact ⟨rfl, Kept.refl _ _⟩
    · by_cases h3 : P = 96
      · subst h3
        go_enter Try.func48, Try.ntmps48
        go_wp2
        go_ret
        exact ⟨rfl, Kept.refl _ _⟩
      · have e1 : (P == 48) = false := by simpa using h1
        have e2 : (P == 72) = false := by simpa using h2
        have e3 : (P == 96) = false := by simpa using h3
        have HE := Lib.hid (show decide (P = 48 ∨ P = 72 ∨ P = 96) = false from decide_eq_false (by omega))
        clear h1 h2 h3
        go_enter Try.func48, Try.ntmps48
        go_wp2
        go_ret
        exact ⟨by rw [HE.out] <;> rfl, Kept.refl _ _⟩
set_option maxHeartbeats 1000000 in
theorem l3Prec_any (P : Int) (w : World) : Calls Try.prog 42 #[.int .i64 P] w (Ans w (.bool (isP P))) := by
  unfold isP
  by_cases h1 : P = 48
  · subst h1
    go_enter Try.func42, Try.ntmps42
    go_wp2
    go_ret
    exact ⟨rfl, Kept.refl _ _⟩
  · by_cases h2 : P = 72
    · subst h2
      go_enter Try.func42, Try.ntmps42
      go_wp2
      go_ret
      exact ⟨rfl, Kept.refl _ _⟩
    · by_cases h3 : P = 96
      · subst h3
        go_enter Try.func42, Try.ntmps42
        go_wp2
        go_ret
        exact ⟨rfl, Kept.refl _ _⟩
      · have e1 : (P == 48) = false := by simpa using h1
        have e2 : (P == 72) = false := by simpa using h2
        have e3 : (P == 96) = false := by simpa using h3
        have HE := Lib.hid (show decide (P = 48 ∨ P = 72 ∨ P = 96) = false from decide_eq_false (by omega))
        clear h1 h2 h3
        go_enter Try.func42, Try.ntmps42
        go_wp2
        go_ret
        exact ⟨by rw [HE.out] <;> rfl, Kept.refl _ _⟩

set_option maxHeartbeats 1000000 in
theorem l3Bits_72 (w : World) : Calls Try.prog 63 #[.int .i64 72] w (Ans w (.int .i64 256)) := by
  go_enter Try.func63, Try.ntmps63
  go_wp2
  go_loopw [0, 3] (fun p l wr => ∃ (k : Nat) (v : Int), k ≤ 8 ∧ p = .int .i64 (8 - (k : Int)) ∧ l = .int .i64 v ∧ 1 ≤ v ∧ v ≤ 256 ∧ Hid (v = p2 k) ∧ wr = w) (fun p _ _ => (intOf p).toNat)
  case atStart => exact ⟨0, 1, by omega, rfl, rfl, by omega, by omega, rfl, rfl⟩
  case round =>
    obtain ⟨k, v, hk, rfl, rfl, hv1, hv2, hv, rfl⟩ := hrel
    by_cases hlt : k < 8
    · have hv3 : v ≤ 128 := by
        have h1 := p2_mono k 7 (by omega)
        have h2 : p2 7 = 128 := rfl
        have := hv.out
        omega
      have e1 : IntKind.i64.wrap (v * 2) = v * 2 := IntWalk.i64_in _ (by omega)
      have e2 : IntKind.i64.wrap (8 - (k : Int) - 1) = 8 - (k : Int) - 1 := IntWalk.i64_in _ (by omega)
      have HV2 : Hid (v * 2 = p2 (k + 1)) := by
        show v * 2 = 2 * p2 k
        rw [hv.out]; omega
      have hg : (0 : Int) < 8 - (k : Int) := by omega
      go_wp2
      go_roundw
      case rel => exact ⟨k + 1, v * 2, by omega, by congr 1; omega, rfl, by omega, by omega, HV2, trivial⟩
      case measure => simp [intOf]; omega
    · obtain rfl : k = 8 := by omega
      have h2 : v = 256 := hv.out
      subst h2
      go_wp2
      go_ret
      exact ⟨rfl, Kept.refl _ _⟩

theorem make_run (k : Nat) (hk : k ≤ 1000) (w : World) : Sem.run Try.prog (Instr.makeSlice 22 (.int .i64 (k : Int)) (.int .i64 (k : Int))) w = .ok (.slice (some ⟨w.heap.size, 0, none⟩) k k) (w.alloc (.cells (ints (List.replicate k 0)) 2)) := by
  obtain ⟨i0, hi, hz0, hz1, hz2⟩ := info_parts Try.info64
  have h := run_make_row (P := Try.prog) 22 2 i0 (.int .i64 0) Try.underlying22 hi hz0 hz1 rfl .i64 .i64 k (by rw [hz2]; omega) (by omega) w
  rw [made_zeros] at h
  exact h
theorem ow_lit (B : Nat) (w : World) (l : List Int) (hB : B ≤ w.heap.size) (hl : l.length ≤ 1000) : Ow B (w.alloc (.cells (ints l) 2)) (.slice (some ⟨w.heap.size, 0, none⟩) l.length l.length) l := by
  have h := World.ownsRow_lit (base := B) (e := 2) (size := 1) w (ints l) l.length hB (by unfold maxLen; omega) (by simp [ints])
  exact h
theorem canon_zeros {xs : List Int} (k : Nat) (hx : Nat40 xs) (hn : xs.length ≠ 0) : List.replicate k 0 ++ xs = digits (val xs * pw k) := by
  have h1 : AllLimbs (List.replicate k 0 ++ xs) := (AllLimbs.zeros k).append hx.limb
  have hv : val (List.replicate k 0 ++ xs) = val xs * pw k := by
    rw [val_append, ap_pw, val_zeros, List.length_replicate, Int.mul_comm]; omega
  rw [← hv]
  refine digits_of_limbs h1 (fun _ => ?_)
  have ht := hx.top (by omega)
  rw [List.getD_eq_getElem?_getD, List.getElem?_append_right (by simp; omega)] 
  simp only [List.length_append, List.length_replicate] at *
  rw [show k + xs.length - 1 - k = xs.length - 1 by omega]
  rw [List.getD_eq_getElem?_getD] at ht
  exact ht
set_option maxHeartbeats 2000000 in
set_option maxRecDepth 20000 in
theorem l3Shift_any (P : Int) (a : Option Addr) (n c : Nat) (xs : List Int) (w : World) (hP : isP P = true) (h : Sl w a n c xs) (hx : Nat40 xs) (lx : xs.length ≤ 20) :
    Calls Try.prog 44 #[.int .i64 P, .slice a n c] w (SlR w (digits (val xs * p2 P.toNat))) := by
  have hl := h.1
  have HS := Lib.hid h
  have hbc : a = none → n = 0 ∧ c = 0 := fun e => by have := h.2.2.2.1 e; have := h.2.1; omega
  have HBC := Lib.hid hbc
  clear h hbc
  by_cases hn : n = 0
  · have hxs : xs = [] := List.eq_nil_of_length_eq_zero (by omega)
    have hd : digits (val xs * p2 P.toNat) = [] := by rw [hxs]; simp [val, digits_zero]
    rw [hd]
    subst hn
    clear hd hxs hl HS HBC
    go_enter Try.func44, Try.ntmps44
    go_wp2
    go_ret
    exact ⟨_, rfl, Ow.empty _ w (Nat.le_refl _), (Kept.refl [] w).alloc _⟩
  · have hn0 : ((n : Int) == 0) = false := by rw [beq_eq_false_iff_ne]; omega
    rcases isP_cases hP with rfl | rfl | rfl
    · have hd : digits (val xs * p2 (48 : Int).toNat) = List.replicate 3 0 ++ xs := by
        rw [canon_zeros 3 hx (by omega), pw_p2 3, show (48 : Int).toNat = 16 * 3 from rfl]
      rw [hd]
      clear hd hP
      obtain ⟨zs, hzs⟩ : ∃ zs : List Int, zs = List.replicate 3 0 ++ xs := ⟨_, rfl⟩
      rw [← hzs]
      have HZS := Lib.hid hzs
      clear hzs
      have hmk : ∀ w : World, Sem.run Try.prog (Instr.makeSlice 22 (.int .i64 3) (.int .i64 3)) w = .ok (.slice (some ⟨w.heap.size, 0, none⟩) 3 3) (w.alloc (.cells (ints (List.replicate 3 0)) 2)) := make_run 3 (by omega)
      go_enter Try.func44, Try.ntmps44
      go_wp2_with (at_builtin; refine appS rfl _ _ rfl w.heap.size _ (List.replicate 3 0) rfl (ow_lit _ w (List.replicate 3 0) (Nat.le_refl _) (by simp)) a n c xs rfl (HS.out.rd.kept0 ((Kept.refl [] w).alloc _)) HBC.out (by simp; omega) (by simp) ?_; intro v9 w1 hown hgr)
      have hkk : Kept [] w w1 := Kept.grown ((Kept.refl [] w).alloc _) hgr (fun k hk hlt => by have e : some w.heap.size = some k := hk; cases e; omega)
      go_ret
      exact ⟨_, rfl, by rw [HZS.out]; exact hown, hkk⟩
    · have hd : digits (val xs * p2 (72 : Int).toNat) = digits (val (List.replicate 4 0 ++ xs) * val [256]) := by
        have hv : val (List.replicate 4 0 ++ xs) = val xs * pw 4 := by
          rw [val_append, ap_pw, val_zeros, List.length_replicate, Int.mul_comm]; omega
        rw [hv, show (72 : Int).toNat = 16 * 4 + 8 from rfl, p2_add, ← pw_p2 4, show val [256] = p2 8 from rfl, Int.mul_assoc]
      rw [hd]
      clear hd hP
      obtain ⟨zs, hzs⟩ : ∃ zs : List Int, zs = List.replicate 4 0 ++ xs := ⟨_, rfl⟩
      rw [← hzs]
      have hzl : zs.length = 4 + n := by rw [hzs]; simp; omega
      have hza : AllLimbs zs := by rw [hzs]; exact (AllLimbs.zeros 4).append hx.limb
      have HZS := Lib.hid hzs
      have HZA := Lib.hid hza
      have HZL := Lib.hid hzl
      clear hzs hza hzl
      obtain ⟨v, hv⟩ : ∃ v : List Int, v = digits (val zs * val [256]) := ⟨_, rfl⟩
      rw [← hv]
      have HV := Lib.hid hv
      clear hv
      have hmk : ∀ w : World, Sem.run Try.prog (Instr.makeSlice 22 (.int .i64 4) (.int .i64 4)) w = .ok (.slice (some ⟨w.heap.size, 0, none⟩) 4 4) (w.alloc (.cells (ints (List.replicate 4 0)) 2)) := make_run 4 (by omega)
      have h256 : AllLimbs [256] := fun i hi => by
        have : i = 0 := (by simpa using hi); subst this; simp
      go_enter Try.func44, Try.ntmps44
      go_wp2_with (at_builtin; refine appS rfl _ _ rfl w.heap.size _ (List.replicate 4 0) rfl (ow_lit _ w (List.replicate 4 0) (Nat.le_refl _) (by simp)) a n c xs rfl (HS.out.rd.kept0 ((Kept.refl [] w).alloc _)) HBC.out (by simp; omega) (by simp) ?_; intro v9 w1 hown hgr)
      have hkk : Kept [] w w1 := Kept.grown ((Kept.refl [] w).alloc _) hgr (fun k hk hlt => by have e : some w.heap.size = some k := hk; cases e; omega)
      rw [← HZS.out] at hown
      obtain ⟨a9, c9, rfl, hS9, hF9⟩ := hown.sl
      have HK := Lib.hid hkk
      have HS9 := Lib.hid hS9
      clear hkk hS9 hF9 hown hgr
      refine (l3Bits_72 _).mono ?_
      rintro e w2 ⟨rfl, hk2⟩
      replace HS9 := Lib.hid (HS9.out.kept0 hk2)
      replace HK := Lib.hid (HK.out.trans0 hk2)
      clear hk2
      go_wp2_with fail
      refine (l1Mul_any _ _ _ _ _ _ _ _ _ (HS9.out.rd.kept0 ((Kept.refl [] w2).alloc _)) (Sl.ofBlk (Blk.new w2 [256]) (by simp)).rd HZA.out h256 (by have := HZL.out; omega) (by simp)).mono ?_
      rintro e w3 ⟨v3, rfl, ho3, hk3⟩
      rw [← HV.out] at ho3
      have HK3 := Lib.hid (HK.out.trans0 (((Kept.refl [] w2).alloc _).trans0 hk3))
      have HO3 := Lib.hid (ho3.mono (B' := w.heap.size) (by have := HK.out.size; simp; omega))
      clear ho3 hk3
      go_wp2_with fail
      go_ret
      exact ⟨_, rfl, HO3.out, HK3.out⟩
    · have hd : digits (val xs * p2 (96 : Int).toNat) = List.replicate 6 0 ++ xs := by
        rw [canon_zeros 6 hx (by omega), pw_p2 6, show (96 : Int).toNat = 16 * 6 from rfl]
      rw [hd]
      clear hd hP
      obtain ⟨zs, hzs⟩ : ∃ zs : List Int, zs = List.replicate 6 0 ++ xs := ⟨_, rfl⟩
      rw [← hzs]
      have HZS := Lib.hid hzs
      clear hzs
      have hmk : ∀ w : World, Sem.run Try.prog (Instr.makeSlice 22 (.int .i64 6) (.int .i64 6)) w = .ok (.slice (some ⟨w.heap.size, 0, none⟩) 6 6) (w.alloc (.cells (ints (List.replicate 6 0)) 2)) := make_run 6 (by omega)
      go_enter Try.func44, Try.ntmps44
      go_wp2_with (at_builtin; refine appS rfl _ _ rfl w.heap.size _ (List.replicate 6 0) rfl (ow_lit _ w (List.replicate 6 0) (Nat.le_refl _) (by simp)) a n c xs rfl (HS.out.rd.kept0 ((Kept.refl [] w).alloc _)) HBC.out (by simp; omega) (by simp) ?_; intro v9 w1 hown hgr)
      have hkk : Kept [] w w1 := Kept.grown ((Kept.refl [] w).alloc _) hgr (fun k hk hlt => by have e : some w.heap.size = some k := hk; cases e; omega)
      go_ret
      exact ⟨_, rfl, by rw [HZS.out]; exact hown, hkk⟩

end Go.Proofs.Ytofpommikmdlfaa

namespace Go.Proofs.Ytofpommikmdlfaa
open Go.RowKit

theorem MulBigs_z (p q : Bool) (a b : Option Addr) (n c m d : Nat) (xs ys : List Int) (z : Int) (w : World) (h : Sl w a n c xs) (h' : Sl w b m d ys) (hx : BigOk p xs) (hy : BigOk q ys) (hl : (mag z).length ≤ 40) (hz : z = sv p xs * sv q ys) :
    Calls Try.prog 52 #[.agg #[.bool p, .slice a n c], .agg #[.bool q, .slice b m d]] w (BigZ w z) := by
  have := MulBigs_any p q a b n c m d xs ys w h h'
  rw [mulB_z hx hy hl hz] at this
  exact this
theorem FloorDiv_z (p q : Bool) (a b : Option Addr) (n c m d : Nat) (xs ys : List Int) (z : Int) (w : World) (h : Sl w a n c xs) (h' : Sl w b m d ys) (hx : BigOk p xs) (hy : BigOk q ys) (hy0 : ys.length ≠ 0) (lx : xs.length ≤ 39) (hz : z = divZ false p q (val xs) (val ys)) :
    Calls Try.prog 27 #[.agg #[.bool p, .slice a n c], .agg #[.bool q, .slice b m d]] w (BigZ w z) := by
  have := FloorDiv_any p q a b n c m d xs ys w h h'
  rw [divB_z hx hy hy0 lx hz] at this
  exact this
theorem CeilDiv_z (p q : Bool) (a b : Option Addr) (n c m d : Nat) (xs ys : List Int) (z : Int) (w : World) (h : Sl w a n c xs) (h' : Sl w b m d ys) (hx : BigOk p xs) (hy : BigOk q ys) (hy0 : ys.length ≠ 0) (lx : xs.length ≤ 39) (hz : z = divZ true p q (val xs) (val ys)) :
    Calls Try.prog 28 #[.agg #[.bool p, .slice a n c], .agg #[.bool q, .slice b m d]] w (BigZ w z) := by
  have := CeilDiv_any p q a b n c m d xs ys w h h'
  rw [divB_z hx hy hy0 lx hz] at this
  exact this
attribute [local go_sem ↓] field_big
/-- A call that answers the units of 1. -/
def OneR (w : World) (k : Nat) (e : Ending) (w' : World) : Prop :=
  ∃ g, e = .returned (.agg #[.bool false, .slice (some ⟨g, 0, none⟩) (digits (p2 k)).length (digits (p2 k)).length]) ∧ w.heap.size ≤ g ∧ Blk w' g (digits (p2 k)) ∧ Kept [] w w'
set_option maxHeartbeats 2000000 in
set_option maxRecDepth 20000 in
theorem oneInUnits_any (k : Nat) (w : World) (hk : k ≤ 96) :
    Calls Try.prog 53 #[.int .i64 (k : Int)] w (OneR w k) := by
  obtain ⟨ds, hds⟩ : ∃ ds : List Int, ds = digits (p2 k) := ⟨_, rfl⟩
  unfold OneR
  rw [← hds]
  have HD := Lib.hid hds
  have hlen : ds.length ≤ 7 := by rw [hds]; exact p2_len hk
  clear hds
  go_enter Try.func53, Try.ntmps53
  go_wp2_with fail
  generalize hW : (w.alloc (.cells #[.bool false, .slice none 0 0] 28)) = ww0
  have hkk : Kept [] (w.alloc (.cells #[.bool false, .slice none 0 0] 28)) ww0 := by rw [hW]; exact Kept.refl _ _
  have zzA : w.heap.size + 1 = ww0.heap.size := by rw [← hW]; simp
  obtain ⟨⟨nR0, nR1⟩, fR0, fR1⟩ := tp2 hkk (g := w.heap.size) (by simp) (by simp)
  have hk := hkk.peel
  clear hkk hW
  have z0 := hk.size
  have KT := Lib.hid hk
  clear hk
  refine (powerOfTwo_any k _ (by omega)).mono ?_
  rintro e ww1 ⟨g1, rfl, hg, hb, hk1⟩
  rw [← HD.out] at hb ⊢
  have hk := hk1
  clear hk1
  have HB := Lib.hid hb
  clear hb
  have z1 := hk.size
  replace fR0 := kf hk nR0 fR0
  replace fR1 := kf hk nR1 fR1
  replace nR0 := kc hk nR0
  replace nR1 := kc hk nR1
  replace KT := Lib.hid (KT.out.trans0 hk)
  clear hk
  have tR0 := nR0.out
  have tR1 := nR1.out
  have uR0 := fR0.out
  have uR1 := fR1.out
  go_wp2_with fail
  clear tR0 tR1 uR0 uR1
  generalize hW : ((ww1.setCell ⟨w.heap.size, 0, none⟩ (.bool false)).setCell ⟨w.heap.size, 1, none⟩ (.slice (some ⟨g1, 0, none⟩) ds.length ds.length)) = ww2
  have hk : Kept [w.heap.size] ww1 ww2 := by rw [← hW]; exact ((Kept.refl _ _).setCell _ _ (by simp)).setCell _ _ (by simp)
  have hfz : ∀ x, ww2.frozen? x = ww1.frozen? x := by rw [← hW]; intro x; simp only [World.frozen?_setCell]
  obtain ⟨e0, e1⟩ := st2 hW.symm nR0.out nR1.out
  have z2 := hk.size
  replace fR0 := kz hfz fR0
  replace fR1 := kz hfz fR1
  replace HB := Lib.hid (hk.blk HB.out (by simp <;> omega))
  replace nR0 := Lib.hid e0
  replace nR1 := Lib.hid e1
  replace KT := Lib.hid (KT.out.trans hk (fun x hx hlt => by simp at hx; omega))
  clear hk hfz hW e0 e1
  have e0 := nR0.out
  have e1 := nR1.out
  refine bodyPost_ret (v := .agg #[.bool false, .slice (some ⟨g1, 0, none⟩) ds.length ds.length]) (by simp [results, Try.results53, go_sem, e0, e1]) rfl ?_
  exact ⟨g1, rfl, by omega, HB.out, KT.out⟩

set_option maxHeartbeats 4000000 in
set_option maxRecDepth 20000 in
theorem inUnits_any (k : Nat) (p : Bool) (a : Option Addr) (n c : Nat) (xs : List Int) (u : Int) (w : World) (hk : k ≤ 96) (h : Sl w a n c xs) (hx : BigOk p xs) (hl : (mag u).length ≤ 40) (hu : u = sv p xs * p2 k) :
    Calls Try.prog 25 #[.int .i64 (k : Int), .agg #[.bool p, .slice a n c]] w (BigV w.heap.size w u) := by
  have HS := Lib.hid h
  have FS := Lib.hid h.lt
  have HX := Lib.hid hx
  have HP := Lib.hid (p2_ok hk).1
  have HZ := Lib.hid (show u = sv p xs * sv false (digits (p2 k)) by rw [(p2_ok hk).2]; exact hu)
  have HU := Lib.hid hl
  clear h hx hu hl
  go_enter Try.func25, Try.ntmps25
  go_upto_region 1 with fail
  generalize hW : ((w.alloc (.cells #[.bool p, .slice a n c] 28)).alloc (.cells #[.bool false, .slice none 0 0] 28)) = ww0
  have hkk : Kept [] ((w.alloc (.cells #[.bool p, .slice a n c] 28)).alloc (.cells #[.bool false, .slice none 0 0] 28)) ww0 := by rw [hW]; exact Kept.refl _ _
  have zzA : w.heap.size + 1 + 1 = ww0.heap.size := by rw [← hW]; simp
  obtain ⟨⟨nA0, nA1⟩, _⟩ := tp2 hkk.peel (g := w.heap.size) (by simp) (by simp)
  obtain ⟨⟨nR0, nR1⟩, fR0, fR1⟩ := tp2 hkk (g := w.heap.size + 1) (by simp) (by simp)
  have hk := hkk.peel.peel
  clear hkk hW
  have z0 := hk.size
  have KT := Lib.hid hk
  clear hk
  replace HS := Lib.hid (HS.out.kept0 KT.out)
  have tA0 := nA0.out
  have tA1 := nA1.out
  go_region_held3 (fun w' => w'.cell? ⟨w.heap.size, 0, none⟩ = some (.bool p) ∧ w'.cell? ⟨w.heap.size, 1, none⟩ = some (.slice a n c) ∧ Hid (Kept [w.heap.size + 1] ww0 w'))
    ((go_split_ands; (try refine ⟨?_, ?_, ?_⟩) <;> with_reducible first | exact Kept.set2 (by assumption) | exact cell_set2 (by assumption) (by simp <;> omega) | exact Lib.hid ((Kept.refl _ _).drew) | exact drew_cell (by assumption) | exact Kept.allocH (by assumption) | exact alloc_cell (by assumption) | exact Lib.hid (Kept.trans0 (Hid.out (by assumption)) (by assumption)) | exact Kept.cell (by assumption) (by assumption) (by simp)))
    (first
      | (go_at_call 53; go_split_ands; refine (oneInUnits_any k _ hk).mono ?_; rintro e v1 ⟨g1, rfl, hg1, hb1, hk1⟩)
      | (go_at_call 52; go_split_ands; refine (MulBigs_z _ _ _ _ _ _ _ _ _ _ _ _ (HS.out.kept0 (((Kept.refl [] _).drew).trans0 hk1)) (sl_new hb1 rfl (by have := p2_len hk; omega)) HX.out HP.out HU.out HZ.out).mono ?_; rintro e v2 ⟨a2, c2, rfl, hs2, hf2, hk2⟩; have z12 := hk1.size; simp only [World.size_drew] at z12; have hkr := (((Kept.refl [] ww0).drew).trans0 hk1).trans0 hk2; have rg0 := hkr.cell (p := ⟨w.heap.size + 1, 0, none⟩) nR0.out (by simp); have rg1 := hkr.cell (p := ⟨w.heap.size + 1, 1, none⟩) nR1.out (by simp); have ru0 := hkr.free' (p := ⟨w.heap.size + 1, 0, none⟩) nR0.out fR0.out (by simp); have ru1 := hkr.free' (p := ⟨w.heap.size + 1, 1, none⟩) nR1.out fR1.out (by simp)))
  clear tA0 tA1
  have hk := hkr
  clear hkr
  clear hb1 hk1 hk2
  have z1 := hk.size
  replace fR0 := kf hk nR0 fR0
  replace fR1 := kf hk nR1 fR1
  replace nA0 := kc hk nA0
  replace nA1 := kc hk nA1
  replace nR0 := kc hk nR0
  replace nR1 := kc hk nR1
  replace HS := Lib.hid (HS.out.kept0 hk)
  replace KT := Lib.hid (KT.out.trans0 hk)
  clear hk
  have hs2 := Lib.hid hs2
  have G2 := Lib.hid (hf2.mono (B' := w.heap.size + 1 + 1) (by omega))
  clear hf2
  generalize hW : ((v2.setCell ⟨w.heap.size + 1, 0, none⟩ (.bool (isNeg u))).setCell ⟨w.heap.size + 1, 1, none⟩ (.slice a2 (mag u).length c2)) = ww2
  have hk : Kept [w.heap.size + 1] v2 ww2 := by rw [← hW]; exact ((Kept.refl _ _).setCell _ _ (by simp)).setCell _ _ (by simp)
  have hfz : ∀ x, ww2.frozen? x = v2.frozen? x := by rw [← hW]; intro x; simp only [World.frozen?_setCell]
  obtain ⟨e0, e1⟩ := st2 hW.symm nR0.out nR1.out
  have z2 := hk.size
  replace fR0 := kz hfz fR0
  replace fR1 := kz hfz fR1
  replace nA0 := kd hk nA0 (by simp <;> omega)
  replace nA1 := kd hk nA1 (by simp <;> omega)
  replace HS := Lib.hid (HS.out.kept hk (fun hn y hy hm => by have h9 := FS.out hn y hy; simp at hm; omega))
  replace hs2 := Lib.hid (hs2.out.kept hk (fun hn y hy hm => by have h9 := G2.out hn y hy; simp at hm; omega))
  replace nR0 := Lib.hid e0
  replace nR1 := Lib.hid e1
  replace KT := Lib.hid (KT.out.trans hk (fun x hx hlt => by simp at hx; omega))
  clear hk hfz hW e0 e1
  go_wp2_with fail
  have e0 := nR0.out
  have e1 := nR1.out
  refine bodyPost_ret (v := .agg #[.bool (isNeg u), .slice a2 (mag u).length c2]) (by simp [results, Try.results25, go_sem, e0, e1]) rfl ?_
  exact ⟨a2, c2, rfl, hs2.out, G2.out.mono (by omega), KT.out⟩

end Go.Proofs.Ytofpommikmdlfaa
