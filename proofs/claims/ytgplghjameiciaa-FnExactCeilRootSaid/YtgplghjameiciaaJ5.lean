/-
  Several of my texts in one, each as it was: ShelfLen, Root, SpanP, SpanQ. No condition but theirs.
-/
import Derived.Test.YtgplghjameiciaaProg
import Derived.Shelf.Strconv.Itoa0
import Derived.Test.YtgplghjameiciaaBigF
import Derived.Lib.BitFns
import Derived.Deep.LoopGhost
import Derived.Deep.RegionHeld3
import Derived.Deep.DrawnRows
import Derived.Deep.DeepCutAuto
import Derived.Test.YtgplghjameiciaaSpanI
import Derived.Test.YtgplghjameiciaaJ2
import Derived.Test.YtgplghjameiciaaSMul
import Derived.Test.YtgplghjameiciaaJ1
namespace Go.Proofs
open Go.Shelf

def Try.lenWords_ren : Go.Shelf.Ren := ⟨fun | 129 => 112 | n => n, fun | 53 => 83 | 3 => 3 | 4 => 4 | 46 => 70 | 5 => 5 | 9 => 9 | n => n, fun | n => n⟩
theorem Try.lenWords : Go.Proofs.Lays.n129 Try.prog Try.lenWords_ren := {
  mixed := by kernel_rfl
  f129 := Try.func112.trans (congrArg some (by kernel_rfl))
  t3 := Try.underlying3
  a3 := Try.isAgg3
  z3 := Try.sizeOf3
  v3 := Try.zeroValue3
  t4 := Try.underlying4
  a4 := Try.isAgg4
  z4 := Try.sizeOf4
  v4 := Try.zeroValue4
  t5 := Try.underlying5
  a5 := Try.isAgg5
  z5 := Try.sizeOf5
  v5 := Try.zeroValue5
  t9 := Try.underlying9
  a9 := Try.isAgg9
  z9 := Try.sizeOf9
  v9 := Try.zeroValue9
  t46 := Try.underlying70
  a46 := Try.isAgg70
  z46 := Try.sizeOf70
  v46 := Try.zeroValue70
  t53 := Try.underlying83
  a53 := Try.isAgg83
  z53 := Try.sizeOf83
  v53 := Try.zeroValue83 }
end Go.Proofs
namespace Go.Proofs.Ytgplghjameiciaa

theorem Len64_any (x : Int) (w : World) (h0 : 0 ≤ x) (h1 : x ≤ 18446744073709551615) :
    Calls Try.prog 112 #[.int .u64 x] w fun e w' => e = .returned (.int .i64 (Lib.bitLen x.toNat)) ∧ w' = w := Any.bits_Len64 Try.lenWords x w h0 h1

end Go.Proofs.Ytgplghjameiciaa

namespace Go.Proofs.Ytgplghjameiciaa
open Go.RowKit

theorem bitLen_zero : Lib.bitLen 0 = 0 := by decide +kernel
theorem bitLen_lt : ∀ (f x : Nat), x ≤ f → x < 2 ^ 64 → (x : Int) < p2 (Lib.bitLen x)
  | 0, x, h, _ => by obtain rfl : x = 0 := by omega
                     rw [bitLen_zero]; simp [p2]
  | f + 1, x, h, hx => by
    by_cases e : x = 0
    · subst e; rw [bitLen_zero]; simp [p2]
    · rw [Lib.bitLen_half x e hx]
      have := bitLen_lt f (x / 2) (by omega) (by omega)
      rw [show 1 + Lib.bitLen (x / 2) = Lib.bitLen (x / 2) + 1 by omega]
      simp only [p2]; omega
theorem bitLen_le : ∀ (k x : Nat), (x : Int) < p2 k → x < 2 ^ 64 → Lib.bitLen x ≤ k
  | 0, x, h, _ => by simp only [p2] at h; obtain rfl : x = 0 := by omega
                     rw [bitLen_zero]; exact Nat.le_refl _
  | k + 1, x, h, hx => by
    by_cases e : x = 0
    · subst e; rw [bitLen_zero]; exact Nat.zero_le _
    · rw [Lib.bitLen_half x e hx]
      simp only [p2] at h
      have := bitLen_le k (x / 2) (by omega) (by omega)
      omega

theorem val_last {xs : List Int} {n : Nat} (h : AllLimbs xs) (hn : xs.length = n + 1) : val xs < pw n * (xs.getD n 0 + 1) := by
  have h1 := val_split xs n (by omega)
  have h2 := (h.take n).val
  have h3 : (xs.take n).length = n := by simp; omega
  rw [h3] at h2
  have h4 : val (xs.drop n) = xs.getD n 0 := by
    rw [val_drop, List.drop_eq_nil_of_le (by omega)]; simp [val]
  rw [h4] at h1
  rw [h1, Int.mul_add]; omega

/-- How many binary digits a number has, at most; none of them is 0 ahead. -/
def BitR (w : World) (X : Int) (e : Ending) (w' : World) : Prop := ∃ L : Nat, e = .returned (.int .i64 L) ∧ w = w' ∧ X < p2 L ∧ L ≤ 640

set_option maxHeartbeats 400000 in
theorem bitLength_any (a : Option Addr) (n c : Nat) (xs : List Int) (w : World) (h : Rd w a n xs) (hx : Nat40 xs) (hn : 0 < n) :
    Calls Try.prog 109 #[.slice a n c] w (BitR w (val xs)) := by
  obtain ⟨m, rfl⟩ : ∃ m, n = m + 1 := ⟨n - 1, by omega⟩
  have hl := h.1
  have hlen := hx.len
  obtain ⟨g, off, rfl, hc⟩ := h.2.2 m (by omega)
  have hv := val_last hx.limb hl
  have ht := limb_getD hx.limb m
  generalize hz : xs.getD m 0 = z at *
  have hb1 := bitLen_lt z.toNat z.toNat (Nat.le_refl _) (by omega)
  have hb2 := bitLen_le 16 z.toNat (by simp only [p2]; omega) (by omega)
  have hbound : val xs < p2 (16 * m + Lib.bitLen z.toNat) := by
    rw [p2_add, ← pw_p2]
    have h1 := pw_pos m
    have h2 : pw m * (z + 1) ≤ pw m * p2 (Lib.bitLen z.toNat) := Int.mul_le_mul_of_nonneg_left (by omega) (by omega)
    omega
  have HB := Lib.hid hbound
  obtain ⟨L, hL⟩ : ∃ L, L = Lib.bitLen z.toNat := ⟨_, rfl⟩
  have hL16 : L ≤ 16 := by omega
  have HL := Lib.hid hL
  have hm40 : m ≤ 39 := by omega
  obtain ⟨hz0, hz1⟩ := ht
  have hm0 : (0 : Int) ≤ (m : Int) := by omega
  clear hb1 hb2 hbound hv hz h hx hL hl hlen hn
  go_enter Try.func109, Try.ntmps109
  go_wp2_with fail
  refine (Len64_any _ _ (by omega) (by omega)).mono ?_
  rintro e w1 ⟨rfl, hw⟩
  obtain rfl : w = w1 := hw.symm
  rw [← HL.out]
  have hb3 : (m : Int) * 16 + (L : Int) ≤ 640 := by omega
  go_wp2_with fail
  go_ret
  exact ⟨16 * m + L, by rw [show ((16 * m + L : Nat) : Int) = (m : Int) * 16 + L by omega]; rfl, rfl, by rw [HL.out]; exact HB.out, by omega⟩

theorem val_pow (k : Nat) (y : Int) : val (List.replicate k 0 ++ [y]) = pw k * y := by
  rw [val_append]
  have h : ∀ k x, ap (List.replicate k 0) x = pw k * x := by
    intro k
    induction k with
    | zero => intro x; simp [ap, pw]
    | succ k ih => intro x; simp only [List.replicate_succ, ap, pw]; rw [ih, Int.mul_assoc]; omega
  rw [h]; simp [val]
theorem canon_pow (k : Nat) {y : Int} (hy : 1 ≤ y ∧ y ≤ 65535) : Canon (List.replicate k 0 ++ [y]) := by
  induction k with
  | zero => exact ⟨by omega, by omega, trivial, fun _ => by omega⟩
  | succ k ih => exact ⟨by omega, by omega, ih, fun h => by simp at h⟩
theorem set_pow (k : Nat) (y : Int) : (List.replicate (k + 1) (0 : Int)).set k y = List.replicate k 0 ++ [y] := by
  rw [List.replicate_succ', List.set_append_right _ _ (by simp)]; simp
theorem p2_shl : ∀ r : Nat, r ≤ 15 → (1 : Int) * 2 ^ r = p2 r
  | 0, _ => by decide
  | r + 1, h => by simp only [p2]; have := p2_shl r (by omega); rw [Int.pow_succ]; omega

set_option maxHeartbeats 1000000 in
set_option maxRecDepth 100000 in
theorem powerOfTwo_any (k : Nat) (w : World) (hk : k ≤ 640) :
    Calls Try.prog 108 #[.int .i64 k] w (NewS w (digits (p2 k))) := by
  obtain ⟨i0, hi, hz0, hz1, hz2⟩ := info_parts Try.info64
  obtain ⟨q, hq⟩ : ∃ q, q = k / 16 := ⟨_, rfl⟩
  obtain ⟨r, hr⟩ : ∃ r, r = k % 16 := ⟨_, rfl⟩
  have hmk := fun (w : World) => run_make_row (P := Try.prog) 22 2 i0 (.int .i64 0) Try.underlying22 hi hz0 hz1 rfl .i64 .i64 (q + 1) (by rw [hz2]; omega) (by omega) w
  have hcast : ((q + 1 : Nat) : Int) = (q : Int) + 1 := by omega
  simp only [hcast] at hmk
  clear hcast
  have hb0 := Blk.new w (List.replicate (q + 1) 0)
  rw [← made_zeros] at hb0
  have hy : 1 ≤ p2 r ∧ p2 r ≤ 65535 := ⟨p2_pos r, by have := p2_mono r 15 (by omega); have e : p2 15 = 32768 := rfl; omega⟩
  have hv : digits (p2 k) = List.replicate q 0 ++ [p2 r] := by
    rw [← digits_val (canon_pow q hy), val_pow, pw_p2, ← p2_add, hq, hr, Nat.div_add_mod]
  rw [hv]
  have hset := hb0.set q (p2 r)
  rw [set_pow] at hset
  have HSET := Lib.hid hset
  have HB := Lib.hid hb0
  have hc := hb0.cell (j := q) (by simp)
  have hf := hb0.frozen q
  have e1 : (k : Int) / 16 = (q : Int) := by omega
  have e2 : (k : Int) % 16 = (r : Int) := by omega
  have hq39 : q ≤ 40 := by omega
  have hr15 : r ≤ 15 := by omega
  have hsh := p2_shl r hr15
  clear hset hb0 hi hz0 hz1 hz2 hv hq hr
  go_enter Try.func108, Try.ntmps108
  go_wp2_with fail
  have h9 := HSET.out
  rw [World.setCell_alloc_at _ _ _ _ _ rfl] at h9
  go_ret
  exact ⟨w.heap.size, by simp, Nat.le_refl _, h9, (Kept.refl [] w).alloc _⟩

theorem DivNats_dig (a b : Option Addr) (n c m d : Nat) (x y : Int) (w : World) (h : Rd w a n (digits x)) (h' : Rd w b m (digits y)) (hx : 0 ≤ x) (hy : 0 < y) (hxl : (digits x).length ≤ 40) (hyl : (digits y).length ≤ 40) :
    Calls Try.prog 29 #[.slice a n c, .slice b m d] w (DivR w 0 (digits (x / y)) (digits (x % y))) := by
  have h1 := nat40_of_canon (canon_digits' x) hxl
  have h2 := nat40_of_canon (canon_digits' y) hyl
  have := DivNats_ok a b n c m d (digits x) (digits y) w h h' (by rw [fault2_second (nat40_fault h1)]; exact nat40_fault h2) (by have := digits_len_pos hy; omega)
  rwa [val_digits' hx, val_digits' (Int.le_of_lt hy)] at this
theorem AddNats_dig (a b : Option Addr) (n c m d : Nat) (x y : Int) (w : World) (h : Rd w a n (digits x)) (h' : Rd w b m (digits y)) (hx : 0 ≤ x) (hy : 0 ≤ y) (hxl : (digits x).length ≤ 40) (hyl : (digits y).length ≤ 40) (hs : x + y < pw 40) :
    Calls Try.prog 18 #[.slice a n c, .slice b m d] w (NatR w 0 (digits (x + y))) := by
  have h1 := nat40_of_canon (canon_digits' x) hxl
  have h2 := nat40_of_canon (canon_digits' y) hyl
  have := AddNats_fit a b n c m d (digits x) (digits y) w h h' (by rw [fault2_second (nat40_fault h1)]; exact nat40_fault h2)
  rw [val_digits' hx, val_digits' hy] at this
  obtain ⟨e1, e2⟩ := fit_small (v := x + y) (n := 40) hs (Nat.le_refl _)
  rwa [e1, e2] at this
theorem CompareNats_dig (a b : Option Addr) (n c m d : Nat) (x y : Int) (w : World) (h : Rd w a n (digits x)) (h' : Rd w b m (digits y)) (hx : 0 ≤ x) (hy : 0 ≤ y) (hxl : (digits x).length ≤ 40) (hyl : (digits y).length ≤ 40) :
    Calls Try.prog 34 #[.slice a n c, .slice b m d] w (Ans w (.int .i64 (cmpV x y))) := by
  have h1 := nat40_of_canon (canon_digits' x) hxl
  have h2 := nat40_of_canon (canon_digits' y) hyl
  have := CompareNats_any a b n c m d (digits x) (digits y) w h h'
  rwa [if_pos (by rw [fault2_second (nat40_fault h1)]; exact nat40_fault h2), val_digits' hx, val_digits' hy] at this
/-- From above the root a quotient is little greater than what it was divided by. -/
theorem newton_le {v r x : Int} (h : IsRoot v r) (hx : 0 < x) (hr : r ≤ x) : v / x ≤ x + 2 := by
  have h1 := sq_mono (a := r + 1) (b := x + 1) (by have := h.pos; omega) (by omega)
  have h2 := h.high
  have h3 : (x + 1) * (x + 1) = x * x + 2 * x + 1 := by rw [Int.add_mul, Int.mul_add]; omega
  have h4 : v < (x + 3) * x := by rw [Int.add_mul]; omega
  have := Int.ediv_lt_of_lt_mul hx h4
  omega
theorem two_dig : digits 2 = [2] := by rw [digits_pos (by omega), digits_zero (by omega)]; rfl
theorem rd_two (w : World) {g : Nat} (hg : w.heap.size = g) : Rd (w.alloc (.cells #[.int .i64 2] 2)) (some ⟨g, 0, none⟩) 1 [2] := by
  subst hg
  exact (Sl.ofBlk (Blk.new w [2]) (by simp)).rd

theorem field_quot (v0 v1 v2 : Value) (w : World) : Sem.run Try.prog (Instr.field 32 (.agg #[v0, v1, v2]) 1) w = .ok v1 w := by kernel_rfl

/-- The program's root: the limbs lie in memory of the call's own. -/
def RootR (w : World) (v : Int) (e : Ending) (w' : World) : Prop := ∃ a c, e = .returned (.slice a (digits (isq v)).length c) ∧ Sl w' a (digits (isq v)).length c (digits (isq v)) ∧ Fr w.heap.size a (digits (isq v)).length ∧ Kept [] w w'

set_option maxHeartbeats 2000000 in
set_option maxRecDepth 100000 in
theorem rootOfNat_any (a : Option Addr) (n c : Nat) (xs : List Int) (w : World) (h : Rd w a n xs) (hx : Nat40 xs) :
    Calls Try.prog 93 #[.slice a n c] w (RootR w (val xs)) := by
  have hl := h.1
  have hmax := h.2.1
  have HR := Lib.hid h
  by_cases hn : n = 0
  · subst hn
    have hx0 : xs = [] := List.eq_nil_of_length_eq_zero hl
    subst hx0
    have e : isq (val []) = 0 := rfl
    unfold RootR
    rw [e, digits_zero (by omega)]
    clear h hx hl HR
    go_enter Try.func93, Try.ntmps93
    go_wp2
    go_ret
    exact ⟨none, 0, rfl, Sl.nil _, fun h => by simp at h, Kept.refl _ _⟩
  · have hxd : xs = digits (val xs) := (digits_val hx.canon).symm
    have hv0 : 0 < val xs := (canon_nonneg hx.canon).2 (fun e => hn (by rw [← hl, e]; rfl))
    have hroot := isq_root (v := val xs) (by omega)
    have hlen := hx.len
    have hvp : val xs < pw 40 := Int.lt_of_lt_of_le (show AllLimbs xs from hx.limb).val.2 (pw_mono _ _ hlen)
    have HX := Lib.hid hx
    have hn' : ((n : Int) == 0) = false := by rw [beq_eq_false_iff_ne]; omega
    obtain ⟨v, hv⟩ : ∃ v, v = val xs := ⟨_, rfl⟩
    rw [← hv] at hv0 hroot hvp ⊢
    have HV := Lib.hid hv
    have HRT := Lib.hid hroot
    have hrp := root_pos hroot hv0
    have HRD : Hid (Rd w a n (digits v)) := by show Rd w a n (digits v); rw [hv, ← hxd]; exact h
    have hdl : (digits v).length ≤ 40 := by rw [hv, ← hxd]; exact hlen
    obtain ⟨r, hr⟩ : ∃ r, r = isq v := ⟨_, rfl⟩
    have HRQ := Lib.hid hr
    rw [← hr] at hrp
    have HVP := Lib.hid hvp
    clear h hx hl hxd hroot hlen hv hr hvp
    go_enter Try.func93, Try.ntmps93
    go_wp2_with fail
    refine (bitLength_any _ _ _ _ _ HR.out HX.out (by omega)).mono ?_
    rintro e w1 ⟨L, rfl, hw, hL, hL6⟩
    obtain rfl : w = w1 := hw
    rw [← HV.out] at hL
    have hst : r < p2 ((L + 1) / 2) := by
      rw [HRQ.out]
      refine root_lt HRT.out (by have := p2_pos ((L + 1) / 2); omega) ?_
      rw [← p2_add]
      have := p2_mono L ((L + 1) / 2 + (L + 1) / 2) (by omega)
      omega
    obtain ⟨k, hk⟩ : ∃ k, k = (L + 1) / 2 := ⟨_, rfl⟩
    rw [← hk] at hst
    have hke : ((L : Int) + 1) / 2 = (k : Int) := by omega
    have hk320 : k ≤ 320 := by omega
    have HST := Lib.hid hst
    clear hst hL hk
    go_wp2_with fail
    refine (powerOfTwo_any _ _ (by omega)).mono ?_
    rintro e w1 ⟨g1, rfl, hg1, hb1, hk1⟩
    have HB1 := Lib.hid hb1
    have HK1 := Lib.hid hk1
    have hp0 : p2 k ≤ pw 20 := by rw [pw_p2]; exact p2_mono _ _ (by omega)
    have HP0 := Lib.hid hp0
    clear hb1 hk1 hp0
    go_wp2_with fail
    have hm20 : pw 20 ≤ pw 21 := pw_mono _ _ (by omega)
    go_loopg [3] (p2 k).toNat (fun gk s wr => ∃ (x : Int) (a3 : Option Addr) (c3 : Nat), s = .slice a3 (digits x).length c3 ∧ r ≤ x ∧ Hid (x ≤ p2 k) ∧ x.toNat ≤ gk ∧ Hid (Sl wr a3 (digits x).length c3 (digits x)) ∧ Hid (Fr w.heap.size a3 (digits x).length) ∧ Hid (Kept [] w wr))
    case atStart =>
      refine ⟨p2 k, some ⟨g1, 0, none⟩, _, rfl, ?_, Int.le_refl _, Nat.le_refl _, ?_, fun _ x hx => ?_, HK1.out⟩
      · have := HST.out; omega
      · exact Sl.ofBlk HB1.out (by have := digits_len 21 (p2 k) (by have := HP0.out; have e : pw 21 = 65536 * pw 20 := rfl; have := pw_pos 20; omega); omega)
      · cases hx; exact hg1
    case round =>
      obtain ⟨x, a3, c3, rfl, hrx, hxk, hgk, hS, hF, hK⟩ := hrel
      have hx0 : 0 < x := by omega
      have hxp : x ≤ pw 20 := Int.le_trans hxk.out HP0.out
      have e21 : pw 21 = 65536 * pw 20 := rfl
      have hp20 := pw_pos 20
      have hp40 : pw 21 ≤ pw 40 := pw_mono _ _ (by omega)
      have hxl : (digits x).length ≤ 40 := by have := digits_len 21 x (by omega); omega
      have hq0 : 0 ≤ v / x := Int.ediv_nonneg (by omega) (by omega)
      have hql := newton_le HRT.out hx0 (by rw [← HRQ.out]; exact hrx)
      have hqd : (digits (v / x)).length ≤ 40 := by have := digits_len 21 (v / x) (by omega); omega
      obtain ⟨q, hq⟩ : ∃ q, q = v / x := ⟨_, rfl⟩
      rw [← hq] at hq0 hql hqd
      obtain ⟨y, hy⟩ : ∃ y, y = (x + q) / 2 := ⟨_, rfl⟩
      have hry : r ≤ y := by rw [hy, hq, HRQ.out]; exact newton_ge HRT.out hx0
      have hsp : x + q < pw 40 := by omega
      have hsl : (digits (x + q)).length ≤ 40 := digits_len 40 _ hsp
      have hyl : (digits y).length ≤ 40 := by have := digits_len_mono (u := y) (v := x + q) (by omega); omega
      have hstop : x ≤ y → x = r := fun hle => by rw [HRQ.out]; exact newton_stop HRT.out hx0 (by rw [← HRQ.out]; exact hrx) (by rw [← hq, ← hy]; exact hle)
      have HSTOP := Lib.hid hstop
      have HQ := Lib.hid hq
      have HY := Lib.hid hy
      have HSP := Lib.hid hsp
      have hxpos : 0 ≤ x := by omega
      have hs0 : 0 ≤ x + q := by omega
      have hy0 : 0 ≤ y := by omega
      have hfq := field_quot
      clear hstop hq hy hsp e21 hp20 hp40 hxp hm20 hql
      go_wp2_with fail
      refine (DivNats_dig _ _ _ _ _ _ _ _ _ (HRD.out.kept0 hK.out) hS.out.rd (Int.le_of_lt hv0) hx0 hdl hxl).mono ?_
      rintro e w2 ⟨a4, c4, a5, c5, rfl, hs4, _, _, _, _, hk⟩
      rw [← HQ.out]
      rw [← HQ.out] at hs4
      have HS4 := Lib.hid hs4
      have HK2 := Lib.hid (hK.out.trans0 hk)
      have HS2 := Lib.hid (hS.out.kept0 hk)
      clear hs4 hk
      go_wp2_with fail
      refine (AddNats_dig _ _ _ _ _ _ _ _ _ HS2.out.rd HS4.out.rd hxpos hq0 hxl hqd HSP.out).mono ?_
      rintro e w3 ⟨a6, c6, rfl, hs6, _, hk⟩
      have HS6 := Lib.hid hs6
      have HK3 := Lib.hid (HK2.out.trans0 hk)
      have HS3 := Lib.hid (HS2.out.kept0 hk)
      clear hs6 hk
      go_wp2_with fail
      have k4 : Kept [] w3 ((w3.alloc (.cells #[.int .i64 0, .slice a6 (digits (x + q)).length c6] 24)).alloc (.cells #[.int .i64 2] 2)) := ((Kept.refl [] w3).alloc _).alloc _
      have HK4 := Lib.hid (HK3.out.trans0 k4)
      refine (DivNats_dig _ _ _ _ _ _ (x + q) 2 _ (HS6.out.kept0 k4).rd (by rw [two_dig]; exact rd_two _ (by simp)) hs0 (by omega) hsl (by rw [two_dig]; simp)).mono ?_
      rintro e w5 ⟨a7, c7, a8, c8, rfl, hs7, _, hf7, _, _, hk⟩
      rw [← HY.out]
      rw [← HY.out] at hs7 hf7
      have HS7 := Lib.hid hs7
      have HF7 := Lib.hid (hf7.mono HK4.out.size)
      have HK5 := Lib.hid (HK4.out.trans0 hk)
      have HS5 := Lib.hid ((HS3.out.kept0 k4).kept0 hk)
      clear hs7 hf7 hk k4
      go_wp2_with fail
      refine (CompareNats_dig _ _ _ _ _ _ _ _ _ HS7.out.rd HS5.out.rd hy0 hxpos hyl hxl).mono ?_
      rintro e w6 ⟨rfl, hk⟩
      have HS8 := Lib.hid (HS7.out.kept0 hk)
      have HS9 := Lib.hid (HS5.out.kept0 hk)
      have HK6 := Lib.hid (HK5.out.trans0 hk)
      clear hk
      by_cases hlt : y < x
      · rw [cmpV_lt hlt]
        go_wp2_with fail
        go_roundg (y.toNat)
        case measure => omega
        case rel => exact ⟨y, a7, c7, rfl, hry, Lib.hid (Int.le_trans (Int.le_of_lt hlt) hxk.out), Nat.le_refl _, HS8, HF7, HK6⟩
      · obtain ⟨cv, hcv⟩ : ∃ cv, cv = cmpV y x := ⟨_, rfl⟩
        have hcn : 0 ≤ cv := by rw [hcv]; unfold cmpV; rw [if_neg hlt]; split <;> omega
        rw [← hcv]
        have hxr : x = r := HSTOP.out (by omega)
        have HXR := Lib.hid hxr
        clear hcv hxr
        go_wp2_with fail
        go_ret
        refine ⟨a3, c3, ?_, ?_, ?_, HK6.out⟩
        · rw [← HRQ.out, ← HXR.out]; rfl
        · rw [← HRQ.out, ← HXR.out]; exact HS9.out
        · rw [← HRQ.out, ← HXR.out]; exact hF.out

end Go.Proofs.Ytgplghjameiciaa

namespace Go.Proofs.Ytgplghjameiciaa
open Go.RowKit

theorem make_run (k : Nat) (hk : k ≤ 1000) (w : World) : Sem.run Try.prog (Instr.makeSlice 22 (.int .i64 (k : Int)) (.int .i64 (k : Int))) w = .ok (.slice (some ⟨w.heap.size, 0, none⟩) k k) (w.alloc (.cells (ints (List.replicate k 0)) 2)) := by
  obtain ⟨i0, hi, hz0, hz1, hz2⟩ := info_parts Try.info64
  have h := run_make_row (P := Try.prog) 22 2 i0 (.int .i64 0) Try.underlying22 hi hz0 hz1 rfl .i64 .i64 k (by rw [hz2]; omega) (by omega) w
  rw [made_zeros] at h
  exact h
theorem ow_lit (B : Nat) (w : World) (l : List Int) (hB : B ≤ w.heap.size) (hl : l.length ≤ 1000) : Ow B (w.alloc (.cells (ints l) 2)) (.slice (some ⟨w.heap.size, 0, none⟩) l.length l.length) l := by
  have h := World.ownsRow_lit (base := B) (e := 2) (size := 1) w (ints l) l.length hB (by unfold maxLen; omega) (by simp [ints])
  exact h
theorem canon_zeros {xs : List Int} (k : Nat) (hx : Nat40 xs) (hn : xs.length ≠ 0) : List.replicate k 0 ++ xs = digits (val xs * pw k) := by
  have h1 : AllLimbs (List.replicate k 0 ++ xs) := (AllLimbs.zeros k).append hx.limb
  have hv : val (List.replicate k 0 ++ xs) = val xs * pw k := by
    rw [val_append, ap_pw, val_zeros, List.length_replicate, Int.mul_comm]; omega
  rw [← hv]
  refine digits_of_limbs h1 (fun _ => ?_)
  have ht := hx.top (by omega)
  rw [List.getD_eq_getElem?_getD, List.getElem?_append_right (by simp; omega)] 
  simp only [List.length_append, List.length_replicate] at *
  rw [show k + xs.length - 1 - k = xs.length - 1 by omega]
  rw [List.getD_eq_getElem?_getD] at ht
  exact ht
end Go.Proofs.Ytgplghjameiciaa

namespace Go.Proofs.Ytgplghjameiciaa
open Go.RowKit

theorem MulBigs_z (p q : Bool) (a b : Option Addr) (n c m d : Nat) (xs ys : List Int) (z : Int) (w : World) (h : Sl w a n c xs) (h' : Sl w b m d ys) (hx : BigOk p xs) (hy : BigOk q ys) (hl : (mag z).length ≤ 40) (hz : z = sv p xs * sv q ys) :
    Calls Try.prog 47 #[.agg #[.bool p, .slice a n c], .agg #[.bool q, .slice b m d]] w (BigZ w z) := by
  have := MulBigs_any p q a b n c m d xs ys w h h'
  rw [mulB_z hx hy hl hz] at this
  exact this
theorem FloorDiv_z (p q : Bool) (a b : Option Addr) (n c m d : Nat) (xs ys : List Int) (z : Int) (w : World) (h : Sl w a n c xs) (h' : Sl w b m d ys) (hx : BigOk p xs) (hy : BigOk q ys) (hy0 : ys.length ≠ 0) (lx : xs.length ≤ 39) (hz : z = divZ false p q (val xs) (val ys)) :
    Calls Try.prog 51 #[.agg #[.bool p, .slice a n c], .agg #[.bool q, .slice b m d]] w (BigZ w z) := by
  have := FloorDiv_any p q a b n c m d xs ys w h h'
  rw [divB_z hx hy hy0 lx hz] at this
  exact this
theorem CeilDiv_z (p q : Bool) (a b : Option Addr) (n c m d : Nat) (xs ys : List Int) (z : Int) (w : World) (h : Sl w a n c xs) (h' : Sl w b m d ys) (hx : BigOk p xs) (hy : BigOk q ys) (hy0 : ys.length ≠ 0) (lx : xs.length ≤ 39) (hz : z = divZ true p q (val xs) (val ys)) :
    Calls Try.prog 53 #[.agg #[.bool p, .slice a n c], .agg #[.bool q, .slice b m d]] w (BigZ w z) := by
  have := CeilDiv_any p q a b n c m d xs ys w h h'
  rw [divB_z hx hy hy0 lx hz] at this
  exact this
attribute [local go_sem ↓] field_big
/-- A call that answers the units of 1. -/
def OneR (w : World) (k : Nat) (e : Ending) (w' : World) : Prop :=
  ∃ g, e = .returned (.agg #[.bool false, .slice (some ⟨g, 0, none⟩) (digits (p2 k)).length (digits (p2 k)).length]) ∧ w.heap.size ≤ g ∧ Blk w' g (digits (p2 k)) ∧ Kept [] w w'
end Go.Proofs.Ytgplghjameiciaa
