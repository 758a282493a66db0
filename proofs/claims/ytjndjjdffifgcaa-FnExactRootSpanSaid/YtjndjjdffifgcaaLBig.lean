/-
  Contracts of the laws' helpers over bigs: toBig, szBig, eqBig, markBig, heldBig. Conditions: the limbs read as lists of numbers and are short.
-/
import Derived.Test.YtjndjjdffifgcaaMarks
import Derived.Outline
namespace Go.Proofs.Ytjndjjdffifgcaa
open Go.RowKit

/-- A call that answers a big in a new block. -/
def NewB (w : World) (b : Bool) (xs : List Int) (e : Ending) (w' : World) : Prop :=
  ∃ g, e = .returned (.agg #[.bool b, .slice (some ⟨g, 0, none⟩) xs.length xs.length]) ∧ w.heap.size ≤ g ∧ Blk w' g xs ∧ Kept [] w w'

theorem Kept.peel {L : List Nat} {w w1 : World} {o : Obj} (hk : Kept L (w.alloc o) w1) : Kept L w w1 :=
  ((Kept.refl L w).alloc o).trans hk (fun _ hx _ => hx)
/-- A cell of the block that was made last, behind whatever leaves it alone. -/
theorem Kept.top {L : List Nat} {w w1 : World} {c : Array Value} {T : TypeId} (hk : Kept L (w.alloc (.cells c T)) w1) {g : Nat} (hb : w.heap.size = g) (hL : g ∉ L) (i : Nat) {v : Value} (hv : c[i]? = some v) :
    w1.cell? ⟨g, i, none⟩ = some v ∧ w1.frozen? ⟨g, i, none⟩ = false ∧ g < w1.heap.size := by
  subst hb
  have h := hk.size
  rw [World.size_alloc] at h
  refine ⟨hk.cell (p := ⟨w.heap.size, i, none⟩) (by rw [World.cell?_alloc_new]; exact hv) hL, hk.free (p := ⟨w.heap.size, i, none⟩) ?_ (by simp) hL, by omega⟩
  exact frozen_of_row _ _ _ _ _ (heap_alloc_new w _)

set_option maxHeartbeats 1000000 in
theorem toBig_any (b : Bool) (a : Option Addr) (n c : Nat) (xs : List Int) (w : World) (h : Rd w a n xs) (hn : n ≤ 2000000) :
    Calls Try.prog 38 #[.agg #[.bool b, .slice a n c]] w (NewB w b xs) := by
  have HR := Lib.hid h
  have HL := Lib.hid h.1
  clear h
  have k0 : Kept [] w (((w.alloc (.cells #[.bool b, .slice a n c] 24)).alloc (.cells #[.bool false, .slice none 0 0] 29)).alloc (.cells #[.bool b, .slice none 0 0] 29)) := (((Kept.refl [] w).alloc _).alloc _).alloc _
  have K0 := Lib.hid k0
  clear k0
  go_enter Try.func38, Try.ntmps38
  go_wp2_with fail
  refine (toInt64S_any _ _ _ _ _ (HR.out.kept0 K0.out) (by omega)).mono ?_
  rintro e w1 ⟨g, rfl, hg, hb, hk⟩
  obtain ⟨c1, _, _⟩ := hk.top (g := w.heap.size + 1 + 1) (by simp) (by simp) 0 rfl
  obtain ⟨c2, f2, _⟩ := hk.top (g := w.heap.size + 1 + 1) (by simp) (by simp) 1 rfl
  obtain ⟨c3, f3, _⟩ := hk.peel.top (g := w.heap.size + 1) (by simp) (by simp) 0 rfl
  obtain ⟨c4, f4, _⟩ := hk.peel.top (g := w.heap.size + 1) (by simp) (by simp) 1 rfl
  have hs := hk.size
  simp only [World.size_alloc] at hs hg
  have HB := Lib.hid hb
  have HK := Lib.hid (K0.out.trans0 hk)
  clear hb hk
  go_wp2_with fail
  have e3 : (w1.setCell ⟨w.heap.size + 1 + 1, 1, none⟩ (.slice (some ⟨g, 0, none⟩) xs.length xs.length)).cell? ⟨w.heap.size + 1, 0, none⟩ = some (.bool false) := by rw [World.cell?_setCell_other _ _ _ _ (by simp)]; exact c3
  have e4 : (w1.setCell ⟨w.heap.size + 1 + 1, 1, none⟩ (.slice (some ⟨g, 0, none⟩) xs.length xs.length)).cell? ⟨w.heap.size + 1, 1, none⟩ = some (.slice none 0 0) := by rw [World.cell?_setCell_other _ _ _ _ (by simp)]; exact c4
  obtain ⟨_, eb, ec⟩ := cells2 (.bool b) (.slice (some ⟨g, 0, none⟩) xs.length xs.length) e3 e4
  refine bodyPost_ret (v := .agg #[.bool b, .slice (some ⟨g, 0, none⟩) xs.length xs.length]) (by simp [results, Try.results38, go_sem, eb, ec]) rfl ⟨g, rfl, by omega, ?_, (((HK.out.setCell _ _ (by simp; omega)).setCell _ _ (by simp)).setCell _ _ (by simp))⟩
  exact ((HB.out.other _ _ (by simp; omega)).other _ _ (by simp; omega)).other _ _ (by simp; omega)


set_option maxHeartbeats 400000 in
theorem szInt64S_yes (a : Option Addr) (n c : Nat) (L : Int) (w : World) (h : (n : Int) ≤ L) (hL : L ≤ 1048576) :
    Calls Try.prog 70 #[.slice a n c, .int .i64 L] w (Ans w (.int .i64 (L - n))) := by
  have h0 : (0 : Int) ≤ L - n := by omega
  have h1 : decide (L - (n : Int) < 0) = false := decide_eq_false (by omega)
  go_enter Try.func70, Try.ntmps70
  go_wp2
  go_ret
  exact ⟨rfl, Kept.refl _ _⟩
set_option maxHeartbeats 400000 in
theorem szInt64S_no (a : Option Addr) (n c : Nat) (L : Int) (w : World) (h : L < n) (h0 : 0 ≤ L) (hn : n ≤ 9223372036854775807) :
    Calls Try.prog 70 #[.slice a n c, .int .i64 L] w (Ans w (.int .i64 (-1))) := by
  have h1 : L - (n : Int) < 0 := by omega
  have h2 : -9223372036854775808 ≤ L - (n : Int) := by omega
  have h3 : IntKind.i64.wrap (L - (n : Int)) = L - (n : Int) := IntWalk.i64_in _ (by omega)
  go_enter Try.func70, Try.ntmps70
  go_wp2
  go_ret
  exact ⟨rfl, Kept.refl _ _⟩

set_option maxHeartbeats 400000 in
theorem szBig_yes (b : Bool) (a : Option Addr) (n c : Nat) (L : Int) (w : World) (h : (n : Int) ≤ L) (hL : L ≤ 1048576) :
    Calls Try.prog 36 #[.agg #[.bool b, .slice a n c], .int .i64 L] w (Ans w (.int .i64 (L - n))) := by
  have h0 : (0 : Int) ≤ L - n := by omega
  have h1 : decide (L - (n : Int) < 0) = false := decide_eq_false (by omega)
  go_enter Try.func36, Try.ntmps36
  go_wp2_with fail
  refine (szInt64S_yes _ _ _ _ _ h hL).mono ?_
  rintro e w1 ⟨rfl, hk⟩
  have HK := Lib.hid (((Kept.refl [] w).alloc _).trans0 hk)
  clear hk
  go_wp2_with fail
  go_ret
  exact ⟨rfl, HK.out⟩
set_option maxHeartbeats 400000 in
theorem szBig_no (b : Bool) (a : Option Addr) (n c : Nat) (L : Int) (w : World) (h : L < n) (h0 : 0 ≤ L) (hn : n ≤ 9223372036854775807) :
    Calls Try.prog 36 #[.agg #[.bool b, .slice a n c], .int .i64 L] w (Ans w (.int .i64 (-1))) := by
  go_enter Try.func36, Try.ntmps36
  go_wp2_with fail
  refine (szInt64S_no _ _ _ _ _ h h0 hn).mono ?_
  rintro e w1 ⟨rfl, hk⟩
  have HK := Lib.hid (((Kept.refl [] w).alloc _).trans0 hk)
  clear hk
  go_wp2_with fail
  go_ret
  exact ⟨rfl, HK.out⟩

set_option maxHeartbeats 400000 in
theorem eqBig_yes (v : Bool) (a b : Option Addr) (n c c' : Nat) (xs : List Int) (w : World) (h : Rd w a n xs) (h' : Rd w b n xs) :
    Calls Try.prog 40 #[.agg #[.bool v, .slice a n c], .agg #[.bool v, .slice b n c']] w (Ans w (.bool true)) := by
  have HR := Lib.hid h
  have HR' := Lib.hid h'
  clear h h'
  have k0 : Kept [] w ((w.alloc (.cells #[.bool v, .slice a n c] 29)).alloc (.cells #[.bool v, .slice b n c'] 29)) := ((Kept.refl [] w).alloc _).alloc _
  have HK0 := Lib.hid k0
  clear k0
  cases v
  all_goals
    go_enter Try.func40, Try.ntmps40
    go_wp2_with fail
    refine (eqInt64S_yes _ _ _ _ _ _ _ (HR.out.kept0 HK0.out) (HR'.out.kept0 HK0.out)).mono ?_
    rintro e w1 ⟨rfl, hq⟩
    have HQ := Lib.hid (HK0.out.trans0 hq)
    clear hq
    go_wp2_with fail
    go_ret
    exact ⟨rfl, HQ.out⟩

set_option maxHeartbeats 400000 in
theorem markBig_any (v : Bool) (a : Option Addr) (n c : Nat) (xs : List Int) (k : Int) (w : World) (h : Sl w a n c xs) (hn : n ≤ 4000000) (hk : 0 ≤ k ∧ k ≤ 4611686018427387904) :
    Calls Try.prog 41 #[.agg #[.bool v, .slice a n c], .int .i64 k] w fun e w' => e = .returned (.int .i64 (k + n)) ∧ Sl w' a n c (cnt k n) ∧ Kept (blkOf a n) w w' := by
  have HR := Lib.hid h
  have HN := Lib.hid hn
  have HKK := Lib.hid hk
  clear h hn hk
  go_enter Try.func41, Try.ntmps41
  go_wp2_with fail
  have k0 : Kept [] w (w.alloc (.cells #[.bool v, .slice a n c] 29)) := (Kept.refl [] w).alloc _
  have HK0 := Lib.hid k0
  clear k0
  refine (markInt64S_any _ _ _ _ _ _ (HR.out.kept0 HK0.out) HN.out HKK.out).mono ?_
  rintro e w1 ⟨rfl, hS, hq⟩
  have HQ : Hid (Kept (blkOf a n) w w1) := (HK0.out.mono (by simp)).trans hq (fun x hx _ => hx)
  have HS := Lib.hid hS
  clear hq hS
  go_wp2_with fail
  go_ret
  exact ⟨rfl, HS.out, HQ.out⟩

set_option maxHeartbeats 400000 in
theorem heldBig_any (v : Bool) (a : Option Addr) (n c : Nat) (k : Int) (w : World) (h : Rd w a n (cnt k n)) (hn : n ≤ 4000000) (hk : 0 ≤ k ∧ k ≤ 4611686018427387904) :
    Calls Try.prog 101 #[.agg #[.bool v, .slice a n c], .int .i64 k] w (Ans w (.int .i64 (k + n))) := by
  have HR := Lib.hid h
  have HN := Lib.hid hn
  have HKK := Lib.hid hk
  have hpos : (0 : Int) ≤ k + n := by omega
  have hneg : decide (k + (n : Int) < 0) = false := decide_eq_false (by omega)
  clear h hn hk
  go_enter Try.func101, Try.ntmps101
  go_wp2_with fail
  have k0 : Kept [] w (w.alloc (.cells #[.bool v, .slice a n c] 29)) := (Kept.refl [] w).alloc _
  have HK0 := Lib.hid k0
  clear k0
  refine (heldInt64S_any _ _ _ _ _ (HR.out.kept0 HK0.out) HN.out HKK.out).mono ?_
  rintro e w1 ⟨rfl, hq⟩
  have HQ := Lib.hid (HK0.out.trans0 hq)
  clear hq
  go_wp2_with fail
  go_ret
  exact ⟨rfl, HQ.out⟩

theorem Kept.allocH {L : List Nat} {W w : World} {o : Obj} (h : Hid (Kept L W w)) : Hid (Kept L W (w.alloc o)) := Lib.hid (h.out.alloc o)
theorem alloc_cell {w : World} {o : Obj} {p : Addr} {v : Value} (h : w.cell? p = some v) : (w.alloc o).cell? p = some v := ((Kept.refl [] w).alloc o).cell h (by simp)

end Go.Proofs.Ytjndjjdffifgcaa
