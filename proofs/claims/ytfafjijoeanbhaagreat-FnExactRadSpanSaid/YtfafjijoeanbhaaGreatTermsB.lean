/-
 Contract of termsBehind: the iterator that it makes. No condition.
-/
import Derived.Test.YtfafjijoeanbhaaGreatSpanG
import Derived.Test.YtfafjijoeanbhaaGreatPlainC
namespace Go.Proofs.YtfafjijoeanbhaaGreat
open Go.RowKit

def TermsR (w : World) (v0 v1 v2 v3 : Value) (N : Int) (f : Value) (e : Ending) (w' : World) : Prop :=
 e = .returned (.func (.func 183) #[] #[.pointer (some ⟨w.heap.size, 0, none⟩), .pointer (some ⟨w.heap.size + 1, 0, none⟩), .pointer (some ⟨w.heap.size + 1 + 1, 0, none⟩)]) ∧
 w'.cell? ⟨w.heap.size, 0, none⟩ = some v0 ∧ w'.cell? ⟨w.heap.size, 1, none⟩ = some v1 ∧ w'.cell? ⟨w.heap.size, 2, none⟩ = some v2 ∧ w'.cell? ⟨w.heap.size, 3, none⟩ = some v3 ∧
 w'.cell? ⟨w.heap.size + 1, 0, none⟩ = some (.int .i64 N) ∧ w'.cell? ⟨w.heap.size + 1 + 1, 0, none⟩ = some f ∧ w'.heap.size = w.heap.size + 1 + 1 + 1 ∧ Kept [] w w'
set_option maxHeartbeats 2000000 in
theorem termsBehind_any (p q : Bool) (a b : Option Addr) (n c m d : Nat) (N : Int) (fn : Nat) (caps : Array Value) (w : World) :
  Calls Tryz.prog 121 #[.agg #[.bool p, .slice a n c, .bool q, .slice b m d], .int .i64 N, .func (.func fn) #[] caps] w (TermsR w (.bool p) (.slice a n c) (.bool q) (.slice b m d) N (.func (.func fn) #[] caps)) := by
 go_enter Tryz.func121, Tryz.ntmps121
 go_upto_region 1 with fail
 generalize hW : (((w.alloc (.cells #[.bool p, .slice a n c, .bool q, .slice b m d] 26)).alloc (.cells #[.int .i64 N] 2)).alloc (.cells #[.func (.func fn) #[] caps] 90)) = ww0
 have hkk : Kept [] (((w.alloc (.cells #[.bool p, .slice a n c, .bool q, .slice b m d] 26)).alloc (.cells #[.int .i64 N] 2)).alloc (.cells #[.func (.func fn) #[] caps] 90)) ww0 := by rw [hW]; exact Kept.refl _ _
 have hz : ww0.heap.size = w.heap.size + 1 + 1 + 1 := by rw [← hW]; simp
 have n0 := Lib.hid (hkk.peel.peel.top (g := w.heap.size) (by simp) (by simp) 0 (v := .bool p) rfl).1
 have n1 := Lib.hid (hkk.peel.peel.top (g := w.heap.size) (by simp) (by simp) 1 (v := .slice a n c) rfl).1
 have n2 := Lib.hid (hkk.peel.peel.top (g := w.heap.size) (by simp) (by simp) 2 (v := .bool q) rfl).1
 have n3 := Lib.hid (hkk.peel.peel.top (g := w.heap.size) (by simp) (by simp) 3 (v := .slice b m d) rfl).1
 have n4 := Lib.hid (hkk.peel.top (g := w.heap.size + 1) (by simp) (by simp) 0 (v := .int .i64 N) rfl).1
 have n5 := Lib.hid (hkk.top (g := w.heap.size + 1 + 1) (by simp) (by simp) 0 (v := .func (.func fn) #[] caps) rfl).1
 have HK := Lib.hid hkk.peel.peel.peel
 have HZ := Lib.hid hz
 clear hkk hz hW
 go_wp2
 go_ret
 exact ⟨rfl, n0.out, n1.out, n2.out, n3.out, n4.out, n5.out, HZ.out, HK.out⟩

end Go.Proofs.YtfafjijoeanbhaaGreat
