/-
  The walk of the law on NatText. No condition but that the arguments read as lists of numbers.
-/
import Derived.OpenShut
import Derived.Test.YteghldihmkinfaaMarks
import Derived.Test.YteghldihmkinfaaNText
import Derived.Test.YteghldihmkinfaaSText
namespace Go.Proofs.Yteghldihmkinfaa
open Go.RowKit

set_option maxHeartbeats 2000000 in
theorem FnExactNatText_walk (a : Option Addr) (n c : Nat) (xs : List Int) (w : World) (h0 : Rd w a n xs) :
    Calls Try.prog 3 #[.slice a n c] w (Ans w (.bool true)) := by
  have hmax0 := h0.2.1
  have HR0 := Lib.hid h0
  have HL0 := Lib.hid h0.1
  clear h0
  by_cases hbig0 : 1048576 < n
  · go_enter Try.func3, Try.ntmps3
    go_wp2_with fail
    go_ret
    exact ⟨rfl, Kept.refl _ _⟩
  have hsm0 : n ≤ 1048576 := by omega
  clear hbig0 hmax0
  go_enter Try.func3, Try.ntmps3
  go_wp2_with fail
  refine (toInt64S_any _ _ _ _ _ HR0.out (by omega)).mono ?_
  rintro e w1 ⟨gs, rfl, qs, hb, hk⟩
  rw [HL0.out]
  have k1 := Lib.hid (hk)
  have z1 := k1.out.size
  have K1 := Lib.hid k1.out
  have bs := Lib.hid hb
  clear hb hk
  go_wp2_with fail
  refine (sNatText_any _ _ _ _ _ (rd_new bs.out HL0.out (by omega))).mono ?_
  rintro e w2 ⟨rfl, hk⟩
  have k2 := Lib.hid (hk)
  have z2 := k2.out.size
  have K2 := Lib.hid (K1.out.trans0 k2.out)
  clear K1
  clear hk
  obtain ⟨v0, hv0⟩ : ∃ v : Int, v = natFault xs := ⟨_, rfl⟩
  obtain ⟨v1, hv1⟩ : ∃ v : ByteArray, v = textVal xs := ⟨_, rfl⟩
  rw [← hv0, ← hv1]
  have HV0 := Lib.hid hv0
  have HV1 := Lib.hid hv1
  clear hv0 hv1
  go_wp2_with fail
  have k3 := Lib.hid ((Kept.refl [] w2).alloc (.cells #[.int .i64 v0, .string v1] 24))
  have z3 := k3.out.size
  simp only [World.size_alloc] at z3
  have K3 := Lib.hid (K2.out.trans0 k3.out)
  clear K2
  have cB10 : Hid ((w2.alloc (.cells #[.int .i64 v0, .string v1] 24)).cell? ⟨w2.heap.size, 0, none⟩ = some (.int .i64 v0)) := by show (w2.alloc (.cells #[.int .i64 v0, .string v1] 24)).cell? _ = _; simp
  have cB11 : Hid ((w2.alloc (.cells #[.int .i64 v0, .string v1] 24)).cell? ⟨w2.heap.size, 1, none⟩ = some (.string v1)) := by show (w2.alloc (.cells #[.int .i64 v0, .string v1] 24)).cell? _ = _; simp
  go_wp2_with fail
  refine (toInt64S_any _ _ _ _ _ (HR0.out.kept0 K3.out) (by omega)).mono ?_
  rintro e w3 ⟨gx, rfl, qx, hb, hk⟩
  rw [HL0.out]
  have k4 := Lib.hid (hk)
  have z4 := k4.out.size
  simp only [World.size_alloc] at z4
  have K4 := Lib.hid (K3.out.trans0 k4.out)
  clear K3
  have bx := Lib.hid hb
  clear hb hk
  go_wp2_with fail
  refine (NatText_any _ _ _ _ _ (sl_new bx.out HL0.out (by omega))).mono ?_
  rintro e w4 ⟨rfl, hk⟩
  have k5 := Lib.hid (hk)
  have z5 := k5.out.size
  have K5 := Lib.hid (K4.out.trans0 k5.out)
  clear K4
  clear hk
  rw [← HV0.out, ← HV1.out]
  have t0 := ((k4.out.trans0 k5.out).cell cB10.out (by simp))
  have t1 := ((k4.out.trans0 k5.out).cell cB11.out (by simp))
  have lB1 : w2.heap.size < w4.heap.size := by omega
  go_wp2_with fail
  clear t0 t1
  have k6 := Lib.hid ((Kept.refl [] w4).alloc (.cells #[.int .i64 v0, .string v1] 24))
  have z6 := k6.out.size
  simp only [World.size_alloc] at z6
  have K6 := Lib.hid (K5.out.trans0 k6.out)
  clear K5
  have cB20 : Hid ((w4.alloc (.cells #[.int .i64 v0, .string v1] 24)).cell? ⟨w4.heap.size, 0, none⟩ = some (.int .i64 v0)) := by show (w4.alloc (.cells #[.int .i64 v0, .string v1] 24)).cell? _ = _; simp
  have cB21 : Hid ((w4.alloc (.cells #[.int .i64 v0, .string v1] 24)).cell? ⟨w4.heap.size, 1, none⟩ = some (.string v1)) := by show (w4.alloc (.cells #[.int .i64 v0, .string v1] 24)).cell? _ = _; simp
  refine (eqTextResult_yes _ _ _).mono ?_
  rintro e w5 ⟨rfl, hk⟩
  have k7 := Lib.hid (hk)
  have z7 := k7.out.size
  simp only [World.size_alloc] at z7
  have K7 := Lib.hid (K6.out.trans0 k7.out)
  clear K6
  clear hk
  go_wp2_with fail
  refine (toInt64S_any _ _ _ _ _ (HR0.out.kept0 K7.out) (by omega)).mono ?_
  rintro e w6 ⟨ge, rfl, qe, hb, hk⟩
  rw [HL0.out]
  have k8 := Lib.hid (hk)
  have z8 := k8.out.size
  have K8 := Lib.hid (K7.out.trans0 k8.out)
  clear K7
  have be := Lib.hid hb
  clear hb hk
  go_wp2_with fail
  refine (eqInt64S_yes _ _ _ _ _ _ _ (rd_new ((((k5.out.trans0 k6.out).trans0 k7.out).trans0 k8.out).blk bx.out (by simp)) HL0.out (by omega)) (rd_new be.out HL0.out (by omega))).mono ?_
  rintro e w7 ⟨rfl, hk⟩
  have k9 := Lib.hid (hk)
  have z9 := k9.out.size
  have K9 := Lib.hid (K8.out.trans0 k9.out)
  clear K8
  clear hk
  go_wp2_with fail
  go_ret
  exact ⟨rfl, K9.out⟩

end Go.Proofs.Yteghldihmkinfaa
