/-
  The walk of the law on ReadNat. No condition but that the arguments read as lists of numbers.
-/
import Derived.OpenShut
import Derived.Test.YtdoijgiakaomnaaJ1
import Derived.Test.YtdoijgiakaomnaaReadS
namespace Go.Proofs.Ytdoijgiakaomnaa
open Go.RowKit

set_option maxHeartbeats 2000000 in
theorem FnExactReadNat_walk (s : ByteArray) (w : World) (_hx : s.size ≤ maxLen) :
    Calls Try.prog 3 #[.string s] w (Ans w (.bool true)) := by
  by_cases hbig : 1048576 < s.size
  · go_enter Try.func3, Try.ntmps3
    go_wp2_with fail
    go_ret
    exact ⟨rfl, Kept.refl _ _⟩
  have hs9 : s.size ≤ 1048576 := by omega
  have HS9 := Lib.hid hs9
  clear hbig
  have HZ := Lib.hid (Nat.le_trans (rnLimbs_len (bytesOf s)) (by omega : 40 ≤ 4000000))
  go_enter Try.func3, Try.ntmps3
  go_wp2_with fail
  refine (sReadNat_any s _ hs9).mono ?_
  rintro e w1 ⟨a1, c1, rfl, hs, hf, hk⟩
  have k1 := Lib.hid (hk)
  have z1 := k1.out.size
  have K1 := Lib.hid k1.out
  have S1 := Lib.hid hs
  have f1 := Lib.hid hs.lt
  clear hs hf hk
  obtain ⟨v, hv⟩ : ∃ v : Int, v = (rnCode (bytesOf s)) := ⟨_, rfl⟩
  obtain ⟨zs, hz⟩ : ∃ zs : List Int, zs = rnLimbs (bytesOf s) := ⟨_, rfl⟩
  rw [← hv, ← hz]
  rw [← hz] at S1 f1 HZ
  have HV := Lib.hid hv
  have HZZ := Lib.hid hz
  clear hv hz
  go_wp2_with fail
  have k2 := Lib.hid ((Kept.refl [] w1).alloc (.cells #[.int .i64 v, .slice a1 zs.length c1] 24))
  have z2 := k2.out.size
  simp only [World.size_alloc] at z2
  have K2 := Lib.hid (K1.out.trans0 k2.out)
  clear K1
  have cB1a : Hid ((w1.alloc (.cells #[.int .i64 v, .slice a1 zs.length c1] 24)).cell? ⟨w1.heap.size, 0, none⟩ = some (.int .i64 v)) := by show (w1.alloc (.cells #[.int .i64 v, .slice a1 zs.length c1] 24)).cell? _ = _; simp
  have cB1b : Hid ((w1.alloc (.cells #[.int .i64 v, .slice a1 zs.length c1] 24)).cell? ⟨w1.heap.size, 1, none⟩ = some (.slice a1 zs.length c1)) := by show (w1.alloc (.cells #[.int .i64 v, .slice a1 zs.length c1] 24)).cell? _ = _; simp
  go_wp2_with fail
  refine (ReadNat_any s _ hs9).mono ?_
  rintro e w2 ⟨a2, c2, rfl, hs, hf, hk⟩
  have k3 := Lib.hid (hk)
  have z3 := k3.out.size
  simp only [World.size_alloc] at z3
  have K3 := Lib.hid (K2.out.trans0 k3.out)
  clear K2
  rw [← HV.out, ← HZZ.out]
  rw [← HZZ.out] at hs hf
  have S2 := Lib.hid hs
  have f2 := Lib.hid hs.lt
  have F2 := Lib.hid hf
  clear hs hf hk
  have ta := (k3.out.cell cB1a.out (by simp))
  have tb := (k3.out.cell cB1b.out (by simp))
  have lB13 : w1.heap.size < w2.heap.size := by omega
  have t1 := ta
  have t2 := tb
  clear ta tb
  go_wp2_with fail
  clear t1 t2
  have k4 := Lib.hid ((Kept.refl [] w2).alloc (.cells #[.int .i64 v, .slice a2 zs.length c2] 24))
  have z4 := k4.out.size
  simp only [World.size_alloc] at z4
  have K4 := Lib.hid (K3.out.trans0 k4.out)
  clear K3
  have cB2a : Hid ((w2.alloc (.cells #[.int .i64 v, .slice a2 zs.length c2] 24)).cell? ⟨w2.heap.size, 0, none⟩ = some (.int .i64 v)) := by show (w2.alloc (.cells #[.int .i64 v, .slice a2 zs.length c2] 24)).cell? _ = _; simp
  have cB2b : Hid ((w2.alloc (.cells #[.int .i64 v, .slice a2 zs.length c2] 24)).cell? ⟨w2.heap.size, 1, none⟩ = some (.slice a2 zs.length c2)) := by show (w2.alloc (.cells #[.int .i64 v, .slice a2 zs.length c2] 24)).cell? _ = _; simp
  refine (eqNatResult_yes _ _ _ _ _ _ _ _ ((S2.out.kept0 k4.out)).rd ((S1.out.kept0 ((k2.out.trans0 k3.out).trans0 k4.out))).rd).mono ?_
  rintro e w3 ⟨rfl, hk⟩
  have k5 := Lib.hid (hk)
  have z5 := k5.out.size
  simp only [World.size_alloc] at z5
  have K5 := Lib.hid (K4.out.trans0 k5.out)
  clear K4
  clear hk
  have ta := (k5.out.cell cB2a.out (by simp))
  have tb := (k5.out.cell cB2b.out (by simp))
  have lB25 : w2.heap.size < w3.heap.size := by omega
  go_wp2_with fail
  clear ta tb
  refine (markNatResult_any _ _ _ _ _ 1 _ (S2.out.kept0 (k4.out.trans0 k5.out)) HZ.out (by omega)).mono ?_
  rintro e w4 ⟨rfl, hs, hk⟩
  have k6 := Lib.hid (hk)
  have z6 := k6.out.size
  have K6 := Lib.hid (K5.out.trans k6.out (fun x hx hlt => by obtain ⟨hn, y, hy, rfl⟩ := blkOf_mem hx; have h9 := F2.out hn y hy; (try simp only [World.size_alloc] at h9); omega))
  clear K5
  have S3 := Lib.hid hs
  clear hs hk
  have hq0 : (0 : Int) ≤ 1 + (zs.length : Int) := by omega
  have hqn : decide (1 + (zs.length : Int) < 0) = false := decide_eq_false (by omega)
  have ta := (k6.out.cell (k5.out.cell cB2a.out (by simp)) (fun hm => by obtain ⟨hn, y, hy, e⟩ := blkOf_mem hm; have := f2.out hn y hy; simp at e; omega))
  have tb := (k6.out.cell (k5.out.cell cB2b.out (by simp)) (fun hm => by obtain ⟨hn, y, hy, e⟩ := blkOf_mem hm; have := f2.out hn y hy; simp at e; omega))
  have lB26 : w2.heap.size < w4.heap.size := by omega
  go_wp2_with fail
  clear ta tb
  refine (heldNatResult_any _ _ _ _ 1 _ (S3.out).rd HZ.out (by omega)).mono ?_
  rintro e w5 ⟨rfl, hk⟩
  have k7 := Lib.hid (hk)
  have z7 := k7.out.size
  have K7 := Lib.hid (K6.out.trans0 k7.out)
  clear K6
  clear hk
  go_wp2_with fail
  refine (ReadNat_any s _ hs9).mono ?_
  rintro e w6 ⟨a4, c4, rfl, hs, hf, hk⟩
  have k8 := Lib.hid (hk)
  have z8 := k8.out.size
  have K8 := Lib.hid (K7.out.trans0 k8.out)
  clear K7
  rw [← HV.out, ← HZZ.out]
  rw [← HZZ.out] at hs hf
  have S4 := Lib.hid hs
  clear hs hf hk
  have ta := ((k7.out.trans0 k8.out).cell (k6.out.cell (((k3.out.trans0 k4.out).trans0 k5.out).cell cB1a.out (by simp)) (fun hm => by obtain ⟨hn, y, hy, e⟩ := blkOf_mem hm; have h9 := F2.out hn y hy; simp at e; (try simp only [World.size_alloc] at h9); omega)) (by simp))
  have tb := ((k7.out.trans0 k8.out).cell (k6.out.cell (((k3.out.trans0 k4.out).trans0 k5.out).cell cB1b.out (by simp)) (fun hm => by obtain ⟨hn, y, hy, e⟩ := blkOf_mem hm; have h9 := F2.out hn y hy; simp at e; (try simp only [World.size_alloc] at h9); omega)) (by simp))
  have lB18 : w1.heap.size < w6.heap.size := by omega
  have t1 := ta
  have t2 := tb
  clear ta tb
  go_wp2_with fail
  clear t1 t2
  have k9 := Lib.hid ((Kept.refl [] w6).alloc (.cells #[.int .i64 v, .slice a4 zs.length c4] 24))
  have z9 := k9.out.size
  simp only [World.size_alloc] at z9
  have K9 := Lib.hid (K8.out.trans0 k9.out)
  clear K8
  have cB4a : Hid ((w6.alloc (.cells #[.int .i64 v, .slice a4 zs.length c4] 24)).cell? ⟨w6.heap.size, 0, none⟩ = some (.int .i64 v)) := by show (w6.alloc (.cells #[.int .i64 v, .slice a4 zs.length c4] 24)).cell? _ = _; simp
  have cB4b : Hid ((w6.alloc (.cells #[.int .i64 v, .slice a4 zs.length c4] 24)).cell? ⟨w6.heap.size, 1, none⟩ = some (.slice a4 zs.length c4)) := by show (w6.alloc (.cells #[.int .i64 v, .slice a4 zs.length c4] 24)).cell? _ = _; simp
  refine (eqNatResult_yes _ _ _ _ _ _ _ _ ((S4.out.kept0 k9.out)).rd ((((S1.out.kept0 (((k2.out.trans0 k3.out).trans0 k4.out).trans0 k5.out)).kept k6.out (fun hn y hy hm => by obtain ⟨_, u, hu, e⟩ := blkOf_mem hm; have h8 := f1.out hn y hy; have h9 := F2.out hn u hu; (try simp only [World.size_alloc] at h9); omega)).kept0 ((k7.out.trans0 k8.out).trans0 k9.out))).rd).mono ?_
  rintro e w7 ⟨rfl, hk⟩
  have k10 := Lib.hid (hk)
  have z10 := k10.out.size
  simp only [World.size_alloc] at z10
  have K10 := Lib.hid (K9.out.trans0 k10.out)
  clear K9
  clear hk
  have ta := ((((k7.out.trans0 k8.out).trans0 k9.out).trans0 k10.out).cell (k6.out.cell (k5.out.cell cB2a.out (by simp)) (fun hm => by obtain ⟨hn, y, hy, e⟩ := blkOf_mem hm; have := f2.out hn y hy; simp at e; omega)) (by simp))
  have tb := ((((k7.out.trans0 k8.out).trans0 k9.out).trans0 k10.out).cell (k6.out.cell (k5.out.cell cB2b.out (by simp)) (fun hm => by obtain ⟨hn, y, hy, e⟩ := blkOf_mem hm; have := f2.out hn y hy; simp at e; omega)) (by simp))
  have lB210 : w2.heap.size < w7.heap.size := by omega
  go_wp2_with fail
  clear ta tb
  refine (heldNatResult_any _ _ _ _ 1 _ ((S3.out.kept0 (((k7.out.trans0 k8.out).trans0 k9.out).trans0 k10.out))).rd HZ.out (by omega)).mono ?_
  rintro e w8 ⟨rfl, hk⟩
  have k11 := Lib.hid (hk)
  have z11 := k11.out.size
  have K11 := Lib.hid (K10.out.trans0 k11.out)
  clear K10
  clear hk
  go_wp2_with fail
  go_ret
  exact ⟨rfl, K11.out⟩

end Go.Proofs.Ytdoijgiakaomnaa
