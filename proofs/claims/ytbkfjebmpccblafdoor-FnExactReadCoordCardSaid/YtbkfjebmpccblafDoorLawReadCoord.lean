/-
  The walk of the law on ReadCoord. No condition.
-/
import Derived.Test.YtbkfjebmpccblafDoorRdC
import Derived.Test.YtbkfjebmpccblafDoorRdE
import Derived.Test.YtbkfjebmpccblafDoorEqI
namespace Go.Proofs.YtbkfjebmpccblafDoor
open Go.RowKit

set_option maxHeartbeats 1000000 in
set_option maxRecDepth 20000 in
theorem FnExactReadCoord_walk (s : ByteArray) (w : World) (_hs : s.size ≤ maxLen) :
    Calls Tryd.prog 3 #[.string s] w (Ans w (.bool true)) := by
  by_cases hbig : 1048576 < s.size
  · have hb : (1048576 : Int) < s.size := by omega
    go_enter Tryd.func3, Tryd.ntmps3
    go_wp2_with fail
    go_ret
    exact ⟨rfl, Kept.refl _ _⟩
  have hb : ¬ (1048576 : Int) < s.size := by omega
  obtain ⟨l, hl⟩ : ∃ l, s = strB l := ⟨s.data.toList, rfl⟩
  have hll : l.length ≤ 1500000 := by have := strB_size l; rw [← hl] at this; omega
  have HL := Lib.hid hl
  obtain ⟨c, hc⟩ : ∃ c, rcC l = c := ⟨_, rfl⟩
  obtain ⟨v, hv⟩ : ∃ c, rcV l = c := ⟨_, rfl⟩
  have HC := Lib.hid hc
  have HV := Lib.hid hv
  clear hc hv hl hbig _hs
  go_enter Tryd.func3, Tryd.ntmps3
  go_wp2_with fail
  rw [HL.out]
  refine (sReadCoord_any l _ hll).mono ?_
  rintro e w2 ⟨rfl, k2⟩
  rw [HC.out, HV.out]
  have K2 := Lib.hid k2
  clear k2
  go_wp2_with fail
  refine (ReadCoord_any l _ hll).mono ?_
  rintro e w5 ⟨rfl, k5⟩
  rw [HC.out, HV.out]
  have K5 := Lib.hid ((K2.out.alloc (.cells #[.int .i64 c, .int .i64 v] 23)).trans0 k5)
  have d0 := (k5.top (g := w2.heap.size) (by simp) (by simp) 0 (v := .int .i64 c) rfl).1
  have d1 := (k5.top (g := w2.heap.size) (by simp) (by simp) 1 (v := .int .i64 v) rfl).1
  have z5 := k5.size
  simp only [World.size_alloc] at z5
  have lB1 : w2.heap.size < w5.heap.size := by omega
  clear z5
  clear k5 K2
  go_wp2_with fail
  refine (eqIntResult_yes _ _ _).mono ?_
  rintro e w6 ⟨rfl, k6⟩
  have K6 := Lib.hid ((K5.out.alloc _).trans0 k6)
  go_wp2_with fail
  go_ret
  exact ⟨rfl, K6.out⟩

end Go.Proofs.YtbkfjebmpccblafDoor
