/-
  Contracts of ThreeOf and AskText, the program's and the model's. No condition.
-/
import Derived.Test.YtledbpiaipmgkaaJ1
import Derived.Test.YtledbpiaipmgkaaRngA
namespace Go.Proofs.Ytledbpiaipmgkaa
open Go.RowKit

theorem rd_threeF (w : World) (x : Int) : Rd (w.alloc (.cells #[.int .i64 0, .int .i64 x, .int .i64 1000000000000000] 2)) (some ⟨w.heap.size, 0, none⟩) 3 [0, x, 1000000000000000] := by
  have := Sl.ofBlk (Blk.new w [0, x, 1000000000000000]) (by simp)
  exact this.rd
/-- That a distance can be asked of. -/
def farOk (x : Int) : Bool := decide (0 ≤ x) && decide (x ≤ 1000000000000000)
theorem ord_threeF (x : Int) : (farOk x) = true ↔ OrdTo [0, x, 1000000000000000] 3 := by
  unfold farOk
  rw [Bool.and_eq_true, decide_eq_true_eq, decide_eq_true_eq]
  constructor
  · intro h i hi
    rcases (by omega : i = 0 ∨ i = 1) with rfl | rfl
    · simpa using h.1
    · simpa using h.2
  · intro h
    have h0 := h 0 (by omega)
    have h1 := h 1 (by omega)
    simp at h0 h1
    exact ⟨h0, h1⟩

set_option maxHeartbeats 2000000 in
theorem isFar_any (x : Int) (w : World) : Calls Try.prog 75 #[.int .i64 x] w (Ans w (.bool (farOk x))) := by
  go_enter Try.func75, Try.ntmps75
  go_wp2_with fail
  refine (inOrder_any _ _ _ _ _ (rd_threeF _ _) _ (ord_threeF _)).mono ?_
  rintro e w1 ⟨rfl, h1⟩
  go_wp2_with fail
  go_ret
  exact ⟨rfl, h1.peel⟩

set_option maxHeartbeats 2000000 in
theorem l1InFar_any (x : Int) (w : World) : Calls Try.prog 65 #[.int .i64 x, .int .i64 0, .int .i64 1000000000000000] w (Ans w (.bool (farOk x))) := by
  by_cases h1 : 0 ≤ x
  · by_cases h2 : x ≤ 1000000000000000
    · have hv : Hid (farOk x = true) := by unfold farOk; rw [decide_eq_true h1, decide_eq_true h2]; exact rfl
      go_enter Try.func65, Try.ntmps65
      go_wp2
      go_ret
      exact ⟨by rw [hv.out]; rfl, Kept.refl _ _⟩
    · have hv : Hid (farOk x = false) := by unfold farOk; rw [decide_eq_false h2, Bool.and_false]; exact rfl
      go_enter Try.func65, Try.ntmps65
      go_wp2
      go_ret
      exact ⟨by rw [hv.out]; rfl, Kept.refl _ _⟩
  · have hv : Hid (farOk x = false) := by unfold farOk; rw [decide_eq_false h1]; exact rfl
    go_enter Try.func65, Try.ntmps65
    go_wp2
    go_ret
    exact ⟨by rw [hv.out]; rfl, Kept.refl _ _⟩

set_option maxHeartbeats 2000000 in
theorem l7Far_any (x : Int) (w : World) : Calls Try.prog 73 #[.int .i64 x] w (Ans w (.bool (farOk x))) := by
  go_enter Try.func73, Try.ntmps73
  go_wp2_with fail
  refine (l1InFar_any _ _).mono ?_
  rintro e w1 ⟨rfl, h1⟩
  go_wp2_with fail
  go_ret
  exact ⟨rfl, h1⟩

def threeV (x y z : Int) : Int := if y ≤ z then 1 else if z < x then 2 else 3
def threeC (x y z : Int) : Int := if y < x then 1 else if farOk z = true then 0 else 3
def threeW (x y z : Int) : Int := if threeC x y z = 0 then threeV x y z else 0

set_option maxHeartbeats 2000000 in
theorem l7Three_any (x y z : Int) (w : World) : Calls Try.prog 74 #[.agg #[.int .i64 x, .int .i64 y], .int .i64 z] w (Ans w (.int .i64 (threeV x y z))) := by
  by_cases h1 : y ≤ z
  · have hv : Hid (threeV x y z = 1) := by unfold threeV; exact if_pos h1
    go_enter Try.func74, Try.ntmps74
    go_wp2
    go_ret
    exact ⟨by rw [hv.out]; rfl, (Kept.refl _ _).alloc _⟩
  · by_cases h2 : z < x
    · have hv : Hid (threeV x y z = 2) := by unfold threeV; rw [if_neg h1, if_pos h2]; exact rfl
      go_enter Try.func74, Try.ntmps74
      go_wp2
      go_ret
      exact ⟨by rw [hv.out]; rfl, (Kept.refl _ _).alloc _⟩
    · have hv : Hid (threeV x y z = 3) := by unfold threeV; rw [if_neg h1, if_neg h2]; exact rfl
      go_enter Try.func74, Try.ntmps74
      go_wp2
      go_ret
      exact ⟨by rw [hv.out]; rfl, (Kept.refl _ _).alloc _⟩

theorem threeOf_form {x y z : Int} (h : y < x) : threeC x y z = 1 ∧ threeW x y z = 0 := by
  have : threeC x y z = 1 := by unfold threeC; exact if_pos h
  exact ⟨this, by unfold threeW; rw [this]; exact rfl⟩
theorem threeOf_range {x y z : Int} (h : ¬ y < x) (hf : farOk z = false) : threeC x y z = 3 ∧ threeW x y z = 0 := by
  have : threeC x y z = 3 := by unfold threeC; rw [if_neg h, hf]; exact rfl
  exact ⟨this, by unfold threeW; rw [this]; exact rfl⟩
theorem threeOf_ok {x y z : Int} (h : ¬ y < x) (hf : farOk z = true) : threeC x y z = 0 ∧ threeW x y z = threeV x y z := by
  have : threeC x y z = 0 := by unfold threeC; rw [if_neg h, hf]; exact rfl
  exact ⟨this, by unfold threeW; rw [this]; exact rfl⟩


theorem two_cells {w w1 : World} (x y : Int) (hk : Kept [] ((w.alloc (.cells #[.int .i64 x, .int .i64 y] 50)).alloc (.cells #[.int .i64 0, .int .i64 0] 36)) w1) :
    (w1.cell? ⟨w.heap.size, 0, none⟩ = some (.int .i64 x) ∧ w1.cell? ⟨w.heap.size, 1, none⟩ = some (.int .i64 y)) ∧
    w1.cell? ⟨w.heap.size + 1, 0, none⟩ = some (.int .i64 0) ∧ w1.cell? ⟨w.heap.size + 1, 1, none⟩ = some (.int .i64 0) ∧ w1.frozen? ⟨w.heap.size + 1, 0, none⟩ = false ∧ w1.frozen? ⟨w.heap.size + 1, 1, none⟩ = false ∧ w.heap.size + 2 ≤ w1.heap.size :=
  ⟨⟨(hk.peel.top (g := w.heap.size) (by simp) (by simp) 0 (v := .int .i64 x) rfl).1, (hk.peel.top (g := w.heap.size) (by simp) (by simp) 1 (v := .int .i64 y) rfl).1⟩,
   (hk.top (g := w.heap.size + 1) (by simp) (by simp) 0 (v := .int .i64 0) rfl).1, (hk.top (g := w.heap.size + 1) (by simp) (by simp) 1 (v := .int .i64 0) rfl).1,
   (hk.top (g := w.heap.size + 1) (by simp) (by simp) 0 (v := .int .i64 0) rfl).2.1, (hk.top (g := w.heap.size + 1) (by simp) (by simp) 1 (v := .int .i64 0) rfl).2.1, by have := hk.size; simpa using this⟩

theorem two_fin {w w1 : World} {x y : Int} (u v : Int) (hk : Kept [] ((w.alloc (.cells #[.int .i64 x, .int .i64 y] 50)).alloc (.cells #[.int .i64 0, .int .i64 0] 36)) w1) :
    Kept [] w ((w1.setCell ⟨w.heap.size + 1, 0, none⟩ (.int .i64 u)).setCell ⟨w.heap.size + 1, 1, none⟩ (.int .i64 v)) :=
  (hk.peel.peel.setCell _ _ (by simp)).setCell _ _ (by simp)

set_option maxHeartbeats 4000000 in
theorem sThreeOf_any (x y z : Int) (w : World) : Calls Try.prog 36 #[.agg #[.int .i64 x, .int .i64 y], .int .i64 z] w (Ans w (.agg #[.int .i64 (threeC x y z), .int .i64 (threeW x y z)])) := by
  by_cases h1 : y < x
  · have hv := Lib.hid (threeOf_form (z := z) h1)
    go_enter Try.func36, Try.ntmps36
    go_wp2_with fail
    refine bodyPost_ret (v := .agg #[.int .i64 (1), .int .i64 (0)]) (by simp [results, Try.results36, go_sem]) rfl ⟨by rw [hv.out.1, hv.out.2], ?_⟩
    exact ((Kept.refl _ _).alloc _).alloc _
  · obtain ⟨b, hb⟩ : ∃ b, farOk z = b := ⟨_, rfl⟩
    cases b
    · have hv := Lib.hid (threeOf_range h1 hb)
      have HB := Lib.hid hb
      clear hb
      go_enter Try.func36, Try.ntmps36
      go_wp2_with fail
      refine (l7Far_any _ _).mono ?_
      rintro e w1 ⟨rfl, hk⟩
      rw [HB.out]
      obtain ⟨⟨c0, c1⟩, d0, d1, e0, e1, z1⟩ := two_cells x y hk
      have HK := Lib.hid hk
      clear hk
      go_wp2_with fail
      obtain ⟨_, s0, s1⟩ := cells2 (.int .i64 3) (.int .i64 0) d0 d1
      refine bodyPost_ret (v := .agg #[.int .i64 3, .int .i64 0]) (by simp [results, Try.results36, go_sem, s0, s1]) rfl ⟨by rw [hv.out.1, hv.out.2], ?_⟩
      exact two_fin _ _ HK.out
    · have hv := Lib.hid (threeOf_ok h1 hb)
      have HB := Lib.hid hb
      clear hb
      obtain ⟨t, ht⟩ : ∃ t, t = threeV x y z := ⟨_, rfl⟩
      have HT := Lib.hid ht
      clear ht
      go_enter Try.func36, Try.ntmps36
      go_wp2_with fail
      refine (l7Far_any _ _).mono ?_
      rintro e w1 ⟨rfl, hk⟩
      rw [HB.out]
      obtain ⟨⟨c0, c1⟩, d0, d1, e0, e1, z1⟩ := two_cells x y hk
      have HK := Lib.hid hk
      clear hk
      go_wp2_with fail
      refine (l7Three_any _ _ _ _).mono ?_
      rintro e w2 ⟨rfl, hk⟩
      obtain ⟨_, d0, d1, e0, e1, z2⟩ := two_cells x y (HK.out.trans0 hk)
      have K2 := Lib.hid (HK.out.trans0 hk)
      clear hk HK
      rw [← HT.out]
      go_wp2_with fail
      obtain ⟨_, s0, s1⟩ := cells2 (.int .i64 0) (.int .i64 t) d0 d1
      refine bodyPost_ret (v := .agg #[.int .i64 0, .int .i64 t]) (by simp [results, Try.results36, go_sem, s0, s1]) rfl ⟨by rw [hv.out.1, hv.out.2, ← HT.out], ?_⟩
      exact two_fin _ _ K2.out

set_option maxHeartbeats 4000000 in
theorem ThreeOf_any (x y z : Int) (w : World) : Calls Try.prog 38 #[.agg #[.int .i64 x, .int .i64 y], .int .i64 z] w (Ans w (.agg #[.int .i64 (threeC x y z), .int .i64 (threeW x y z)])) := by
  by_cases h1 : y < x
  · have hv := Lib.hid (threeOf_form (z := z) h1)
    go_enter Try.func38, Try.ntmps38
    go_wp2_with fail
    refine bodyPost_ret (v := .agg #[.int .i64 (1), .int .i64 (0)]) (by simp [results, Try.results38, go_sem]) rfl ⟨by rw [hv.out.1, hv.out.2], ?_⟩
    exact ((Kept.refl _ _).alloc _).alloc _
  · obtain ⟨b, hb⟩ : ∃ b, farOk z = b := ⟨_, rfl⟩
    cases b
    · have hv := Lib.hid (threeOf_range h1 hb)
      have HB := Lib.hid hb
      clear hb
      go_enter Try.func38, Try.ntmps38
      go_wp2_with fail
      refine (isFar_any _ _).mono ?_
      rintro e w1 ⟨rfl, hk⟩
      rw [HB.out]
      obtain ⟨⟨c0, c1⟩, d0, d1, e0, e1, z1⟩ := two_cells x y hk
      have HK := Lib.hid hk
      clear hk
      go_wp2_with fail
      obtain ⟨_, s0, s1⟩ := cells2 (.int .i64 3) (.int .i64 0) d0 d1
      refine bodyPost_ret (v := .agg #[.int .i64 3, .int .i64 0]) (by simp [results, Try.results38, go_sem, s0, s1]) rfl ⟨by rw [hv.out.1, hv.out.2], ?_⟩
      exact two_fin _ _ HK.out
    · have hv := Lib.hid (threeOf_ok h1 hb)
      have HB := Lib.hid hb
      clear hb
      by_cases h2 : y ≤ z
      · have ht : Hid (threeV x y z = 1) := by unfold threeV; exact if_pos h2
        go_enter Try.func38, Try.ntmps38
        go_wp2_with fail
        refine (isFar_any _ _).mono ?_
        rintro e w1 ⟨rfl, hk⟩
        rw [HB.out]
        obtain ⟨⟨c0, c1⟩, d0, d1, e0, e1, z1⟩ := two_cells x y hk
        have HK := Lib.hid hk
        clear hk
        go_wp2_with fail
        obtain ⟨_, s0, s1⟩ := cells2 (.int .i64 0) (.int .i64 1) d0 d1
        refine bodyPost_ret (v := .agg #[.int .i64 0, .int .i64 1]) (by simp [results, Try.results38, go_sem, s0, s1]) rfl ⟨by rw [hv.out.1, hv.out.2, ht.out], ?_⟩
        exact two_fin _ _ HK.out
      · by_cases h3 : z < x
        · have ht : Hid (threeV x y z = 2) := by unfold threeV; rw [if_neg h2, if_pos h3]; exact rfl
          go_enter Try.func38, Try.ntmps38
          go_wp2_with fail
          refine (isFar_any _ _).mono ?_
          rintro e w1 ⟨rfl, hk⟩
          rw [HB.out]
          obtain ⟨⟨c0, c1⟩, d0, d1, e0, e1, z1⟩ := two_cells x y hk
          have HK := Lib.hid hk
          clear hk
          go_wp2_with fail
          obtain ⟨_, s0, s1⟩ := cells2 (.int .i64 0) (.int .i64 2) d0 d1
          refine bodyPost_ret (v := .agg #[.int .i64 0, .int .i64 2]) (by simp [results, Try.results38, go_sem, s0, s1]) rfl ⟨by rw [hv.out.1, hv.out.2, ht.out], ?_⟩
          exact two_fin _ _ HK.out
        · have ht : Hid (threeV x y z = 3) := by unfold threeV; rw [if_neg h2, if_neg h3]; exact rfl
          go_enter Try.func38, Try.ntmps38
          go_wp2_with fail
          refine (isFar_any _ _).mono ?_
          rintro e w1 ⟨rfl, hk⟩
          rw [HB.out]
          obtain ⟨⟨c0, c1⟩, d0, d1, e0, e1, z1⟩ := two_cells x y hk
          have HK := Lib.hid hk
          clear hk
          go_wp2_with fail
          obtain ⟨_, s0, s1⟩ := cells2 (.int .i64 0) (.int .i64 3) d0 d1
          refine bodyPost_ret (v := .agg #[.int .i64 0, .int .i64 3]) (by simp [results, Try.results38, go_sem, s0, s1]) rfl ⟨by rw [hv.out.1, hv.out.2, ht.out], ?_⟩
          exact two_fin _ _ HK.out

/-- The texts of the answers. -/
def askT (x : Int) : ByteArray := if x = 1 then ⟨#[121, 101, 115]⟩ else if x = 2 then ⟨#[110, 111]⟩ else if x = 3 then ⟨#[117, 110, 107, 110, 111, 119, 110]⟩ else ⟨#[]⟩
def askC (x : Int) : Int := if x = 1 ∨ x = 2 ∨ x = 3 then 0 else 3
theorem ask_else {x : Int} (h1 : ¬ x = 1) (h2 : ¬ x = 2) (h3 : ¬ x = 3) : askC x = 3 ∧ askT x = ⟨#[]⟩ := by
  unfold askC askT
  rw [if_neg h1, if_neg h2, if_neg h3, if_neg (by omega)]
  exact ⟨rfl, rfl⟩

set_option maxHeartbeats 4000000 in
theorem sAskText_any (x : Int) (w : World) : Calls Try.prog 40 #[.int .i64 x] w (Ans w (.agg #[.int .i64 (askC x), .string (askT x)])) := by
  by_cases h1 : x = 1
  · subst h1
    go_enter Try.func40, Try.ntmps40
    go_wp2_with fail
    refine bodyPost_ret (v := .agg #[.int .i64 0, .string ⟨#[121, 101, 115]⟩]) (by simp [results, Try.results40, go_sem]) rfl ⟨rfl, ?_⟩
    exact (Kept.refl _ _).alloc _
  · by_cases h2 : x = 2
    · subst h2
      clear h1
      go_enter Try.func40, Try.ntmps40
      go_wp2_with fail
      refine bodyPost_ret (v := .agg #[.int .i64 0, .string ⟨#[110, 111]⟩]) (by simp [results, Try.results40, go_sem]) rfl ⟨rfl, ?_⟩
      exact (Kept.refl _ _).alloc _
    · by_cases h3 : x = 3
      · subst h3
        clear h1 h2
        go_enter Try.func40, Try.ntmps40
        go_wp2_with fail
        refine bodyPost_ret (v := .agg #[.int .i64 0, .string ⟨#[117, 110, 107, 110, 111, 119, 110]⟩]) (by simp [results, Try.results40, go_sem]) rfl ⟨rfl, ?_⟩
        exact (Kept.refl _ _).alloc _
      · have hv := Lib.hid (ask_else h1 h2 h3)
        go_enter Try.func40, Try.ntmps40
        go_wp2_with fail
        refine bodyPost_ret (v := .agg #[.int .i64 3, .string ⟨#[]⟩]) (by simp [results, Try.results40, go_sem]) rfl ⟨by rw [hv.out.1, hv.out.2], ?_⟩
        exact (Kept.refl _ _).alloc _

set_option maxHeartbeats 4000000 in
theorem AskText_any (x : Int) (w : World) : Calls Try.prog 41 #[.int .i64 x] w (Ans w (.agg #[.int .i64 (askC x), .string (askT x)])) := by
  by_cases h1 : x = 1
  · subst h1
    go_enter Try.func41, Try.ntmps41
    go_wp2_with fail
    refine bodyPost_ret (v := .agg #[.int .i64 0, .string ⟨#[121, 101, 115]⟩]) (by simp [results, Try.results41, go_sem]) rfl ⟨rfl, ?_⟩
    exact (Kept.refl _ _).alloc _
  · by_cases h2 : x = 2
    · subst h2
      clear h1
      go_enter Try.func41, Try.ntmps41
      go_wp2_with fail
      refine bodyPost_ret (v := .agg #[.int .i64 0, .string ⟨#[110, 111]⟩]) (by simp [results, Try.results41, go_sem]) rfl ⟨rfl, ?_⟩
      exact (Kept.refl _ _).alloc _
    · by_cases h3 : x = 3
      · subst h3
        clear h1 h2
        go_enter Try.func41, Try.ntmps41
        go_wp2_with fail
        refine bodyPost_ret (v := .agg #[.int .i64 0, .string ⟨#[117, 110, 107, 110, 111, 119, 110]⟩]) (by simp [results, Try.results41, go_sem]) rfl ⟨rfl, ?_⟩
        exact (Kept.refl _ _).alloc _
      · have hv := Lib.hid (ask_else h1 h2 h3)
        go_enter Try.func41, Try.ntmps41
        go_wp2_with fail
        refine bodyPost_ret (v := .agg #[.int .i64 3, .string ⟨#[]⟩]) (by simp [results, Try.results41, go_sem]) rfl ⟨by rw [hv.out.1, hv.out.2], ?_⟩
        exact (Kept.refl _ _).alloc _

end Go.Proofs.Ytledbpiaipmgkaa
