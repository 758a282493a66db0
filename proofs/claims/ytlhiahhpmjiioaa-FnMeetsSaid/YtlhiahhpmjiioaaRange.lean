/-
  A range over a function whose rounds are always gone through: one law for the caller, told by what the iterator does. No condition but those that it names.
-/
import Derived.RangeFuncNested
import Derived.RangeFuncBound
import Derived.RangeFuncCalls
import Derived.RangeFuncLeaves
import Derived.Shelf.Abstract
import Derived.Shelf.RegionOpen
import Derived.WalkKit
import Derived.OwnWalkIn
import Derived.TacticsInMore
import Derived.LoopNIn
import Derived.LoopIn
import Derived.OrdersHeld
import Derived.Test.YtlhiahhpmjiioaaJ1
namespace Go.Proofs.Ytlhiahhpmjiioaa
open Go.RowKit Go.Shelf

theorem rowsIn_wide {n : Nat} {P : Program} {row : String} {args : Array Value} {w : World} {R : Value → World → Prop} (h : Rows P row args w R) : RowsIn Fence.wide n P row args w R :=
  fun c cs _ => let ⟨v, w', r, s⟩ := h c cs; ⟨v, w', r, stepsIn_wide.2 s⟩

/-- In a round, where every function may be called, operations that defer nothing do what they do elsewhere. -/
theorem opsIn_round {n l : Nat} {P : Program} {ops : Array Oper} {Q : Exit → Act → World → Prop} (hnd : ∀ (i : Nat) (o : Oper) c, ops[i]? = some o → o.op ≠ .defer c) (hlo : ¬ LetsOut Q) :
    ∀ (is : List Nat) (a : Act) (w : World), wpOps P ops Q is a w → wpOpsIn (Fence.wide.inRound l) n P ops Q is a w
  | [], _, _, h => h
  | i :: rest, a, w, h => by
    have ih := opsIn_round (n := n) (l := l) (P := P) (Q := Q) hnd hlo rest
    unfold wpOps at h
    unfold wpOpsIn
    cases ho : ops[i]? with
    | none => rw [ho] at h; exact ih _ _ h
    | some o =>
      rw [ho] at h
      dsimp only at h ⊢
      by_cases hw : Region.wanted o (yielded ops a.tmps) = true
      · rw [if_pos hw] at h ⊢
        rcases h with h | ⟨_, h⟩
        · refine ⟨fun _ _ => trivial, ?_⟩
          rw [show (Fence.wide.inRound l).round = some l from rfl, Oper.semAt_some _ _ _ (fun c => hnd i o c ho)]
          unfold Oper.wp at h
          generalize (execOp a.eval o).run P w = r at h
          cases r with
          | ok nx w' =>
            cases nx with
            | value v => exact ih _ _ h
            | skip => exact ih _ _ h
            | defer d => exact ih _ _ h
            | enter f args =>
              refine ⟨fun hd => by simp [Fence.wide] at hd, ?_⟩
              refine CallsIn.inRound l (callsIn_wide.2 (Calls.mono h fun e w'' he => ?_))
              cases e with
              | returned v => exact ih _ _ he
              | panicked c => exact he
              | outgrown => exact he
            | row row args =>
              refine ⟨fun hd => by simp [Fence.wide] at hd, ?_⟩
              exact rowsIn_wide (Rows.mono h fun v w'' he => ih _ _ he)
            | _ => exact h.elim
          | halt x w' => cases x <;> first | exact h | exact h.elim
        · exact absurd h hlo
      · rw [if_neg hw] at h ⊢
        exact ⟨fun _ _ => trivial, ih _ _ h⟩

/-- A region that draws its order, in a round: as elsewhere. -/
theorem region_round {n l id : Nat} {P : Program} {ops : Array Oper} {Q : Exit → Act → World → Prop} {a : Act} {w : World} (S : World → Prop) (hm : P.follows .mixedOrders = true)
    (hnd : (ops.all fun o => match o.op with | .defer _ => false | _ => true) = true) (hlo : ¬ LetsOut Q)
    (h : wpAnyH P .any ops Q S ops.size (Array.replicate ops.size false) a w.drew) : (Code.region id ops true).wpIn (Fence.wide.inRound l) n P Q a w := by
  refine wpIn_region_draw fun t => ?_
  simp only [Region.schedule, hm, Bool.true_or, if_true]
  refine opsIn_round (fun i o c ho hd => ?_) hlo _ _ _ (wpAny_sound ops.size t _ a _ (wpAny_of_held _ _ _ _ h))
  have := Array.all_eq_true'.1 hnd o (Array.mem_of_getElem? ho)
  rw [hd] at this
  cases this

/-- An operation of a region that yields v in slot d may be taken first. -/
theorem take_d {P : Program} {md : Region.Mode} {ops : Array Oper} {Q : Exit → Act → World → Prop} {S : World → Prop} {i d : Nat} {oi : Oper} {v : Value} {fuel : Nat} {listed : Array Bool} {a : Act} {w : World} (hi : ops[i]? = some oi) (hd : oi.dst = some d)
    (hs : Region.noSelect ops = true) (hf : Region.free md ops listed i = true) (hr : (Region.ready md ops listed).contains i = true)
    (hQ : ∀ c a w, Q (.panic c) (a.put oi.dst v) w → Q (.panic c) a w) (hw : Region.wanted oi (yielded ops a.tmps) = true) (hy : ∀ w, S w → (execOp a.eval oi).run P w = .ok (.value v) w) (hS : S w)
    (h : wpAnyH P md ops Q S fuel (listed.setIfInBounds i true) { tmps := a.tmps.setIfInBounds d v, defers := a.defers } w) : wpAnyH P md ops Q S (fuel + 1) listed a w :=
  wpAnyH_take hi hs hf hr hQ (Or.inl ⟨hw, hy⟩) hS (by rw [hd]; exact h)

theorem kept_putObj {w : World} {l : Nat} {o : Obj} : Kept [l] w (w.putObj l o) :=
  ⟨rfl, rfl, rfl, by simp, fun i _ hi => World.putObj_heap_other (by simpa using hi)⟩

/-- **for x := range g { .. }**, where no round leaves the loop. I j: what the caller knows when j rounds are over; V j x: what a round is told of what it is handed. -/
theorem range_law {P : Program} {g : Operand} {ps : Array Tmp} {assign body : Code} {Q : Exit → Act → World → Prop} {a : Act} {w : World} {gf : Nat} {lb : Array Value}
    (hg : a.eval g = .func (.func gf) #[] lb) (eg : Enters P gf) {α : Type} {encs : α → Array Value} (hps : ∀ x, (encs x).size = ps.size)
    (M : List Nat) (hM : ∀ x, x ∈ M → x < w.heap.size) (V : Nat → α → World → Prop) (N : Nat) (I : Nat → World → Prop)
    (hI : ∀ j A B L, I j A → Kept L A B → (∀ x, x ∈ L → w.heap.size ≤ x ∧ x ≤ w.heap.size + 2) → w.heap.size ≤ A.heap.size → I j B)
    (hiter : ∀ (l : Nat) (J : Nat → World → Prop) (W : World), Kept [] w W → l < W.heap.size → w.heap.size ≤ l → W.heap.size = w.heap.size + 2 →
      (∀ j A B L, J j A → Kept L A B → (∀ x, x ∈ L → x = W.heap.size) → W.heap.size ≤ A.heap.size → J j B) →
      (∀ j x W1, j < N → J j W1 → V j x W1 → W.heap.size ≤ W1.heap.size → YieldAt Fence.wide 0 P l (encs x) W1 fun e W' => e = .returned (.bool true) ∧ J (j + 1) W' ∧ Kept (l :: M) W1 W') →
      J 0 W → CallsIn Fence.wide 0 P gf (#[.func (.yield l) #[] #[]] ++ lb) W fun e W' => (∃ v, e = .returned v) ∧ J N W' ∧ W.heap.size ≤ W'.heap.size)
    (h0 : I 0 w)
    (hround : ∀ (l j : Nat) (x : α) (W : World), l = w.heap.size + 1 → l < W.heap.size → j < N → I j W → V j x W →
      assign.wpIn (Fence.wide.inRound l) 0 P (Exit.then (fun a₁ W₁ => Kept [] W W₁ ∧ ∀ W₂, Kept [l] W₁ W₂ →
        body.wpIn (Fence.wide.inRound l) 0 P (fun e _ W₃ => e = .normal ∧ Kept M W₂ W₃ ∧ I (j + 1) W₃) a₁ W₂) (fun _ _ _ => False))
        { tmps := (ps.zip (encs x)).foldl (fun t (p, v) => t.setIfInBounds p v) a.tmps, defers := [] } W)
    (hdone : ∀ (D : Nat) (W : World), w.heap.size ≤ D → I N W → w.heap.size ≤ W.heap.size → W.heap[D]? = some (.deferred (some [])) → Q .normal { a with defers := { target := .collected D, args := #[] } :: a.defers } W) :
    (Code.rangeFunc g ps assign body).wpIn Fence.wide 0 P Q a w := by
  refine wpIn_rangeFunc ?_
  intro fn _
  obtain ⟨rc, hrc⟩ : ∃ rc : LoopState → Loop, rc = fun st => { state := st, pending := none, fn, tmps := a.tmps, params := ps, assign, body, defers := w.heap.size } := ⟨_, rfl⟩
  obtain ⟨W1, hW1⟩ : ∃ W1, (w.alloc (.deferred (some []))).alloc (.loop (rc .ready)) = W1 := ⟨_, rfl⟩
  have hz : W1.heap.size = w.heap.size + 1 + 1 := by rw [← hW1]; simp
  have hk1 : Kept [] w W1 := by rw [← hW1]; exact ((Kept.refl [] w).alloc _).alloc _
  have hl1 : W1.heap[w.heap.size + 1]? = some (.loop (rc .ready)) := by
    rw [← hW1]; have h := World.alloc_heap_new (w.alloc (.deferred (some []))) (.loop (rc .ready)); rwa [World.size_alloc] at h
  have hd1 : W1.heap[w.heap.size]? = some (.deferred (some [])) := by
    rw [← hW1]; exact (((Kept.refl [] (w.alloc (.deferred (some [])))).alloc _).block _ (by simp) (by simp)).trans (World.alloc_heap_new w _)
  refine ⟨w.heap.size + 1, [{ target := .collected w.heap.size, args := #[] }], W1, { target := .fn (.func gf) lb, args := #[.func (.yield (w.heap.size + 1)) #[] #[]] }, W1, gf,
    #[.func (.yield (w.heap.size + 1)) #[] #[]] ++ lb, W1, ?_, ?_, fun _ _ => trivial, ?_, fun hd => by simp [Fence.wide] at hd, ?_⟩
  · rw [← hW1, hrc]; exact run_enterLoop_outer _ _ _ _ _
  · simp only [resolve, hg]
    simp [go_sem]
  · have eg' : ∀ args w, (callFunc gf args).run P w = .ok (.enter gf args) w := eg
    simp [invoke, go_sem, eg']
  · refine (hiter (w.heap.size + 1) (fun j W => I j W ∧ W.heap[w.heap.size + 1]? = some (.loop (rc .ready)) ∧ W.heap[w.heap.size]? = some (.deferred (some []))) W1 hk1 (by omega) (by omega) hz ?_ ?_
      ⟨hI _ _ _ [] h0 hk1 (fun x hx => by cases hx) (Nat.le_refl _), hl1, hd1⟩).mono ?_
    · rintro j A B L ⟨hi, hl, hd⟩ hk hL hA
      have h1 : w.heap.size + 1 ∉ L := fun h => by have := hL _ h; omega
      have h2 : w.heap.size ∉ L := fun h => by have := hL _ h; omega
      exact ⟨hI j A B L hi hk (fun x hx => by have := hL x hx; exact ⟨by omega, by omega⟩) (by omega), (hk.block _ (by omega) h1).trans hl, (hk.block _ (by omega) h2).trans hd⟩
    · rintro j x W hj ⟨hi, hl, hd⟩ hv hWz
      have hy := run_yield (P := P) (args := encs x) hl (by rw [hrc]; exact hps x)
      rw [hrc] at hy
      refine ⟨fn, _, assign, body, hy, roundIn_of_wpIn trivial (wpIn_mono (hround (w.heap.size + 1) j x W rfl (by omega) hj hi hv) ?_)⟩
      intro e a₁ W₁ hp
      cases e with
      | normal =>
        obtain ⟨hka, hbd⟩ := hp
        have hsa := hka.size
        have hla : W₁.heap[w.heap.size + 1]? = some (.loop (rc .ready)) := (hka.block _ (by omega) (by simp)).trans hl
        have hda : W₁.heap[w.heap.size]? = some (.deferred (some [])) := (hka.block _ (by omega) (by simp)).trans hd
        have hlb : (W₁.putObj (w.heap.size + 1) (.loop { rc .ready with state := .busy })).heap[w.heap.size + 1]? = some (.loop { rc .ready with state := .busy }) := World.putObj_heap_same (by omega)
        have hdb : (W₁.putObj (w.heap.size + 1) (.loop { rc .ready with state := .busy })).heap[w.heap.size]? = some (.deferred (some [])) := (World.putObj_heap_other (by omega)).trans hda
        refine ⟨_, run_beginRound hla (by rw [hrc]), wpIn_mono (hbd _ kept_putObj) ?_⟩
        rintro e a₃ W₃ ⟨rfl, hkb, hib⟩
        have hn1 : w.heap.size + 1 ∉ M := fun h => by have := hM _ h; omega
        have hn2 : w.heap.size ∉ M := fun h => by have := hM _ h; omega
        have hsb := hkb.size
        simp only [World.putObj_size] at hsb
        have hlc : W₃.heap[w.heap.size + 1]? = some (.loop { rc .ready with state := .busy }) := (hkb.block _ (by simp; omega) hn1).trans hlb
        have hdc : W₃.heap[w.heap.size]? = some (.deferred (some [])) := (hkb.block _ (by simp; omega) hn2).trans hdb
        have hre := run_endRound (P := P) none hlc
        have e1 : ({ rc .ready with state := .busy, pending := none } : Loop) = { rc .ready with state := .busy } := by rw [hrc]
        refine ⟨_, _, hre, rfl, ⟨hI _ _ _ [w.heap.size + 1] hib kept_putObj (fun x hx => by simp at hx; exact ⟨by omega, by omega⟩) (by omega), ?_, (World.putObj_heap_other (by omega)).trans hdc⟩, ?_⟩
        · rw [World.putObj_heap_same (by omega)]; rw [hrc]; rfl
        · have k1 : Kept ((w.heap.size + 1) :: M) W W₁ := hka.mono (fun x hx _ => by cases hx)
          have k2 := k1.trans (kept_putObj (l := w.heap.size + 1) (o := .loop { rc .ready with state := .busy })) (fun x hx _ => by simp at hx; simp [hx])
          have k3 := k2.trans hkb (fun x hx _ => List.mem_cons_of_mem _ hx)
          exact k3.trans kept_putObj (fun x hx _ => by simp at hx; simp [hx])
      | exit id => exact hp.elim
      | goto t => exact hp.elim
      | ret => exact hp.elim
      | panic c => exact hp.elim
      | outgrown => exact hp.elim
    · rintro e W2 ⟨⟨v, rfl⟩, ⟨hi, hl, hd⟩, hsz⟩
      have h := run_endLoop (P := P) hl (by rw [hrc]; simp)
      have hp : (rc .ready).pending = none := by rw [hrc]
      rw [hp] at h
      exact ⟨none, _, h, hdone w.heap.size _ (Nat.le_refl _) (hI _ _ _ [w.heap.size + 1] hi kept_putObj (fun x hx => by simp at hx; exact ⟨by omega, by omega⟩) (by omega)) (by simp; omega) ((World.putObj_heap_other (by omega)).trans hd)⟩

end Go.Proofs.Ytlhiahhpmjiioaa
