/-
  A map of shapes by their names, as what it tells under each name. Condition: the names are no longer than a text can be.
-/
import Derived.Maps.OwnSet
import Derived.Sort.KeysCollected
import Derived.StringKeys
import Derived.Test.YtbljpeefekhoeabStoP
namespace Go.Proofs.Ytbljpeefekhoeab
open Go.RowKit

/-- What a map of shapes holds reads as itself. -/
def mapR (v : Value) : Option (DataW Value × List MemPlace) := some (.held v, [])
/-- Block b is a map of at most n entries, which tells f. -/
def MapF (w : World) (b n : Nat) (f : List UInt8 → Option Value) : Prop :=
  ∃ D : DataW Value, w.ownsMap Try.prog 9 mapR b n D ∧ ∀ x, Maps.has D (.string x) = (f x).isSome ∧ ∀ zd, D.atKey (.string x) zd = match f x with | some v => .held v | none => zd
theorem MapF.lt {w : World} {b n : Nat} {f : List UInt8 → Option Value} (h : MapF w b n f) : b < w.heap.size := by
  obtain ⟨D, h, _⟩ := h; exact h.lt
theorem MapF.made {w : World} {g : Nat} (hg : w.heap.size = g) : MapF (w.alloc (.map #[] 0)) g 0 (fun _ => none) := by
  subst hg
  refine ⟨.map [], World.ownsMap_made w _ _ _, fun x => ?_⟩
  have hh : Maps.has (DataW.map ([] : List (Lit × DataW Value))) (.string x) = false := rfl
  exact ⟨hh, fun zd => Maps.atKey_of_not_has hh zd⟩
theorem MapF.kept {L : List Nat} {w w' : World} {b n : Nat} {f : List UInt8 → Option Value} (h : MapF w b n f) (k : Kept L w w') (hL : b ∉ L) : MapF w' b n f := by
  have hlt := h.lt
  obtain ⟨D, ⟨es, clock, hb, F, hs, hD⟩, h2⟩ := h
  exact ⟨D, ⟨es, clock, by rw [k.block b hlt hL]; exact hb, F, hs, hD⟩, h2⟩
theorem MapF.kept0 {w w' : World} {b n : Nat} {f : List UInt8 → Option Value} (h : MapF w b n f) (k : Kept [] w w') : MapF w' b n f := h.kept k (by simp)
theorem MapF.congr {w : World} {b n : Nat} {f g : List UInt8 → Option Value} (h : MapF w b n f) (e : ∀ x, f x = g x) : MapF w b n g := by
  have : f = g := funext e
  rw [← this]; exact h

theorem keyedStr : Maps.Keyed Try.prog 9 := Maps.string_keyed Try.underlying9
theorem keyStr {l : List UInt8} (h : l.length ≤ 1048576) : keyOf Try.prog 9 (.string (strB l)) = some (.string l) :=
  WideMaps.keyOf_string_mk Try.underlying9 (s := strB l) (by rw [strB_size]; unfold maxLen; omega)

def putF (f : List UInt8 → Option Value) (nm : List UInt8) (v : Value) : List UInt8 → Option Value := fun x => if x = nm then some v else f x
def delF (f : List UInt8 → Option Value) (nm : List UInt8) : List UInt8 → Option Value := fun x => if x = nm then none else f x
theorem kept_map {w w' : World} {b : Nat} (h : w.grownBy w' (some b)) : Kept [b] w w' := (Kept.refl _ w).grown h (fun k hk _ => by simp at hk; simp [hk])

theorem wpPut (w : World) {ops : Array Oper} {rest : List Oper} {o : Oper} {a : Act} {Q : Exit → Act → World → Prop} (hg : o.guard = none) (m x v : Operand) (hop : o.op = Op.mapUpdate 57 m x v)
    {b n : Nat} {f : List UInt8 → Option Value} (hm : a.eval m = .map (some b)) (h : MapF w b n f) (hn : n ≤ 1048576) {nm : List UInt8} (hl : nm.length ≤ 1048576) {val : Value} (hx : a.eval x = .string (strB nm)) (hv : a.eval v = val)
    (hK : ∀ w', MapF w' b (n + 1) (putF f nm val) → Kept [b] w w' → wpList Try.prog ops Q rest (a.put o.dst undef) w') :
    wpList Try.prog ops Q (o :: rest) a w := by
  obtain ⟨D, hD, hf⟩ := h
  refine wpList_mapUpdate_own w hg m x v _ hop 9 29 keyedStr Try.underlying57 mapR b n D hm hD (by unfold maxLen; omega) _ val (.string nm) hx hv (keyStr hl) (.held val) [] rfl ?_
  intro w' h1 h2
  refine hK w' ⟨D.put (.string nm) (.held val), h1, fun y => ?_⟩ (kept_map h2)
  unfold putF
  by_cases he : y = nm
  · subst he
    rw [if_pos rfl]
    exact ⟨Maps.has_put_same hD.isMap (by trivial) _, fun zd => Maps.atKey_put_same hD.isMap (by trivial) _ zd⟩
  · rw [if_neg he]
    have hne : (Lit.string y) ≠ .string nm := by simpa using he
    exact ⟨by rw [Maps.has_put_other hne]; exact (hf y).1, fun zd => by rw [Maps.atKey_put_other hne]; exact (hf y).2 zd⟩

theorem wpDel (w : World) {ops : Array Oper} {rest : List Oper} {o : Oper} {a : Act} {Q : Exit → Act → World → Prop} (hg : o.guard = none) (m x : Operand) (hop : o.op = Op.call { callee := Callee.builtin Builtin.delete, args := #[m, x], argTypes := #[57, 9] })
    {b n : Nat} {f : List UInt8 → Option Value} (hm : a.eval m = .map (some b)) (h : MapF w b n f) {nm : List UInt8} (hl : nm.length ≤ 1048576) (hx : a.eval x = .string (strB nm))
    (hK : ∀ w', MapF w' b n (delF f nm) → Kept [b] w w' → wpList Try.prog ops Q rest (a.put o.dst (.tuple #[])) w') :
    wpList Try.prog ops Q (o :: rest) a w := by
  obtain ⟨D, hD, hf⟩ := h
  refine wpList_delete_own w hg m x _ 9 hop 29 keyedStr Try.underlying57 mapR b n D hm hD _ (.string nm) hx (keyStr hl) ?_
  intro w' h1 h2
  refine hK w' ⟨D.del (.string nm), h1, fun y => ?_⟩ (kept_map h2.grown)
  unfold delF
  by_cases he : y = nm
  · subst he
    rw [if_pos rfl]
    exact ⟨Maps.has_del_same, fun zd => Maps.atKey_del_same zd⟩
  · rw [if_neg he]
    have hne : (Lit.string y) ≠ .string nm := by simpa using he
    exact ⟨by rw [Maps.has_del_other hne]; exact (hf y).1, fun zd => by rw [Maps.atKey_del_other hne]; exact (hf y).2 zd⟩

theorem zeroShp (w : World) : (zeroValue 29).run Try.prog w = .ok (.agg #[.int .i64 0, .slice none 0 0]) w := by kernel_rfl

theorem wpGet (w : World) {ops : Array Oper} {rest : List Oper} {o : Oper} {a : Act} {Q : Exit → Act → World → Prop} (hg : o.guard = none) (m x : Operand) (hop : o.op = Op.lookup 57 m x true)
    {b n : Nat} {f : List UInt8 → Option Value} (hm : a.eval m = .map (some b)) (h : MapF w b n f) {nm : List UInt8} (hl : nm.length ≤ 1048576) (hx : a.eval x = .string (strB nm))
    (hK : wpList Try.prog ops Q rest (a.put o.dst (.tuple #[(f nm).getD (.agg #[.int .i64 0, .slice none 0 0]), .bool (f nm).isSome])) w) :
    wpList Try.prog ops Q (o :: rest) a w := by
  obtain ⟨D, hD, hf⟩ := h
  refine wpList_lookup_own_ok w hg m x _ hop 9 29 keyedStr Try.underlying57 mapR (zeroShp w) (.held (.agg #[.int .i64 0, .slice none 0 0])) [] rfl b n D hm hD _ (.string nm) hx (keyStr hl) ?_
  intro v ps hv
  have hv1 : DataW.held v = D.atKey (.string nm) (.held (.agg #[.int .i64 0, .slice none 0 0])) := by
    have := congrArg (fun z => z.map Prod.fst) hv
    simpa [mapR] using this
  rw [(hf nm).2, (hf nm).1] at *
  have : v = (f nm).getD (.agg #[.int .i64 0, .slice none 0 0]) := by
    cases hfn : f nm with
    | none => rw [hfn] at hv1; simpa using hv1
    | some u => rw [hfn] at hv1; simpa using hv1
  rw [this]; exact hK

theorem wpGetS (w : World) {ops : Array Oper} {rest : List Oper} {o : Oper} {a : Act} {Q : Exit → Act → World → Prop} (hg : o.guard = none) (m x : Operand) (hop : o.op = Op.lookup 57 m x true)
    {b n : Nat} {f : List UInt8 → Option Value} (hm : a.eval m = .map (some b)) (h : MapF w b n f) {nm : List UInt8} (hl : nm.length ≤ 1048576) (hx : a.eval x = .string (strB nm)) {v : Value} (hv : f nm = some v)
    (hK : wpList Try.prog ops Q rest (a.put o.dst (.tuple #[v, .bool true])) w) :
    wpList Try.prog ops Q (o :: rest) a w := wpGet w hg m x hop hm h hl hx (by rw [hv]; exact hK)
theorem wpGetN (w : World) {ops : Array Oper} {rest : List Oper} {o : Oper} {a : Act} {Q : Exit → Act → World → Prop} (hg : o.guard = none) (m x : Operand) (hop : o.op = Op.lookup 57 m x true)
    {b n : Nat} {f : List UInt8 → Option Value} (hm : a.eval m = .map (some b)) (h : MapF w b n f) {nm : List UInt8} (hl : nm.length ≤ 1048576) (hx : a.eval x = .string (strB nm)) (hv : f nm = none)
    (hK : wpList Try.prog ops Q rest (a.put o.dst (.tuple #[.agg #[.int .i64 0, .slice none 0 0], .bool false])) w) :
    wpList Try.prog ops Q (o :: rest) a w := wpGet w hg m x hop hm h hl hx (by rw [hv]; exact hK)

/-- The lookup without a word on whether it is there. -/
theorem wpGet1 (w : World) {ops : Array Oper} {rest : List Oper} {o : Oper} {a : Act} {Q : Exit → Act → World → Prop} (hg : o.guard = none) (m x : Operand) (hop : o.op = Op.lookup 57 m x false)
    {b n : Nat} {f : List UInt8 → Option Value} (hm : a.eval m = .map (some b)) (h : MapF w b n f) {nm : List UInt8} (hl : nm.length ≤ 1048576) (hx : a.eval x = .string (strB nm))
    (hK : wpList Try.prog ops Q rest (a.put o.dst ((f nm).getD (.agg #[.int .i64 0, .slice none 0 0]))) w) :
    wpList Try.prog ops Q (o :: rest) a w := by
  obtain ⟨D, hD, hf⟩ := h
  obtain ⟨v, ps, hrun, hv⟩ := hD.lookup keyedStr Try.underlying57 (zeroShp w) (zd := .held (.agg #[.int .i64 0, .slice none 0 0])) (zp := []) rfl (keyStr hl)
  have hv1 : DataW.held v = D.atKey (.string nm) (.held (.agg #[.int .i64 0, .slice none 0 0])) := by
    have := congrArg (fun z => z.map Prod.fst) hv
    simpa [mapR] using this
  rw [(hf nm).2] at hv1
  have : v = (f nm).getD (.agg #[.int .i64 0, .slice none 0 0]) := by
    cases hfn : f nm with
    | none => rw [hfn] at hv1; simpa using hv1
    | some u => rw [hfn] at hv1; simpa using hv1
  refine wpList_plain hg fun K' hK' => ?_
  unfold Oper.wp
  simp [execOp, hop, hm, hx, hrun, Result.andThen]
  rw [this]
  exact hK' _ _ hK

theorem wpGetV (w : World) {ops : Array Oper} {rest : List Oper} {o : Oper} {a : Act} {Q : Exit → Act → World → Prop} (hg : o.guard = none) (m x : Operand) (hop : o.op = Op.lookup 57 m x false)
    {b n : Nat} {f : List UInt8 → Option Value} (hm : a.eval m = .map (some b)) (h : MapF w b n f) {nm : List UInt8} (hl : nm.length ≤ 1048576) (hx : a.eval x = .string (strB nm)) {v : Value} (hv : f nm = some v)
    (hK : wpList Try.prog ops Q rest (a.put o.dst v) w) :
    wpList Try.prog ops Q (o :: rest) a w := wpGet1 w hg m x hop hm h hl hx (by rw [hv]; exact hK)

/-- The keys of the map, as a list of names that are told by f. -/
theorem MapF.keys {w : World} {b n : Nat} {f : List UInt8 → Option Value} (h : MapF w b n f) {ss : List (List UInt8)} (hnd : ss.Nodup) (hm : ∀ x, x ∈ ss ↔ (f x).isSome = true) :
    ∃ D : DataW Value, w.ownsMap Try.prog 9 mapR b n D ∧ ss.Perm (strKeys D) ∧ Maps.size D = ss.length := by
  obtain ⟨D, hD, hf⟩ := h
  obtain ⟨es, he, hp, _⟩ := hD.entries keyedStr
  obtain ⟨es', he', hk⟩ := hD.keysOf
  obtain rfl : es = es' := by rw [he] at he'; simpa using he'
  subst he
  have hperm := perm_strKeys hp (fun p hp' => by obtain ⟨v, hv⟩ := hk p hp'; obtain ⟨x, _, hx, _⟩ := Maps.keyOf_str Try.underlying9 hv; exact ⟨x, hx⟩) hnd (fun x => by rw [hm x, (hf x).1])
  refine ⟨_, hD, hperm, ?_⟩
  rw [hperm.length_eq]
  simp [strKeys, Maps.size]

theorem wpLenM (w : World) {ops : Array Oper} {rest : List Oper} {o : Oper} {a : Act} {Q : Exit → Act → World → Prop} (hg : o.guard = none) (m : Operand) (hop : o.op = Op.call { callee := Callee.builtin Builtin.len, args := #[m], argTypes := #[57] })
    {b n : Nat} {f : List UInt8 → Option Value} (hm : a.eval m = .map (some b)) (h : MapF w b n f) {ss : List (List UInt8)} (hnd : ss.Nodup) (hms : ∀ x, x ∈ ss ↔ (f x).isSome = true)
    (hK : wpList Try.prog ops Q rest (a.put o.dst (.int .i64 ss.length)) w) :
    wpList Try.prog ops Q (o :: rest) a w := by
  obtain ⟨D, hD, _, hs⟩ := h.keys hnd hms
  rw [← hs] at hK
  exact wpList_len_own w hg m _ hop 9 29 Try.underlying57 mapR b n D hm hD hK

end Go.Proofs.Ytbljpeefekhoeab
