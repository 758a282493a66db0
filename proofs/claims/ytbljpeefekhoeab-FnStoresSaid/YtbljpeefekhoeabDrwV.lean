/-
  Draws of stores that may be bent: contract of l9Bent. Condition: few bytes have been read so far.
-/
import Derived.Deep.RegionLaw
import Derived.Test.YtbljpeefekhoeabDrwU
import Derived.Test.YtbljpeefekhoeabDst
namespace Go.Proofs.Ytbljpeefekhoeab
open Go.RowKit

variable {w wr v1 : World} {O R B : Nat} {v u : Value} {L M : List Sh} {g : Nat} {a : Option Addr} {n c : Nat} {bs : List Int} {at_ at4 : Int}
/-- What a draw of a store that may be bent answers. -/
def StoB (lim : Int) (m : Nat) (w : World) (g : Nat) (a : Option Addr) (n c : Nat) (bs : List Int) (at_ : Int) (e : Ending) (w' : World) : Prop :=
  ∃ v L at2, e = .returned (.agg #[v]) ∧ DStR w.heap.size w' v L ∧ L.length ≤ m ∧ Src w' g a n c bs at2 ∧ at2 ≤ at_ + lim ∧ Kept [g] w w'
/-- The state of such a draw behind its append. -/
structure DrR (w wr : World) (O R B : Nat) (v : Value) (L : List Sh) (g : Nat) (a : Option Addr) (n c : Nat) (bs : List Int) (at_ : Int) : Prop where
  ob : LB wr O v
  rb : LB wr R (.slice none 0 0)
  op : DStR B wr v L
  sr : Src wr g a n c bs at_
  kp : Kept [g] w wr
theorem DrL.weak (h : DrL w wr O R B v L g a n c bs at_) : DrR w wr O R B v L g a n c bs at_ := ⟨h.ob, h.rb, h.op.weak, h.sr, h.kp⟩
theorem DrR.fin (h : DrR w wr O R B v L g a n c bs at_) (hg : g < w.heap.size) (hR : w.heap.size ≤ R ∧ R < B) (haw : 0 < n → ∀ y, a = some y → y.block < w.heap.size) : DStR w.heap.size (wr.setCell ⟨R, 0, none⟩ v) v L ∧ Src (wr.setCell ⟨R, 0, none⟩ v) g a n c bs at_ ∧ Kept [g] w (wr.setCell ⟨R, 0, none⟩ v) :=
  ⟨(h.op.kept (M := [R]) ((Kept.refl [R] wr).setCell _ _ (by simp)) (by simp; omega)).mono (by omega), h.sr.setBox R 0 v (by omega) (fun q hn hq => by have := haw hn q hq; omega), h.kp.setCell _ _ (by simp; omega)⟩
/-- What holds of such a draw throughout: w2 is the world in which its list was drawn. -/
structure DrG (w w2 : World) (O R B g n : Nat) (a : Option Addr) : Prop where
  hg : g < w.heap.size
  hR : w.heap.size ≤ R ∧ R < B
  hB : B ≤ w2.heap.size
  hO : w2.heap.size ≤ O
  ha : 0 < n → ∀ x, a = some x → x.block < w.heap.size
theorem bent_end {w2 wX w9 : World} {xs ys : List Value} {m : Nat} {v9 : Value} {s : ByteArray} (F : DrG w w2 O R B g n a) (D : DrL w wX O R B v L g a n c bs at_) (K2 : Kept [g] w2 wX) (hX2 : StX B w2 xs L) (hS : SepX v xs L) (hlt : ∀ q, v.ownBlock = some q → q < w2.heap.size ∧ B ≤ q)
    (hgr : wX.grownBy w9 v.ownBlock) (hO9 : w9.ownsRow B 49 3 v9 m (xs ++ ys)) (hz0 : (xs ++ ys)[0]? = some (.string s)) (hv : ∃ a1 n1 c1, v = .slice a1 n1 c1) (hm : m = (L ++ M).length) (hy : Kept (g :: v.ownBlock.toList) w2 (w9.setCell ⟨O, 0, none⟩ v9) → StX B (w9.setCell ⟨O, 0, none⟩ v9) ys M) :
    DrR w (w9.setCell ⟨O, 0, none⟩ v9) O R B v9 (L ++ M) g a n c bs at_ := by
  obtain ⟨a1, n1, c1, rfl⟩ := hv
  have kk := kept_ownD hgr
  have h1 := F.hg
  have h2 := F.hR
  have h3 := F.hB
  have h4 := F.hO
  have nO : ∀ q, q < B ∨ w2.heap.size ≤ q → q ∉ (Value.slice a1 n1 c1).ownBlock.toList := fun q hq hm => by have := hlt q (by simpa using hm); omega
  have o9 := D.ob.kept kk (nO O (.inr h4))
  have r9 := D.rb.kept kk (nO R (.inl h2.2))
  have s9 := D.sr.kept kk (nO g (.inl (by omega))) (fun hn y hy => nO _ (.inl (by have := F.ha hn y hy; omega)))
  have k9 : Kept [g] w w9 := D.kp.grown hgr (fun q hq hl => by have := hlt q hq; omega)
  have kO : Kept [O] w9 (w9.setCell ⟨O, 0, none⟩ v9) := (Kept.refl [O] w9).setCell _ _ (by simp)
  have ne9 := ownsRow_ne hO9 hz0 o9.c0 (fun s e => by cases e)
  have hzO := o9.lt
  have k2F : Kept (g :: (Value.slice a1 n1 c1).ownBlock.toList) w2 (w9.setCell ⟨O, 0, none⟩ v9) :=
    ((K2.mono (M := g :: (Value.slice a1 n1 c1).ownBlock.toList) (fun x hx _ => by simp at hx; simp [hx])).trans kk (fun x hx _ => List.mem_cons_of_mem _ hx)).trans kO (fun x hx hl => by simp at hx; omega)
  exact ⟨o9.set v9, r9.kept kO (by simp; omega), ⟨xs ++ ys, by rw [← hm]; exact ownsRow_kept hO9 kO (fun q hq hm => ne9 (by simp at hm; subst hm; exact hq)), (hX2.far hS (by omega) k2F).app (hy k2F)⟩, s9.kept kO (by simp; omega) (fun hn y hy => by have := F.ha hn y hy; simp; omega), k9.setCell _ _ (by simp; omega)⟩

theorem app_ob {w2 w9 : World} {B : Nat} (hgr : v1.grownBy w9 v.ownBlock) (h : LB v1 O u) (hlt : ∀ q, v.ownBlock = some q → q < w2.heap.size ∧ B ≤ q) (hO : w2.heap.size ≤ O) : LB w9 O u :=
  h.kept (kept_ownD hgr) (fun hm => by have := hlt O (by simpa using hm); omega)
/-- The points of a shape that was drawn late stay, too. -/
theorem new_rd {w2 w3 w9 : World} {B : Nat} {p : Option Addr} {m : Nat} {xs : List Int} {o : Obj} {v9 : Value} (hr : Rd v1 p m xs) (hf : Fr w3.heap.size p m) (hgr : (v1.alloc o).grownBy w9 v.ownBlock) (hlt : ∀ q, v.ownBlock = some q → q < w2.heap.size ∧ B ≤ q) (h23 : w2.heap.size ≤ w3.heap.size) (hO : O < w3.heap.size) :
    Rd (w9.setCell ⟨O, 0, none⟩ v9) p m xs := by
  have k1 : Kept (O :: v.ownBlock.toList) v1 (w9.setCell ⟨O, 0, none⟩ v9) :=
    ((((Kept.refl [] v1).alloc o).mono (M := O :: v.ownBlock.toList) (by simp)).trans ((kept_ownD hgr).mono (M := O :: v.ownBlock.toList) (fun x hx _ => List.mem_cons_of_mem _ hx)) (fun x hx _ => hx)).setCell _ _ (by simp)
  exact hr.kept k1 (fun hn x hx hm => by
    have h1 := hf hn x hx
    rcases List.mem_cons.1 hm with e | hm
    · omega
    · have := hlt _ (show v.ownBlock = some x.block by simpa using hm); omega)
theorem l8Draw_b (g : Nat) (a : Option Addr) (n c : Nat) (bs : List Int) (at_ : Int) (w : World) (h : Src w g a n c bs at_) (ha : at_ ≤ 600000) :
    Calls Try.prog 46 #[.pointer (some ⟨g, 0, none⟩)] w (ShpB 40 w g a n c bs at_) :=
  (l8Draw_any g a n c bs at_ w h (by omega)).mono fun _ _ h => h.b (by omega)
theorem StX.oneS {w : World} {B : Nat} {s : Sh} {p : Option Addr} {c : Nat} {S : ByteArray} (hS : strB s.nm = S) (r : Rd w p (s.n * 2) s.xs) (f : Fr B p (s.n * 2)) (hn : s.nm.length ≤ 12) : StX B w [.string S, .int .i64 s.k, .slice p s.n c] [s] := by
  subst hS; exact StX.one r f hn
theorem step_bent {w2 v1 : World} {B n m d cv : Nat} {av p : Option Addr} {S : ByteArray} {k : Int} {T : TypeId} {xs : List Value} {ops : Array Oper} {o : Oper} {a : Act} {K : Act → World → Prop} {Q : Exit → Act → World → Prop} {E : Prop} (hgd : o.guard = none) (s x : Operand)
    (ho : o.op = .call { callee := .builtin .append, args := #[s, x], argTypes := #[24, 24] })
    (hs : a.eval s = .slice av n cv) (hx : a.eval x = .slice (some ⟨v1.heap.size, 0, none⟩) 1 1) (hown : w2.ownsRow B 49 3 (.slice av n cv) n xs) (M9 : Kept [g] w2 (v1.alloc (.cells #[.string S, .int .i64 k, .slice p m d] T))) (hg : g < B) (hB : B ≤ w2.heap.size) (hn : n ≤ 1000)
    (h : ∀ v' w', w'.ownsRow B 49 3 v' (n + 1) (xs ++ [.string S, .int .i64 k, .slice p m d]) → (v1.alloc (.cells #[.string S, .int .i64 k, .slice p m d] T)).grownBy w' (Value.slice av n cv).ownBlock → K (a.put o.dst v') w') :
    if Region.wanted o (yielded ops a.tmps) = true then Oper.wp Try.prog o a (v1.alloc (.cells #[.string S, .int .i64 k, .slice p m d] T)) K Q else E := by
  have nn := boxN (Kept.refl [] (v1.alloc (.cells #[.string S, .int .i64 k, .slice p m d] T)))
  exact step_appN hgd s x ho B (.slice av n cv) n xs hs (ownsRow_kept hown M9 (fun q hq hm => by have h7 := (World.ownsRow.lt hown q hq).1; simp at hm; omega)) v1.heap.size _ _ _ hx nn.1 nn.2.1 nn.2.2 rfl rfl rfl (by omega) (by have h7 := M9.size; omega) h
theorem ownsRow_form {w : World} {B n : Nat} {T : TypeId} {v : Value} {zs : List Value} (h : w.ownsRow B T 3 v n zs) : ∃ a9 e9, v = .slice a9 n e9 := by
  rcases h.2 with ⟨hv, h0⟩ | ⟨g, cap, cur, hv, _⟩
  · exact ⟨none, 0, by rw [h0]; exact hv⟩
  · exact ⟨_, _, hv⟩
theorem head_app {xs ys : List Value} {s : ByteArray} (h : xs[0]? = some (.string s)) : (xs ++ ys)[0]? = some (.string s) := by
  have h0 := (List.getElem?_eq_some_iff.1 h).1
  rw [List.getElem?_append_left h0]; exact h
theorem head_any {B : Nat} {w : World} {xs : List Value} {L : List Sh} (h : StX B w xs L) (s : ByteArray) (x y : Value) : ∃ t, (xs ++ [.string s, x, y])[0]? = some (.string t) := by
  by_cases h0 : 0 < L.length
  · obtain ⟨t, ht⟩ := h.head h0
    exact ⟨t, head_app ht⟩
  · have h1 := h.1
    have : xs = [] := List.length_eq_zero_iff.1 (by omega)
    subst this
    exact ⟨s, rfl⟩

set_option maxHeartbeats 1000000 in
theorem l9Bent_any (g : Nat) (a : Option Addr) (n c : Nat) (bs : List Int) (at_ : Int) (w : World) (h : Src w g a n c bs at_) (ha : at_ ≤ 400000) :
    Calls Try.prog 26 #[.pointer (some ⟨g, 0, none⟩)] w (StoB 500 21 w g a n c bs at_) := by
  have HS := Lib.hid h
  have hgl := h.lt
  have hat := h.2.2.2.2.2
  clear h
  obtain ⟨R, hR⟩ : ∃ R, R = w.heap.size := ⟨_, rfl⟩
  have HR := Lib.hid hR
  go_enter Try.func26, Try.ntmps26
  go_wp2_with fail
  rw [← hR]
  have KR : Kept [] w (w.alloc (.cells #[.slice none 0 0] 26)) := (Kept.refl _ _).alloc _
  have R1 : LB (w.alloc (.cells #[.slice none 0 0] 26)) R (.slice none 0 0) := by rw [hR]; exact LB.new
  obtain ⟨W, hW⟩ : ∃ W, w.alloc (.cells #[.slice none 0 0] 26) = W := ⟨_, rfl⟩
  have hWz : W.heap.size = w.heap.size + 1 := by rw [← hW]; simp
  rw [hW] at KR R1 ⊢
  have KR := Lib.hid KR
  have R1 := Lib.hid R1
  have HWZ := Lib.hid hWz
  clear hW hR hWz
  refine (l9Draw_any g a n c bs at_ _ (HS.out.kept0 KR.out) (by omega)).mono ?_
  rintro e w2 ⟨v, L, at1, rfl, hop, hl10, hz, hS2, hat1, k2⟩
  have hgR : g < R := by have := HR.out; omega
  have S2 := Lib.hid hS2
  have R2 := Lib.hid (R1.out.kept k2 (by simp; omega))
  have K2 := Lib.hid (KR.out.mono (M := [g]) (by simp) |>.trans k2 (fun _ hx _ => hx))
  obtain ⟨av, cv, rfl⟩ := hop.form
  have OP := Lib.hid hop
  have HZ := Lib.hid hz
  have hat1' := hS2.2.2.2.2.2
  have hz2 := k2.size
  clear hS2 k2 hop KR R1 hz
  obtain ⟨O, hO⟩ : ∃ O, O = w2.heap.size := ⟨_, rfl⟩
  have HO := Lib.hid hO
  have hRO : R < O := by have := R2.out.lt; omega
  have hRW : R < W.heap.size := by have h1 := HWZ.out; have h2 := HR.out; omega
  go_wp2_with fail
  rw [← hO]
  have D2 : Hid (DrL w (w2.alloc (.cells #[.slice av L.length cv] 26)) O R W.heap.size (.slice av L.length cv) L g a n c bs at1) := by
    rw [hO]
    have ka := (Kept.refl [] w2).alloc (.cells #[.slice av L.length cv] 26)
    exact Lib.hid ⟨LB.new, R2.out.kept0 ka, OP.out.kept0 ka, S2.out.kept0 ka, K2.out.trans0 ka⟩
  have HG3 : Hid (g < O ∧ g < R ∧ g < W.heap.size) := Lib.hid ⟨by omega, by omega, by omega⟩
  obtain ⟨W3, hW3⟩ : ∃ W3, w2.alloc (.cells #[.slice av L.length cv] 26) = W3 := ⟨_, rfl⟩
  have k23 : Kept [] w2 W3 := by rw [← hW3]; exact (Kept.refl _ _).alloc _
  rw [hW3] at D2 ⊢
  have K23 := Lib.hid k23
  clear hW3 hO S2 K2 R2 k23
  refine (l1Next_any g a n c bs at1 16 _ D2.out.sr (by omega) (by omega)).mono ?_
  rintro e w3 ⟨q, rfl, q0, q1, hS3, k3⟩
  have D3 := Lib.hid (D2.out.next HG3.out hS3 k3)
  have K3 := Lib.hid (K23.out.mono (M := [g]) (by simp) |>.trans k3 (fun _ hx _ => hx))
  clear D2 hS3 k3 K23
  by_cases hq0 : q = 0
  · subst hq0
    by_cases hL : L = []
    · subst hL
      have hv := HZ.out.2 rfl
      simp only [Value.slice.injEq] at hv
      obtain ⟨rfl, _, rfl⟩ := hv
      have D4 : Hid (DrL w w3 O R W.heap.size (.slice none 0 0) [] g a n c bs (at1 + 1)) := D3
      clear D3 OP HZ
      have c0 := D4.out.ob.c0
      have f0 := D4.out.ob.f0
      go_upto_region 9 with (at_builtin; refine appNil rfl _ _ rfl rfl rfl ?_)
      have D9 : Hid (DrR w (w3.setCell ⟨O, 0, none⟩ (.slice none 0 0)) O R W.heap.size (.slice none 0 0) [] g a n c bs (at1 + 1)) := by
        have kO : Kept [O] w3 (w3.setCell ⟨O, 0, none⟩ (.slice none 0 0)) := (Kept.refl [O] w3).setCell _ _ (by simp)
        have h4 := HR.out
        exact Lib.hid ⟨D4.out.ob.set _, D4.out.rb.kept kO (by simp; omega), (DSto.nil _ _).weak, D4.out.sr.kept kO (by simp; omega) (fun hn y hy => by have := HS.out.2.2.2.1.lt hn y hy; simp; omega), D4.out.kp.setCell _ _ (by simp; omega)⟩
      clear c0 f0 D4
      obtain ⟨wz, hwz⟩ : ∃ wz, w3.setCell ⟨O, 0, none⟩ (.slice none 0 0) = wz := ⟨_, rfl⟩
      rw [hwz] at D9 ⊢
      clear hwz
      have c0 := D9.out.ob.c0
      have r0 := D9.out.rb.c0
      have rf := D9.out.rb.f0
      go_wp2_with fail
      have s0 := World.cell?_setCell_same _ _ (.slice none 0 0) r0
      have hf := D9.out.fin hgl (by have h4 := HR.out; omega) (fun hn y hy => HS.out.2.2.2.1.lt hn y hy)
      exact bodyPost_ret (v := .agg #[(.slice none 0 0)]) (by simp [results, Try.results26, go_sem, s0]) rfl ⟨(.slice none 0 0), [], at1 + 1, rfl, hf.1, by simp, hf.2.1, by omega, hf.2.2⟩
    · have hLp : 0 < L.length := List.length_pos_iff.2 hL
      obtain ⟨xs, hown2, hX2, hS⟩ := OP.out
      have hlt2 := Lib.hid (fun q (hq : (Value.slice av L.length cv).ownBlock = some q) => (World.ownsRow.lt hown2 q hq).symm)
      have hown3 := ownsRow_kept hown2 K3.out (fun q hq hm => by have h7 := (hlt2.out q hq).2; have h8 := HG3.out; simp at hm; omega)
      have HX2 := Lib.hid hX2
      have HSX := Lib.hid hS
      have H1c := Lib.hid hX2.one'
      have HO3 := Lib.hid hown3
      have FG : Hid (DrG w w2 O R W.heap.size g n a) := Lib.hid ⟨hgl, by have h4 := HR.out; omega, hz2, by have := HO.out; omega, fun hn y hy => HS.out.2.2.2.1.lt hn y hy⟩
      have hz23 := K3.out.size
      have hl9 : L.length ≤ 1000 := by omega
      clear hown2 hX2 hS hown3 hL OP
      have c0 := D3.out.ob.c0
      have f0 := D3.out.ob.f0
      go_upto_region 9 with (at_builtin; refine appSelf rfl _ _ rfl W.heap.size (.slice av L.length cv) L.length xs rfl rfl HO3.out H1c.out hl9 hLp (by omega) ?_; intro v9 w9 hO9 hgr; obtain ⟨a9, e9, rfl⟩ := ownsRow_form hO9; have o9 := app_ob hgr D3.out.ob hlt2.out (by have h7 := HO.out; omega); have c9 := o9.c0; have f9 := o9.f0; clear o9)
      obtain ⟨t9, ht9⟩ := HX2.out.head hLp
      have D9 : Hid (DrR w (w9.setCell ⟨O, 0, none⟩ (.slice a9 (L.length + L.length) e9)) O R W.heap.size (.slice a9 (L.length + L.length) e9) (L ++ L) g a n c bs (at1 + 1)) := Lib.hid (bent_end FG.out D3.out K3.out HX2.out HSX.out hlt2.out hgr hO9 (head_app ht9) ⟨_, _, _, rfl⟩ (by simp) (fun kF => HX2.out.far HSX.out HG3.out.2.2 kF))
      clear c0 f0 c9 f9 ht9 hO9 hgr D3 HO3
      obtain ⟨wz, hwz⟩ : ∃ wz, w9.setCell ⟨O, 0, none⟩ (.slice a9 (L.length + L.length) e9) = wz := ⟨_, rfl⟩
      rw [hwz] at D9 ⊢
      clear hwz
      have c0 := D9.out.ob.c0
      have r0 := D9.out.rb.c0
      have rf := D9.out.rb.f0
      go_wp2_with fail
      have s0 := World.cell?_setCell_same _ _ (.slice a9 (L.length + L.length) e9) r0
      have hf := D9.out.fin hgl (by have h4 := HR.out; omega) (fun hn y hy => HS.out.2.2.2.1.lt hn y hy)
      exact bodyPost_ret (v := .agg #[(.slice a9 (L.length + L.length) e9)]) (by simp [results, Try.results26, go_sem, s0]) rfl ⟨(.slice a9 (L.length + L.length) e9), L ++ L, at1 + 1, rfl, hf.1, by simp; omega, hf.2.1, by omega, hf.2.2⟩
  by_cases hq1 : q = 1
  · subst hq1
    obtain ⟨xs, hown2, hX2, hS⟩ := OP.out
    have hlt2 := Lib.hid (fun q (hq : (Value.slice av L.length cv).ownBlock = some q) => (World.ownsRow.lt hown2 q hq).symm)
    have HX2 := Lib.hid hX2
    have HSX := Lib.hid hS
    have HO2 := Lib.hid hown2
    have FG : Hid (DrG w w2 O R W.heap.size g n a) := Lib.hid ⟨hgl, by have h4 := HR.out; omega, hz2, by have := HO.out; omega, fun hn y hy => HS.out.2.2.2.1.lt hn y hy⟩
    have hz23 := K3.out.size
    have hl9 : L.length ≤ 1000 := by omega
    have hWg : g < W.heap.size := HG3.out.2.2
    clear hown2 hX2 hS OP
    have c0 := D3.out.ob.c0
    have c0d : w3.drew.cell? ⟨O, 0, none⟩ = some (.slice av L.length cv) := c0
    have hat6 : at1 + 1 ≤ 600000 := by omega
    have HSS : Hid (strB [122, 122] = (⟨#[122, 122]⟩ : ByteArray)) := Lib.hid rfl
    go_upto_region 6 with fail
    go_region_law (first
      | (refine step_bent (by rfl) (.tmp 19) (.tmp 23) (by rfl) (by rfl) (by rfl) HO2.out M9.out hWg hz2 hl9 ?_; intro v9 w9 hO9 hgr; obtain ⟨a9, e9, rfl⟩ := ownsRow_form hO9; obtain ⟨t9, ht9⟩ := head_any HX2.out ⟨#[122, 122]⟩ (.int .i64 kd) (.slice p2 m2 d2); have o9 := app_ob hgr E4.out.ob hlt2.out (by have h7 := HO.out; omega); have c9 := o9.c0; have f9 := o9.f0; clear o9)
      | (go_simp; refine (l8Bent_any g a n c bs (at1 + 1) _ D3.out.sr.drewD hat6).mono ?_; rintro e v1 ⟨kd, p2, m2, d2, xs2, at4, rfl, hrd2, hfr2, hm14, hS4, hat4, k4⟩; have E1 := Lib.hid ((D3.out.kept0 (Kept.refl [] w3).drew).next HG3.out hS4 k4); have c4 := E1.out.ob.c0; have E4 := Lib.hid (E1.out.kept0 ((Kept.refl [] v1).alloc (.cells #[.string ⟨#[122, 122]⟩, .int .i64 kd, .slice p2 m2 d2] 49))); have c4a := E4.out.ob.c0; have M9 : Hid (Kept [g] w2 (v1.alloc (.cells #[.string ⟨#[122, 122]⟩, .int .i64 kd, .slice p2 m2 d2] 49))) := Lib.hid (((K3.out.drew).trans k4 (fun _ hx _ => hx)).alloc _))
      | fail)
    all_goals
      have D9 : Hid (DrR w (w9.setCell ⟨O, 0, none⟩ (.slice a9 (L.length + 1) e9)) O R W.heap.size (.slice a9 (L.length + 1) e9) (L ++ [⟨[122, 122], kd, m2, xs2⟩]) g a n c bs at4) := Lib.hid (bent_end FG.out E4.out M9.out HX2.out HSX.out hlt2.out hgr hO9 ht9 ⟨_, _, _, rfl⟩ (by simp) (fun _ => StX.oneS (s := ⟨[122, 122], kd, m2, xs2⟩) HSS.out (new_rd hrd2 hfr2 hgr hlt2.out (by show w2.heap.size ≤ w3.heap.size; have h8 := K3.out.size; omega) (by show O < w3.heap.size; have h8 := D3.out.ob.lt; omega)) (hfr2.mono (by show W.heap.size ≤ w3.heap.size; have h8 := K3.out.size; omega)) (by simp)))
      obtain ⟨wz, hwz⟩ : ∃ wz, w9.setCell ⟨O, 0, none⟩ (.slice a9 (L.length + 1) e9) = wz := ⟨_, rfl⟩
      rw [hwz] at D9
      have HWZ := Lib.hid hwz
      clear hwz
      go_upto_region 9 with fail
      rw [HWZ.out]
      clear HWZ c9 f9 ht9 hO9 hgr E4 E1 M9 c0 c0d c4 c4a D3
      have c0 := D9.out.ob.c0
      have r0 := D9.out.rb.c0
      have rf := D9.out.rb.f0
      go_wp2_with fail
      have s0 := World.cell?_setCell_same _ _ (.slice a9 (L.length + 1) e9) r0
      have hf := D9.out.fin hgl (by have h4 := HR.out; omega) (fun hn y hy => HS.out.2.2.2.1.lt hn y hy)
      exact bodyPost_ret (v := .agg #[(.slice a9 (L.length + 1) e9)]) (by simp [results, Try.results26, go_sem, s0]) rfl ⟨(.slice a9 (L.length + 1) e9), L ++ [⟨[122, 122], kd, m2, xs2⟩], at4, rfl, hf.1, by simp; omega, hf.2.1, by omega, hf.2.2⟩
  by_cases hq2 : q = 2
  · subst hq2
    obtain ⟨xs, hown2, hX2, hS⟩ := OP.out
    have hlt2 := Lib.hid (fun q (hq : (Value.slice av L.length cv).ownBlock = some q) => (World.ownsRow.lt hown2 q hq).symm)
    have HX2 := Lib.hid hX2
    have HSX := Lib.hid hS
    have HO2 := Lib.hid hown2
    have FG : Hid (DrG w w2 O R W.heap.size g n a) := Lib.hid ⟨hgl, by have h4 := HR.out; omega, hz2, by have := HO.out; omega, fun hn y hy => HS.out.2.2.2.1.lt hn y hy⟩
    have hz23 := K3.out.size
    have hl9 : L.length ≤ 1000 := by omega
    have hWg : g < W.heap.size := HG3.out.2.2
    clear hown2 hX2 hS OP
    have c0 := D3.out.ob.c0
    have c0d : w3.drew.cell? ⟨O, 0, none⟩ = some (.slice av L.length cv) := c0
    have hat6 : at1 + 1 ≤ 600000 := by omega
    have HSS : Hid (strB [90] = (⟨#[90]⟩ : ByteArray)) := Lib.hid rfl
    go_upto_region 8 with fail
    go_region_law (first
      | (refine step_bent (by rfl) (.tmp 29) (.tmp 33) (by rfl) (by rfl) (by rfl) HO2.out M9.out hWg hz2 hl9 ?_; intro v9 w9 hO9 hgr; obtain ⟨a9, e9, rfl⟩ := ownsRow_form hO9; obtain ⟨t9, ht9⟩ := head_any HX2.out ⟨#[90]⟩ (.int .i64 kd) (.slice p2 m2 d2); have o9 := app_ob hgr E4.out.ob hlt2.out (by have h7 := HO.out; omega); have c9 := o9.c0; have f9 := o9.f0; clear o9)
      | (go_simp; refine (l8Draw_b g a n c bs (at1 + 1) _ D3.out.sr.drewD hat6).mono ?_; rintro e v1 ⟨kd, p2, m2, d2, xs2, at4, rfl, hrd2, hfr2, hm14, hS4, hat4, k4⟩; have E1 := Lib.hid ((D3.out.kept0 (Kept.refl [] w3).drew).next HG3.out hS4 k4); have c4 := E1.out.ob.c0; have E4 := Lib.hid (E1.out.kept0 ((Kept.refl [] v1).alloc (.cells #[.string ⟨#[90]⟩, .int .i64 kd, .slice p2 m2 d2] 49))); have c4a := E4.out.ob.c0; have M9 : Hid (Kept [g] w2 (v1.alloc (.cells #[.string ⟨#[90]⟩, .int .i64 kd, .slice p2 m2 d2] 49))) := Lib.hid (((K3.out.drew).trans k4 (fun _ hx _ => hx)).alloc _))
      | fail)
    all_goals
      have D9 : Hid (DrR w (w9.setCell ⟨O, 0, none⟩ (.slice a9 (L.length + 1) e9)) O R W.heap.size (.slice a9 (L.length + 1) e9) (L ++ [⟨[90], kd, m2, xs2⟩]) g a n c bs at4) := Lib.hid (bent_end FG.out E4.out M9.out HX2.out HSX.out hlt2.out hgr hO9 ht9 ⟨_, _, _, rfl⟩ (by simp) (fun _ => StX.oneS (s := ⟨[90], kd, m2, xs2⟩) HSS.out (new_rd hrd2 hfr2 hgr hlt2.out (by show w2.heap.size ≤ w3.heap.size; have h8 := K3.out.size; omega) (by show O < w3.heap.size; have h8 := D3.out.ob.lt; omega)) (hfr2.mono (by show W.heap.size ≤ w3.heap.size; have h8 := K3.out.size; omega)) (by simp)))
      obtain ⟨wz, hwz⟩ : ∃ wz, w9.setCell ⟨O, 0, none⟩ (.slice a9 (L.length + 1) e9) = wz := ⟨_, rfl⟩
      rw [hwz] at D9
      have HWZ := Lib.hid hwz
      clear hwz
      go_upto_region 9 with fail
      rw [HWZ.out]
      clear HWZ c9 f9 ht9 hO9 hgr E4 E1 M9 c0 c0d c4 c4a D3
      have c0 := D9.out.ob.c0
      have r0 := D9.out.rb.c0
      have rf := D9.out.rb.f0
      go_wp2_with fail
      have s0 := World.cell?_setCell_same _ _ (.slice a9 (L.length + 1) e9) r0
      have hf := D9.out.fin hgl (by have h4 := HR.out; omega) (fun hn y hy => HS.out.2.2.2.1.lt hn y hy)
      exact bodyPost_ret (v := .agg #[(.slice a9 (L.length + 1) e9)]) (by simp [results, Try.results26, go_sem, s0]) rfl ⟨(.slice a9 (L.length + 1) e9), L ++ [⟨[90], kd, m2, xs2⟩], at4, rfl, hf.1, by simp; omega, hf.2.1, by omega, hf.2.2⟩
  · have z0 : (q == 0) = false := beq_eq_false_iff_ne.2 hq0
    have z1 : (q == 1) = false := beq_eq_false_iff_ne.2 hq1
    have z2 : (q == 2) = false := beq_eq_false_iff_ne.2 hq2
    have c0 := D3.out.ob.c0
    have r0 := D3.out.rb.c0
    have rf := D3.out.rb.f0
    obtain ⟨ln, hln⟩ : ∃ ln, L.length = ln := ⟨_, rfl⟩
    have HLN := Lib.hid hln
    rw [hln] at c0 D3
    clear hln
    go_wp2_with fail
    have s0 := World.cell?_setCell_same _ _ (.slice av ln cv) r0
    have hf := D3.out.fin hgl (by have h4 := HR.out; omega) (fun hn y hy => HS.out.2.2.2.1.lt hn y hy)
    exact bodyPost_ret (v := .agg #[.slice av ln cv]) (by simp [results, Try.results26, go_sem, s0]) rfl ⟨.slice av ln cv, L, at1 + 1, rfl, hf.1.weak, by have := HLN.out; omega, hf.2.1, by omega, hf.2.2⟩

end Go.Proofs.Ytbljpeefekhoeab
