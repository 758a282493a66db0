/-
 Contracts of arcOf and MetresOf. Conditions: as said.
-/
import Derived.Deep.RegionHeld3
import Derived.Deep.DrawnRows
import Derived.Deep.DeepCutAuto
import Derived.Test.YtfafjijoeanbhaaPlainM
import Derived.Test.YtfafjijoeanbhaaZedP
import Derived.Test.YtfafjijoeanbhaaBigOf
import Derived.Test.YtfafjijoeanbhaaArcNear
namespace Go.Proofs.Ytfafjijoeanbhaa
open Go.RowKit

attribute [local go_sem ↓] field_big field_end0 field_end1
theorem field_val (v0 v1 : Value) (w : World) : Sem.run Try.prog (Instr.field 74 (.agg #[v0, v1]) 1) w = .ok v1 w := by kernel_rfl
attribute [local go_sem ↓] field_val
theorem one_len9 {n : Int} (h : -1000000000000000 ≤ n) (h' : n ≤ 1000000000000000) : (mag n).length ≤ 20 := small_len (by omega) (by omega)
set_option maxHeartbeats 8000000 in
set_option maxRecDepth 20000 in
theorem arcOf_f (k : Nat) (x : Int) (a : Option Addr) (c : Nat) (w : World) (h : Sl w a (mag x).length c (mag x)) (hP : isP (k : Int) = true) (h1 : -(4 * p2 k) ≤ x) (h2 : x ≤ 4 * p2 k) :
  Calls Try.prog 26 #[.int .i64 (k : Int), .agg #[.bool (isNeg x), .slice a (mag x).length c], .func (.func 27) #[] #[]] w (Ans w (.int .i64 (wayF k x))) := by
 have hk96 : k ≤ 96 := by rcases isP_cases hP with h | h | h <;> omega
 obtain ⟨e1, he⟩ : ∃ e, e = p2 k := ⟨_, rfl⟩
 obtain ⟨y, hy⟩ : ∃ y, y = x * 6371008800000 := ⟨_, rfl⟩
 have hl := (p2_big hk96 he).1
 have hp := (p2_big hk96 he).2
 have ly : (mag y).length ≤ 20 := by rw [hy]; exact way_len hk96 h1 h2
 have lx : (mag x).length ≤ 20 := len20 (M := 4 * 79228162514264337593543950336) (by have := p2_le hk96; omega) (by have := p2_le hk96; omega) (by omega)
 obtain ⟨o1, ho⟩ : ∃ o, o = wayF k x := ⟨_, rfl⟩
 have hb := wayF_in h1 h2
 rw [← ho] at hb ⊢
 have hz : o1 = y / e1 := by rw [ho, he, hy]; rfl
 have lo : (mag o1).length ≤ 40 := by have := small_len (n := o1) (by omega) (by omega); omega
 have no := not_out hb.1 hb.2
 have H1 := Lib.hid h
 have F1 := Lib.hid h.lt
 have HE := Lib.hid he
 have HY := Lib.hid hy
 have HL9 := Lib.hid hl
 have HP9 := Lib.hid hp
 have LY := Lib.hid ly
 have LX := Lib.hid lx
 have HZ := Lib.hid hz
 have LO := Lib.hid lo
 have NO := Lib.hid no
 clear h hP he hy hl hp ly lx hz lo no hb ho h1 h2
 go_enter Try.func26, Try.ntmps26
 go_upto_region 1 with fail
 generalize hW : (w.alloc (.cells #[.bool (isNeg x), .slice a (mag x).length c] 41)) = ww0
 have hkk : Kept [] (w.alloc (.cells #[.bool (isNeg x), .slice a (mag x).length c] 41)) ww0 := by rw [hW]; exact Kept.refl _ _
 have zzA : w.heap.size + 1 = ww0.heap.size := by rw [← hW]; simp
 obtain ⟨⟨nA0, nA1⟩, _⟩ := tp2 hkk (g := w.heap.size) (by simp) (by simp)
 have hk := hkk.peel
 clear hkk hW
 have z0 := hk.size
 have kq1 := Lib.hid hk
 have KT := kq1
 clear hk
 replace H1 := Lib.hid (H1.out.kept0 KT.out)
 have tA0 := nA0.out
 have tA1 := nA1.out
 have kr := Lib.hid (Kept.refl [] ww0)
 go_region_held3 (fun w' => w'.cell? ⟨w.heap.size, 0, none⟩ = some (.bool (isNeg x)) ∧ w'.cell? ⟨w.heap.size, 1, none⟩ = some (.slice a (mag x).length c) ∧ Hid (Kept [] ww0 w'))
  ((go_split_ands; (try refine ⟨?_, ?_, ?_⟩) <;> with_reducible first | assumption | exact drew_alloc_cell (by assumption) | exact drew_alloc_cell2 (by assumption) | exact drew_cell (by assumption) | exact alloc_cell (by assumption) | exact Lib.hid (Kept.trans0 (Hid.out (by assumption)) (by assumption)) | exact Kept.cell (by assumption) (by assumption) (by simp) | exact Kept.allocH (by assumption) | exact Kept.drewAlloc2H (by assumption) | exact Kept.drewAllocH (by assumption) | exact Kept.drewH (by assumption)))
  (first
   | (have g9 := hk4; clear g9; go_at_call 48; go_split_ands; refine (BigValue_n o1 _ _ _ (hs4.kept0 (Kept.refl [] _)) LO.out NO.out).mono ?_; intro e v5 hh; obtain ⟨hh, hk5⟩ := hh; subst hh; have hkr := (((((((Kept.refl [] ww0).drew).trans0 hk1).trans0 hk2).trans0 hk3).trans0 hk4).trans0 hk5))
   | (have g9 := hk3; clear g9; go_at_call 27; go_split_ands; refine (FloorDiv_n y e1 o1 _ _ _ _ _ (hs2.kept0 hk3) (hs3.kept0 (Kept.refl [] _)) LY.out HL9.out HP9.out HZ.out).mono ?_; intro e v4 hh; unfold BigZ at hh; obtain ⟨b4, hh⟩ := hh; obtain ⟨c4, hh, hs4, hf4, hk4⟩ := hh; subst hh)
   | (have g9 := hk2; clear g9; go_at_call 50; go_split_ands; refine (oneInUnits_z k e1 _ hk96 HE.out).mono ?_; intro e v3 hh; unfold BigV at hh; obtain ⟨b3, hh⟩ := hh; obtain ⟨c3, hh, hs3, hf3, hk3⟩ := hh; subst hh)
   | (have g9 := hk1; clear g9; go_at_call 49; go_split_ands; refine (MulBigs_n x 6371008800000 y _ _ _ _ _ (H1.out.kept0 (((Kept.refl [] _).drew).trans0 hk1)) (hs1.kept0 (Kept.refl [] _)) LX.out (one_len9 (by decide) (by decide)) HY.out).mono ?_; intro e v2 hh; unfold BigZ at hh; obtain ⟨b2, hh⟩ := hh; obtain ⟨c2, hh, hs2, hf2, hk2⟩ := hh; subst hh)
   | (go_at_call 47; go_split_ands; refine (BigOf_any 6371008800000 _ (by omega) (by omega)).mono ?_; intro e v1 hh; unfold BigV at hh; obtain ⟨b1, hh⟩ := hh; obtain ⟨c1, hh, hs1, hf1, hk1⟩ := hh; subst hh))
 clear kr tA0 tA1
 have zk1 := hk1.size
 have zk2 := hk2.size
 have zk3 := hk3.size
 have zk4 := hk4.size
 have zk5 := hk5.size
 simp only [World.size_drew] at zk1 hf1
 have hk := hkr
 clear hkr hk1 hk2 hk3 hk4 hk5
 have z1 := hk.size
 have kq2 := Lib.hid hk
 clear hk
 clear hs1 hs2 hs3 hs4 hf1 hf2 hf3 hf4
 go_wp2_with fail
 go_ret
 replace KT := Lib.hid (KT.out.trans0 kq2.out)
 exact ⟨rfl, KT.out⟩

set_option maxHeartbeats 8000000 in
set_option maxRecDepth 20000 in
theorem arcOf_c (k : Nat) (x : Int) (a : Option Addr) (c : Nat) (w : World) (h : Sl w a (mag x).length c (mag x)) (hP : isP (k : Int) = true) (h1 : -(4 * p2 k) ≤ x) (h2 : x ≤ 4 * p2 k) :
  Calls Try.prog 26 #[.int .i64 (k : Int), .agg #[.bool (isNeg x), .slice a (mag x).length c], .func (.func 28) #[] #[]] w (Ans w (.int .i64 (wayC k x))) := by
 have hk96 : k ≤ 96 := by rcases isP_cases hP with h | h | h <;> omega
 obtain ⟨e1, he⟩ : ∃ e, e = p2 k := ⟨_, rfl⟩
 obtain ⟨y, hy⟩ : ∃ y, y = x * 6371008800000 := ⟨_, rfl⟩
 have hl := (p2_big hk96 he).1
 have hp := (p2_big hk96 he).2
 have ly : (mag y).length ≤ 20 := by rw [hy]; exact way_len hk96 h1 h2
 have lx : (mag x).length ≤ 20 := len20 (M := 4 * 79228162514264337593543950336) (by have := p2_le hk96; omega) (by have := p2_le hk96; omega) (by omega)
 obtain ⟨o1, ho⟩ : ∃ o, o = wayC k x := ⟨_, rfl⟩
 have hb := wayC_in h1 h2
 rw [← ho] at hb ⊢
 have hz : o1 = cdiv y e1 := by rw [ho, he, hy]; rfl
 have lo : (mag o1).length ≤ 40 := by have := small_len (n := o1) (by omega) (by omega); omega
 have no := not_out hb.1 hb.2
 have H1 := Lib.hid h
 have F1 := Lib.hid h.lt
 have HE := Lib.hid he
 have HY := Lib.hid hy
 have HL9 := Lib.hid hl
 have HP9 := Lib.hid hp
 have LY := Lib.hid ly
 have LX := Lib.hid lx
 have HZ := Lib.hid hz
 have LO := Lib.hid lo
 have NO := Lib.hid no
 clear h hP he hy hl hp ly lx hz lo no hb ho h1 h2
 go_enter Try.func26, Try.ntmps26
 go_upto_region 1 with fail
 generalize hW : (w.alloc (.cells #[.bool (isNeg x), .slice a (mag x).length c] 41)) = ww0
 have hkk : Kept [] (w.alloc (.cells #[.bool (isNeg x), .slice a (mag x).length c] 41)) ww0 := by rw [hW]; exact Kept.refl _ _
 have zzA : w.heap.size + 1 = ww0.heap.size := by rw [← hW]; simp
 obtain ⟨⟨nA0, nA1⟩, _⟩ := tp2 hkk (g := w.heap.size) (by simp) (by simp)
 have hk := hkk.peel
 clear hkk hW
 have z0 := hk.size
 have kq1 := Lib.hid hk
 have KT := kq1
 clear hk
 replace H1 := Lib.hid (H1.out.kept0 KT.out)
 have tA0 := nA0.out
 have tA1 := nA1.out
 have kr := Lib.hid (Kept.refl [] ww0)
 go_region_held3 (fun w' => w'.cell? ⟨w.heap.size, 0, none⟩ = some (.bool (isNeg x)) ∧ w'.cell? ⟨w.heap.size, 1, none⟩ = some (.slice a (mag x).length c) ∧ Hid (Kept [] ww0 w'))
  ((go_split_ands; (try refine ⟨?_, ?_, ?_⟩) <;> with_reducible first | assumption | exact drew_alloc_cell (by assumption) | exact drew_alloc_cell2 (by assumption) | exact drew_cell (by assumption) | exact alloc_cell (by assumption) | exact Lib.hid (Kept.trans0 (Hid.out (by assumption)) (by assumption)) | exact Kept.cell (by assumption) (by assumption) (by simp) | exact Kept.allocH (by assumption) | exact Kept.drewAlloc2H (by assumption) | exact Kept.drewAllocH (by assumption) | exact Kept.drewH (by assumption)))
  (first
   | (have g9 := hk4; clear g9; go_at_call 48; go_split_ands; refine (BigValue_n o1 _ _ _ (hs4.kept0 (Kept.refl [] _)) LO.out NO.out).mono ?_; intro e v5 hh; obtain ⟨hh, hk5⟩ := hh; subst hh; have hkr := (((((((Kept.refl [] ww0).drew).trans0 hk1).trans0 hk2).trans0 hk3).trans0 hk4).trans0 hk5))
   | (have g9 := hk3; clear g9; go_at_call 28; go_split_ands; refine (CeilDiv_n y e1 o1 _ _ _ _ _ (hs2.kept0 hk3) (hs3.kept0 (Kept.refl [] _)) LY.out HL9.out HP9.out HZ.out).mono ?_; intro e v4 hh; unfold BigZ at hh; obtain ⟨b4, hh⟩ := hh; obtain ⟨c4, hh, hs4, hf4, hk4⟩ := hh; subst hh)
   | (have g9 := hk2; clear g9; go_at_call 50; go_split_ands; refine (oneInUnits_z k e1 _ hk96 HE.out).mono ?_; intro e v3 hh; unfold BigV at hh; obtain ⟨b3, hh⟩ := hh; obtain ⟨c3, hh, hs3, hf3, hk3⟩ := hh; subst hh)
   | (have g9 := hk1; clear g9; go_at_call 49; go_split_ands; refine (MulBigs_n x 6371008800000 y _ _ _ _ _ (H1.out.kept0 (((Kept.refl [] _).drew).trans0 hk1)) (hs1.kept0 (Kept.refl [] _)) LX.out (one_len9 (by decide) (by decide)) HY.out).mono ?_; intro e v2 hh; unfold BigZ at hh; obtain ⟨b2, hh⟩ := hh; obtain ⟨c2, hh, hs2, hf2, hk2⟩ := hh; subst hh)
   | (go_at_call 47; go_split_ands; refine (BigOf_any 6371008800000 _ (by omega) (by omega)).mono ?_; intro e v1 hh; unfold BigV at hh; obtain ⟨b1, hh⟩ := hh; obtain ⟨c1, hh, hs1, hf1, hk1⟩ := hh; subst hh))
 clear kr tA0 tA1
 have zk1 := hk1.size
 have zk2 := hk2.size
 have zk3 := hk3.size
 have zk4 := hk4.size
 have zk5 := hk5.size
 simp only [World.size_drew] at zk1 hf1
 have hk := hkr
 clear hkr hk1 hk2 hk3 hk4 hk5
 have z1 := hk.size
 have kq2 := Lib.hid hk
 clear hk
 clear hs1 hs2 hs3 hs4 hf1 hf2 hf3 hf4
 go_wp2_with fail
 go_ret
 replace KT := Lib.hid (KT.out.trans0 kq2.out)
 exact ⟨rfl, KT.out⟩

set_option maxHeartbeats 8000000 in
set_option maxRecDepth 20000 in
theorem MetresOf_any (P : Int) (p q : Bool) (a b : Option Addr) (n c m d : Nat) (xs ys : List Int) (w : World) (h1 : Sl w a n c xs) (h2 : Sl w b m d ys) :
  Calls Try.prog 14 #[.int .i64 P, .agg #[.bool p, .slice a n c, .bool q, .slice b m d]] w (Ans w (.agg #[.int .i64 (metC P p xs q ys), .int .i64 (metL P p xs q ys), .int .i64 (metH P p xs q ys)])) := by
 by_cases hz : farC P 4 p xs q ys = 0
 ·by_cases hn0 : p = true
  ·skip
   obtain ⟨e1, e2, e3⟩ := met_neg hz hn0
   rw [e1, e2, e3]
   have ea := h1.1
   have eb := h2.1
   have H1 := Lib.hid h1
   have H2 := Lib.hid h2
   have F1 := Lib.hid h1.lt
   have F2 := Lib.hid h2.lt
   have HF := Lib.hid hz
   have HN := Lib.hid hn0
   clear h1 h2 hz hn0 e1 e2 e3 ea eb
   go_enter Try.func14, Try.ntmps14
   go_wp2_with fail
   generalize hW : ((w.alloc (.cells #[.bool p, .slice a n c, .bool q, .slice b m d] 43)).alloc (.cells #[.int .i64 0, .int .i64 0, .int .i64 0] 39)) = ww0
   have hkk : Kept [] ((w.alloc (.cells #[.bool p, .slice a n c, .bool q, .slice b m d] 43)).alloc (.cells #[.int .i64 0, .int .i64 0, .int .i64 0] 39)) ww0 := by rw [hW]; exact Kept.refl _ _
   have zzA : w.heap.size + 1 + 1 = ww0.heap.size := by rw [← hW]; simp
   obtain ⟨⟨nA0, nA1, nA2, nA3⟩, _⟩ := tp4 hkk.peel (g := w.heap.size) (by simp) (by simp)
   obtain ⟨⟨nR0, nR1, nR2⟩, fR0, fR1, fR2⟩ := tp3 hkk (g := w.heap.size + 1) (by simp) (by simp)
   have hk := hkk.peel.peel
   clear hkk hW
   have z0 := hk.size
   have kq1 := Lib.hid hk
   have KT := kq1
   clear hk
   replace H1 := Lib.hid (H1.out.kept0 KT.out)
   replace H2 := Lib.hid (H2.out.kept0 KT.out)
   have tA0 := nA0.out
   have tA1 := nA1.out
   have tA2 := nA2.out
   have tA3 := nA3.out
   go_wp2_with fail
   clear tA0 tA1 tA2 tA3
   refine (farFault_any P 4 _ _ _ _ _ _ _ _ _ _ _ H1.out H2.out (by omega) (by omega)).mono ?_
   intro e v1 hh; obtain ⟨hh, hk1⟩ := hh; subst hh
   have hk := hk1
   have z1 := hk.size
   have kq2 := Lib.hid hk
   clear hk
   rw [HF.out]
   have hn := HN.out
   replace nA0 := kc kq2.out nA0
   have tA0 := nA0.out
   replace nA1 := kc kq2.out nA1
   have tA1 := nA1.out
   replace nA2 := kc kq2.out nA2
   have tA2 := nA2.out
   replace nA3 := kc kq2.out nA3
   have tA3 := nA3.out
   replace fR0 := kf kq2.out nR0 fR0
   replace nR0 := kc kq2.out nR0
   have tR0 := nR0.out
   replace fR1 := kf kq2.out nR1 fR1
   replace nR1 := kc kq2.out nR1
   have tR1 := nR1.out
   replace fR2 := kf kq2.out nR2 fR2
   replace nR2 := kc kq2.out nR2
   have tR2 := nR2.out
   have uR0 := fR0.out
   have uR1 := fR1.out
   have uR2 := fR2.out
   go_wp2_with fail
   clear hn tA0 tA1 tA2 tA3 tR0 tR1 tR2 uR0 uR1 uR2
   generalize hW : (((v1.setCell ⟨w.heap.size + 1, 0, none⟩ (.int .i64 3)).setCell ⟨w.heap.size + 1, 1, none⟩ (.int .i64 0)).setCell ⟨w.heap.size + 1, 2, none⟩ (.int .i64 0)) = ww2
   have hk : Kept [w.heap.size + 1] v1 ww2 := by rw [← hW]; exact (((Kept.refl _ _).setCell _ _ (by simp)).setCell _ _ (by simp)).setCell _ _ (by simp)
   have hfz : ∀ x, ww2.frozen? x = v1.frozen? x := by rw [← hW]; intro x; simp only [World.frozen?_setCell]
   have e0 : ww2.cell? ⟨w.heap.size + 1, 0, none⟩ = some (.int .i64 3) := by rw [← hW]; rw [World.cell?_setCell_other _ _ _ _ (by simp), World.cell?_setCell_other _ _ _ _ (by simp)]; exact World.cell?_setCell_same _ _ _ (by exact nR0.out)
   have e1 : ww2.cell? ⟨w.heap.size + 1, 1, none⟩ = some (.int .i64 0) := by rw [← hW]; rw [World.cell?_setCell_other _ _ _ _ (by simp)]; exact World.cell?_setCell_same _ _ _ (by rw [World.cell?_setCell_other _ _ _ _ (by simp)]; exact nR1.out)
   have e2 : ww2.cell? ⟨w.heap.size + 1, 2, none⟩ = some (.int .i64 0) := by rw [← hW]; exact World.cell?_setCell_same _ _ _ (by rw [World.cell?_setCell_other _ _ _ _ (by simp), World.cell?_setCell_other _ _ _ _ (by simp)]; exact nR2.out)
   have z2 := hk.size
   have kq3 := Lib.hid hk
   have hz3 := Lib.hid hfz
   replace fR0 := kz hfz fR0
   replace fR1 := kz hfz fR1
   replace fR2 := kz hfz fR2
   replace nR0 := Lib.hid e0
   replace nR1 := Lib.hid e1
   replace nR2 := Lib.hid e2
   clear hk hfz hW e0 e1 e2
   have e0 := nR0.out
   have e1 := nR1.out
   have e2 := nR2.out
   refine bodyPost_ret (v := .agg #[.int .i64 3, .int .i64 0, .int .i64 0]) (by simp [results, Try.results14, go_sem, e0, e1, e2]) rfl ?_
   replace KT := Lib.hid (KT.out.trans0 kq2.out)
   replace KT := Lib.hid (KT.out.trans kq3.out (fun x hx hlt => by simp at hx; omega))
   exact ⟨rfl, KT.out⟩
  ·obtain ⟨hP, hf0⟩ := precS_zero (farC_pre9 hz)
   obtain ⟨k, rfl, hk96, hk16⟩ := isP_nat hP
   obtain ⟨x1, x2, rfl, rfl, rfl, rfl, fx⟩ := ok_letters (spanFault_zero hf0)
   have ea := h1.1
   have eb := h2.1
   subst ea eb
   have hn : isNeg x1 = false := by simpa using hn0
   clear hn0
   obtain ⟨e1, e2, e3⟩ := met_ok hz hn
   rw [e1, e2, e3]
   have hin := far_in9 fx.1 (farC_pre9 hz) hz
   have i1 : -(4 * p2 k) ≤ x1 := hin.1
   have i2 : x1 ≤ x2 := hin.2.1
   have i3 : x2 ≤ 4 * p2 k := hin.2.2
   obtain ⟨u1, hu1⟩ : ∃ u, u = wayF k x1 := ⟨_, rfl⟩
   obtain ⟨u2, hu2⟩ : ∃ u, u = wayC k x2 := ⟨_, rfl⟩
   rw [← hu1, ← hu2]
   have H1 := Lib.hid h1
   have H2 := Lib.hid h2
   have F1 := Lib.hid h1.lt
   have F2 := Lib.hid h2.lt
   have HF := Lib.hid hz
   have HP := Lib.hid hP
   have HN := Lib.hid hn
   have HU1 := Lib.hid hu1
   have HU2 := Lib.hid hu2
   have I1 := Lib.hid i1
   have I2 := Lib.hid i2
   have I3 := Lib.hid i3
   clear h1 h2 hz hP hn hf0 hin hu1 hu2 i1 i2 i3 e1 e2 e3 fx
   go_enter Try.func14, Try.ntmps14
   go_wp2_with fail
   generalize hW : ((w.alloc (.cells #[.bool (isNeg x1), .slice a (mag x1).length c, .bool (isNeg x2), .slice b (mag x2).length d] 43)).alloc (.cells #[.int .i64 0, .int .i64 0, .int .i64 0] 39)) = ww0
   have hkk : Kept [] ((w.alloc (.cells #[.bool (isNeg x1), .slice a (mag x1).length c, .bool (isNeg x2), .slice b (mag x2).length d] 43)).alloc (.cells #[.int .i64 0, .int .i64 0, .int .i64 0] 39)) ww0 := by rw [hW]; exact Kept.refl _ _
   have zzA : w.heap.size + 1 + 1 = ww0.heap.size := by rw [← hW]; simp
   obtain ⟨⟨nA0, nA1, nA2, nA3⟩, _⟩ := tp4 hkk.peel (g := w.heap.size) (by simp) (by simp)
   obtain ⟨⟨nR0, nR1, nR2⟩, fR0, fR1, fR2⟩ := tp3 hkk (g := w.heap.size + 1) (by simp) (by simp)
   have hk := hkk.peel.peel
   clear hkk hW
   have z0 := hk.size
   have kq1 := Lib.hid hk
   have KT := kq1
   clear hk
   replace H1 := Lib.hid (H1.out.kept0 KT.out)
   replace H2 := Lib.hid (H2.out.kept0 KT.out)
   have tA0 := nA0.out
   have tA1 := nA1.out
   have tA2 := nA2.out
   have tA3 := nA3.out
   go_wp2_with fail
   clear tA0 tA1 tA2 tA3
   refine (farFault_any (k : Int) 4 _ _ _ _ _ _ _ _ _ _ _ H1.out H2.out (by omega) (by omega)).mono ?_
   intro e v1 hh; obtain ⟨hh, hk1⟩ := hh; subst hh
   have hk := hk1
   have z1 := hk.size
   have kq2 := Lib.hid hk
   clear hk
   rw [HF.out]
   have hn := HN.out
   replace nA0 := kc kq2.out nA0
   have tA0 := nA0.out
   replace nA1 := kc kq2.out nA1
   have tA1 := nA1.out
   replace nA2 := kc kq2.out nA2
   have tA2 := nA2.out
   replace nA3 := kc kq2.out nA3
   have tA3 := nA3.out
   go_upto_region 6 with fail
   clear hn tA0 tA1 tA2 tA3
   replace fR0 := kf kq2.out nR0 fR0
   replace nR0 := kc kq2.out nR0
   replace fR1 := kf kq2.out nR1 fR1
   replace nR1 := kc kq2.out nR1
   replace fR2 := kf kq2.out nR2 fR2
   replace nR2 := kc kq2.out nR2
   replace H1 := Lib.hid (H1.out.kept0 kq2.out)
   replace H2 := Lib.hid (H2.out.kept0 kq2.out)
   replace KT := Lib.hid (KT.out.trans0 kq2.out)
   have tA0 := nA0.out
   have tA1 := nA1.out
   have tA2 := nA2.out
   have tA3 := nA3.out
   have kr := Lib.hid (Kept.refl [] v1)
   go_region_held3 (fun w' => w'.cell? ⟨w.heap.size, 0, none⟩ = some (.bool (isNeg x1)) ∧ w'.cell? ⟨w.heap.size, 1, none⟩ = some (.slice a (mag x1).length c) ∧ w'.cell? ⟨w.heap.size, 2, none⟩ = some (.bool (isNeg x2)) ∧ w'.cell? ⟨w.heap.size, 3, none⟩ = some (.slice b (mag x2).length d) ∧ Hid (Kept [] v1 w'))
    ((go_split_ands; (try refine ⟨?_, ?_, ?_, ?_, ?_⟩) <;> with_reducible first | assumption | exact drew_alloc_cell (by assumption) | exact drew_alloc_cell2 (by assumption) | exact drew_cell (by assumption) | exact alloc_cell (by assumption) | exact Lib.hid (Kept.trans0 (Hid.out (by assumption)) (by assumption)) | exact Kept.cell (by assumption) (by assumption) (by simp) | exact Kept.allocH (by assumption) | exact Kept.drewAlloc2H (by assumption) | exact Kept.drewAllocH (by assumption) | exact Kept.drewH (by assumption)))
    (first
     | (have g9 := hk2; clear g9; go_at_call 26; go_split_ands; refine (arcOf_c k x2 _ _ _ (H2.out.kept0 (((Kept.refl [] _).drew).trans0 hk2)) HP.out (by have := I1.out; have := I2.out; omega) I3.out).mono ?_; intro e v3 hh; obtain ⟨hh, hk3⟩ := hh; subst hh; have hkr := ((((Kept.refl [] v1).drew).trans0 hk2).trans0 hk3))
     | (go_at_call 26; go_split_ands; refine (arcOf_f k x1 _ _ _ (H1.out.kept0 ((Kept.refl [] _).drew)) HP.out I1.out (by have := I2.out; have := I3.out; omega)).mono ?_; intro e v2 hh; obtain ⟨hh, hk2⟩ := hh; subst hh))
   clear kr tA0 tA1 tA2 tA3
   have zk2 := hk2.size
   have zk3 := hk3.size
   simp only [World.size_drew] at zk2
   have hk := hkr
   clear hkr hk2 hk3
   have z2 := hk.size
   have kq3 := Lib.hid hk
   clear hk
   rw [← HU1.out, ← HU2.out]
   replace fR0 := kf kq3.out nR0 fR0
   replace nR0 := kc kq3.out nR0
   have tR0 := nR0.out
   replace fR1 := kf kq3.out nR1 fR1
   replace nR1 := kc kq3.out nR1
   have tR1 := nR1.out
   replace fR2 := kf kq3.out nR2 fR2
   replace nR2 := kc kq3.out nR2
   have tR2 := nR2.out
   have uR0 := fR0.out
   have uR1 := fR1.out
   have uR2 := fR2.out
   go_wp2_with fail
   clear tR0 tR1 tR2 uR0 uR1 uR2
   generalize hW : (((v3.setCell ⟨w.heap.size + 1, 0, none⟩ (.int .i64 0)).setCell ⟨w.heap.size + 1, 1, none⟩ (.int .i64 u1)).setCell ⟨w.heap.size + 1, 2, none⟩ (.int .i64 u2)) = ww3
   have hk : Kept [w.heap.size + 1] v3 ww3 := by rw [← hW]; exact (((Kept.refl _ _).setCell _ _ (by simp)).setCell _ _ (by simp)).setCell _ _ (by simp)
   have hfz : ∀ x, ww3.frozen? x = v3.frozen? x := by rw [← hW]; intro x; simp only [World.frozen?_setCell]
   have e0 : ww3.cell? ⟨w.heap.size + 1, 0, none⟩ = some (.int .i64 0) := by rw [← hW]; rw [World.cell?_setCell_other _ _ _ _ (by simp), World.cell?_setCell_other _ _ _ _ (by simp)]; exact World.cell?_setCell_same _ _ _ (by exact nR0.out)
   have e1 : ww3.cell? ⟨w.heap.size + 1, 1, none⟩ = some (.int .i64 u1) := by rw [← hW]; rw [World.cell?_setCell_other _ _ _ _ (by simp)]; exact World.cell?_setCell_same _ _ _ (by rw [World.cell?_setCell_other _ _ _ _ (by simp)]; exact nR1.out)
   have e2 : ww3.cell? ⟨w.heap.size + 1, 2, none⟩ = some (.int .i64 u2) := by rw [← hW]; exact World.cell?_setCell_same _ _ _ (by rw [World.cell?_setCell_other _ _ _ _ (by simp), World.cell?_setCell_other _ _ _ _ (by simp)]; exact nR2.out)
   have z3 := hk.size
   have kq4 := Lib.hid hk
   have hz4 := Lib.hid hfz
   replace fR0 := kz hfz fR0
   replace fR1 := kz hfz fR1
   replace fR2 := kz hfz fR2
   replace nR0 := Lib.hid e0
   replace nR1 := Lib.hid e1
   replace nR2 := Lib.hid e2
   clear hk hfz hW e0 e1 e2
   have e0 := nR0.out
   have e1 := nR1.out
   have e2 := nR2.out
   refine bodyPost_ret (v := .agg #[.int .i64 0, .int .i64 u1, .int .i64 u2]) (by simp [results, Try.results14, go_sem, e0, e1, e2]) rfl ?_
   replace KT := Lib.hid (KT.out.trans0 kq3.out)
   replace KT := Lib.hid (KT.out.trans kq4.out (fun x hx hlt => by simp at hx; omega))
   exact ⟨rfl, KT.out⟩
 ·skip
  obtain ⟨e1, e2, e3⟩ := met_bad hz
  rw [e1, e2, e3]
  obtain ⟨f, hf⟩ : ∃ f, farC P 4 p xs q ys = f := ⟨_, rfl⟩
  rw [hf] at hz ⊢
  have hne : (f == 0) = false := by rw [beq_eq_false_iff_ne]; exact hz
  have ea := h1.1
  have eb := h2.1
  have H1 := Lib.hid h1
  have H2 := Lib.hid h2
  have F1 := Lib.hid h1.lt
  have F2 := Lib.hid h2.lt
  have HF := Lib.hid hf
  clear h1 h2 hz hf e1 e2 e3 ea eb
  go_enter Try.func14, Try.ntmps14
  go_wp2_with fail
  generalize hW : ((w.alloc (.cells #[.bool p, .slice a n c, .bool q, .slice b m d] 43)).alloc (.cells #[.int .i64 0, .int .i64 0, .int .i64 0] 39)) = ww0
  have hkk : Kept [] ((w.alloc (.cells #[.bool p, .slice a n c, .bool q, .slice b m d] 43)).alloc (.cells #[.int .i64 0, .int .i64 0, .int .i64 0] 39)) ww0 := by rw [hW]; exact Kept.refl _ _
  have zzA : w.heap.size + 1 + 1 = ww0.heap.size := by rw [← hW]; simp
  obtain ⟨⟨nA0, nA1, nA2, nA3⟩, _⟩ := tp4 hkk.peel (g := w.heap.size) (by simp) (by simp)
  obtain ⟨⟨nR0, nR1, nR2⟩, fR0, fR1, fR2⟩ := tp3 hkk (g := w.heap.size + 1) (by simp) (by simp)
  have hk := hkk.peel.peel
  clear hkk hW
  have z0 := hk.size
  have kq1 := Lib.hid hk
  have KT := kq1
  clear hk
  replace H1 := Lib.hid (H1.out.kept0 KT.out)
  replace H2 := Lib.hid (H2.out.kept0 KT.out)
  have tA0 := nA0.out
  have tA1 := nA1.out
  have tA2 := nA2.out
  have tA3 := nA3.out
  go_wp2_with fail
  clear tA0 tA1 tA2 tA3
  refine (farFault_any P 4 _ _ _ _ _ _ _ _ _ _ _ H1.out H2.out (by omega) (by omega)).mono ?_
  intro e v1 hh; obtain ⟨hh, hk1⟩ := hh; subst hh
  have hk := hk1
  have z1 := hk.size
  have kq2 := Lib.hid hk
  clear hk
  rw [HF.out]
  replace fR0 := kf kq2.out nR0 fR0
  replace nR0 := kc kq2.out nR0
  have tR0 := nR0.out
  replace fR1 := kf kq2.out nR1 fR1
  replace nR1 := kc kq2.out nR1
  have tR1 := nR1.out
  replace fR2 := kf kq2.out nR2 fR2
  replace nR2 := kc kq2.out nR2
  have tR2 := nR2.out
  have uR0 := fR0.out
  have uR1 := fR1.out
  have uR2 := fR2.out
  go_wp2_with fail
  clear tR0 tR1 tR2 uR0 uR1 uR2
  generalize hW : (((v1.setCell ⟨w.heap.size + 1, 0, none⟩ (.int .i64 f)).setCell ⟨w.heap.size + 1, 1, none⟩ (.int .i64 0)).setCell ⟨w.heap.size + 1, 2, none⟩ (.int .i64 0)) = ww2
  have hk : Kept [w.heap.size + 1] v1 ww2 := by rw [← hW]; exact (((Kept.refl _ _).setCell _ _ (by simp)).setCell _ _ (by simp)).setCell _ _ (by simp)
  have hfz : ∀ x, ww2.frozen? x = v1.frozen? x := by rw [← hW]; intro x; simp only [World.frozen?_setCell]
  have e0 : ww2.cell? ⟨w.heap.size + 1, 0, none⟩ = some (.int .i64 f) := by rw [← hW]; rw [World.cell?_setCell_other _ _ _ _ (by simp), World.cell?_setCell_other _ _ _ _ (by simp)]; exact World.cell?_setCell_same _ _ _ (by exact nR0.out)
  have e1 : ww2.cell? ⟨w.heap.size + 1, 1, none⟩ = some (.int .i64 0) := by rw [← hW]; rw [World.cell?_setCell_other _ _ _ _ (by simp)]; exact World.cell?_setCell_same _ _ _ (by rw [World.cell?_setCell_other _ _ _ _ (by simp)]; exact nR1.out)
  have e2 : ww2.cell? ⟨w.heap.size + 1, 2, none⟩ = some (.int .i64 0) := by rw [← hW]; exact World.cell?_setCell_same _ _ _ (by rw [World.cell?_setCell_other _ _ _ _ (by simp), World.cell?_setCell_other _ _ _ _ (by simp)]; exact nR2.out)
  have z2 := hk.size
  have kq3 := Lib.hid hk
  have hz3 := Lib.hid hfz
  replace fR0 := kz hfz fR0
  replace fR1 := kz hfz fR1
  replace fR2 := kz hfz fR2
  replace nR0 := Lib.hid e0
  replace nR1 := Lib.hid e1
  replace nR2 := Lib.hid e2
  clear hk hfz hW e0 e1 e2
  have e0 := nR0.out
  have e1 := nR1.out
  have e2 := nR2.out
  refine bodyPost_ret (v := .agg #[.int .i64 f, .int .i64 0, .int .i64 0]) (by simp [results, Try.results14, go_sem, e0, e1, e2]) rfl ?_
  replace KT := Lib.hid (KT.out.trans0 kq2.out)
  replace KT := Lib.hid (KT.out.trans kq3.out (fun x hx hlt => by simp at hx; omega))
  exact ⟨rfl, KT.out⟩

end Go.Proofs.Ytfafjijoeanbhaa
