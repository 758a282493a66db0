/-
  Contracts of divideBigs, FloorDiv, CeilDiv, the program's. Condition: the limbs lie in blocks of numbers.
-/
import Derived.Test.YtledbpiaipmgkaaBigE
import Derived.Test.YtledbpiaipmgkaaDiv
namespace Go.Proofs.Ytledbpiaipmgkaa
open Go.RowKit

theorem DivNats_zero (a b : Option Addr) (n c m c' : Nat) (xs ys : List Int) (w : World) (h : Rd w a n xs) (h' : Rd w b m ys) (hz : fault2 xs ys = 0) (hy : ys.length = 0) :
    Calls Try.prog 29 #[.slice a n c, .slice b m c'] w (DivR w 6 [] []) := by
  have := DivNats_any a b n c m c' xs ys w h h'
  unfold divCode divQuot divRest at this
  rwa [if_pos hz, if_pos hy, if_neg (fun hn => hn.2 hy), if_neg (fun hn => hn.2 hy)] at this
theorem DivNats_ok (a b : Option Addr) (n c m c' : Nat) (xs ys : List Int) (w : World) (h : Rd w a n xs) (h' : Rd w b m ys) (hz : fault2 xs ys = 0) (hy : ys.length ≠ 0) :
    Calls Try.prog 29 #[.slice a n c, .slice b m c'] w (DivR w 0 (digits (val xs / val ys)) (digits (val xs % val ys))) := by
  have := DivNats_any a b n c m c' xs ys w h h'
  unfold divCode divQuot divRest at this
  rwa [if_pos hz, if_neg hy, if_pos ⟨hz, hy⟩, if_pos ⟨hz, hy⟩] at this

/-- A big answer, stored into the result's block, which is the third one of the call. -/
theorem bigR_fin3 {w w1 : World} {r : BV} {a : Option Addr} {c : Nat} (hS : Sl w1 a r.limbs.length c r.limbs) (hF : Fr (w.heap.size + 1 + 1 + 1) a r.limbs.length) (hk : Kept [] w w1) :
    BigR w r (.returned (.agg #[.int .i64 r.code, .bool r.neg, .slice a r.limbs.length c])) (((w1.setCell ⟨w.heap.size + 1 + 1, 0, none⟩ (.int .i64 r.code)).setCell ⟨w.heap.size + 1 + 1, 1, none⟩ (.bool r.neg)).setCell ⟨w.heap.size + 1 + 1, 2, none⟩ (.slice a r.limbs.length c)) :=
  ⟨a, c, rfl, hS.kept ((((Kept.refl [w.heap.size + 1 + 1] w1).setCell _ _ (by simp)).setCell _ _ (by simp)).setCell _ _ (by simp)) (fun hn x hx => by have := hF hn x hx; simp; omega), hF.mono (by omega),
    ((hk.setCell _ _ (by simp; omega)).setCell _ _ (by simp; omega)).setCell _ _ (by simp; omega)⟩

/-- A row that holds the one limb 1. -/
theorem rd_row1 (w : World) {g : Nat} (hg : w.heap.size = g) : Rd (w.alloc (.cells #[.int .i64 1] 2)) (some ⟨g, 0, none⟩) 1 [1] := by
  subst hg
  have := Sl.ofBlk (Blk.new w [1]) (by simp)
  exact this.rd

end Go.Proofs.Ytledbpiaipmgkaa
