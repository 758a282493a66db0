/-
  Contracts of the model's l2Root and l2CeilRoot. Condition: the slice is a natural in a block of numbers.
-/
import Derived.Test.YtlhiahhpmjiioaaJ5
import Derived.Test.YtlhiahhpmjiioaaJ4
namespace Go.Proofs.Ytlhiahhpmjiioaa
open Go.RowKit

theorem l1Add_dig (a b : Option Addr) (n c m d : Nat) (x y : Int) (w : World) (h : Rd w a n (digits x)) (h' : Rd w b m (digits y)) (hx : 0 ≤ x) (hy : 0 ≤ y) (hxl : (digits x).length ≤ 900) (hyl : (digits y).length ≤ 900) :
    Calls Try.prog 44 #[.slice a n c, .slice b m d] w (SlR w (digits (x + y))) := by
  have := l1Add_any a b n c m d (digits x) (digits y) w h h' (canon_digits' x) (canon_digits' y) (by have := h.1; omega) (by have := h'.1; omega)
  rwa [val_digits' hx, val_digits' hy] at this
theorem l1Compare_dig (a b : Option Addr) (n c m d : Nat) (x y : Int) (w : World) (h : Rd w a n (digits x)) (h' : Rd w b m (digits y)) (hx : 0 ≤ x) (hy : 0 ≤ y) (hxl : (digits x).length ≤ 40) (hyl : (digits y).length ≤ 40) :
    Calls Try.prog 51 #[.slice a n c, .slice b m d] w (Ans w (.int .i64 (cmpV x y))) := by
  have := l1Compare_any a b n c m d (digits x) (digits y) w h h' (nat40_of_canon (canon_digits' x) hxl) (nat40_of_canon (canon_digits' y) hyl)
  rwa [val_digits' hx, val_digits' hy] at this

end Go.Proofs.Ytlhiahhpmjiioaa
