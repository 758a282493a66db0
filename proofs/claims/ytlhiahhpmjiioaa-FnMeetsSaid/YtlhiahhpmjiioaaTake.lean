/-
  Contracts of guessQuotLimb and takeQuotLimb. Conditions: the slices read as lists of limbs; what is divided is below 65536 times the divisor.
-/
import Derived.Test.YtlhiahhpmjiioaaMul
import Derived.Test.YtlhiahhpmjiioaaJ1
import Derived.ScopeJumps
import Derived.WalkMore
namespace Go.Proofs.Ytlhiahhpmjiioaa
open Go.RowKit

theorem limbAt_eq (a : Option Addr) (n c : Nat) (xs : List Int) (p y : Int) (w : World) (h : Rd w a n xs) (hp : -9223372036854775808 ≤ p ∧ p ≤ 9223372036854775807) (hv : atP xs p = y) :
    Calls Try.prog 64 #[.slice a n c, .int .i64 p] w fun e w' => e = .returned (.int .i64 y) ∧ w = w' :=
  (limbAt_at a n c xs p y w h hp hv).mono fun _ _ ⟨h1, h2⟩ => ⟨h1, h2.symm⟩

theorem Upd.again {cs ds es out out2 : List Int} {off : Nat} (h : Upd cs off out ds) (h2 : Upd ds off out2 es) (hl : out2.length = out.length) : Upd cs off out2 es :=
  ⟨by rw [h2.len, h.len], h2.new, fun j hj => by rw [h2.old j hj, h.old j (by rw [← hl]; exact hj)]⟩

/-- What a limb of a quotient answers: the limb; what is left lies in the window. -/
def TakeR (w : World) (g off : Nat) (cs : List Int) (n : Nat) (X V : Int) (e : Ending) (w' : World) : Prop :=
  ∃ (out ds : List Int), e = .returned (.int .i64 (X / V)) ∧ out.length = n ∧ AllLimbs out ∧ val out = X % V ∧ Upd cs off out ds ∧ Blk w' g ds ∧ Kept [g] w w'

end Go.Proofs.Ytlhiahhpmjiioaa
