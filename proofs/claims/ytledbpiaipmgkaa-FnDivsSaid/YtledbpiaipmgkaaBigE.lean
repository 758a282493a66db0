/-
  Contracts of AddBigs, SubBigs, MulBigs, the program's and the model's. Condition: the limbs lie in blocks of numbers.
-/
import Derived.Test.YtledbpiaipmgkaaBigD
import Derived.Test.YtledbpiaipmgkaaSMul
namespace Go.Proofs.Ytledbpiaipmgkaa
open Go.RowKit
attribute [local go_sem ↓] Go.wp_at_zero Go.wp_at_succ

theorem sv_not (q : Bool) (ys : List Int) : sv (!q) ys = - sv q ys := sg_not
theorem mag_sv {q : Bool} {ys : List Int} (h : Canon ys) : mag (sv q ys) = ys := by unfold sv; rw [mag_sg (canon_nonneg h).1, digits_val h]
theorem mag_neg (z : Int) : mag (-z) = mag z := by
  rcases Int.lt_or_le z 0 with h | h
  · rw [mag_yes h, mag_no (by omega)]
  · by_cases e : z = 0
    · subst e; rfl
    · rw [mag_yes (z := -z) (by omega), mag_no h, Int.neg_neg]
theorem sv_isNeg {q : Bool} {ys : List Int} (h : Canon ys) : sv (isNeg (- sv q ys)) ys = - sv q ys := by
  have := sv_mag (- sv q ys)
  rwa [mag_neg, mag_sv h] at this
/-- What l2Whole hands on lies where the limbs lay. -/
theorem fr_of_fit {B : Nat} {z : Int} {a b : Option Addr} (h : Fr B a (mag z).length) (hb : 0 < (fitB z).limbs.length → b = a) : Fr B b (fitB z).limbs.length := fun hn x hx => by
  rw [hb hn] at hx
  by_cases h40 : 40 < (mag z).length
  · rw [fitB_many h40] at hn; simp [noBig] at hn
  · rw [fitB_ok h40] at hn; exact h hn x hx

theorem MulNats_fit (a b : Option Addr) (n c m c' : Nat) (xs ys : List Int) (w : World) (h : Rd w a n xs) (h' : Rd w b m ys) (hz : fault2 xs ys = 0) :
    Calls Try.prog 31 #[.slice a n c, .slice b m c'] w (NatR w (fitCode (val xs * val ys)) (fitList (val xs * val ys))) := by
  have := MulNats_any a b n c m c' xs ys w h h'
  rwa [if_pos hz, if_pos hz] at this

end Go.Proofs.Ytledbpiaipmgkaa
