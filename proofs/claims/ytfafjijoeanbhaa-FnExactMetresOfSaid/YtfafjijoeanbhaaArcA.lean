/-
  Joined texts.
-/
import Derived.Test.YtfafjijoeanbhaaSpanM
import Derived.Deep.RegionHeld3
import Derived.Deep.DrawnRows
import Derived.Deep.DeepCutAuto
import Derived.Test.YtfafjijoeanbhaaZedP
import Derived.Test.YtfafjijoeanbhaaBigOf
namespace Go.Proofs.Ytfafjijoeanbhaa
open Go.RowKit

/-- A call that answers a big that is the number z, whose limbs lie below B. -/
def BigO (B : Nat) (w : World) (z : Int) (e : Ending) (w' : World) : Prop :=
 ∃ a c, e = .returned (.agg #[.bool (isNeg z), .slice a (mag z).length c]) ∧ Sl w' a (mag z).length c (mag z) ∧ (0 < (mag z).length → ∀ x, a = some x → x.block < B) ∧ Kept [] w w'
theorem bigO_of {B : Nat} {w w' : World} {l : List BE} {b : BE} {e : Ending} (hb : b ∈ l) (ho : OkB w l) (hB : ∀ b ∈ l, 0 < b.len → ∀ x, b.ptr = some x → x.block < B) (h : Val w b.val e w') : BigO B w b.z e w' := by
 obtain ⟨rfl, hk⟩ := h
 obtain ⟨hs, hok⟩ := ho b hb
 have h1 : isNeg b.z = b.neg := hok.isNeg
 have h2 : mag b.z = b.limbs := hok.mag
 have h3 := hs.1
 refine ⟨b.ptr, b.cap, ?_, ?_, ?_, hk⟩
 ·rw [h1, h2, h3]; rfl
 ·rw [h2, h3]; exact hs.kept0 hk
 ·rw [h2, h3]; exact hB b hb
theorem leastOf_isAbove_old (B : Nat) (g : Nat) (p q : Bool) (a b : Option Addr) (n c m d : Nat) (xs ys : List Int) (z : Int) (w : World) (h : RowB w g [⟨p, a, n, c, xs⟩, ⟨q, b, m, d, ys⟩]) (h1 : Sl w a n c xs) (h2 : Sl w b m d ys) (hx : BigOk p xs) (hy : BigOk q ys) (f1 : 0 < n → ∀ x, a = some x → x.block < B) (f2 : 0 < m → ∀ x, b = some x → x.block < B) (hz : z = maxZ (sv p xs) (sv q ys)) :
  Calls Try.prog 73 #[.func (.func 44) #[] #[], .slice (some ⟨g, 0, none⟩) 2 2] w (BigO B w z) := by
 have e := leastOf_isAbove g ⟨p, a, n, c, xs⟩ [⟨q, b, m, d, ys⟩] w h (okB2 h1 h2 hx hy) (by simp)
 have hm : pickF gtZ ⟨p, a, n, c, xs⟩ [⟨q, b, m, d, ys⟩] ∈ [(⟨p, a, n, c, xs⟩ : BE), ⟨q, b, m, d, ys⟩] := by
  rcases pick_mem gtZ [⟨q, b, m, d, ys⟩] ⟨p, a, n, c, xs⟩ with h | h
  ·rw [h]; exact List.mem_cons_self
  ·exact List.mem_cons_of_mem _ h
 have hz' : z = (pickF gtZ ⟨p, a, n, c, xs⟩ [⟨q, b, m, d, ys⟩]).z := by rw [pick2_gt]; exact hz
 subst hz'
 refine e.mono fun e9 w9 h9 => bigO_of hm (okB2 h1 h2 hx hy) (fun u hu => ?_) h9
 rcases List.mem_cons.1 hu with rfl | hu
 ·exact f1
 ·rcases List.mem_cons.1 hu with rfl | hu
  ·exact f2
  ·cases hu
end Go.Proofs.Ytfafjijoeanbhaa
namespace Go.Proofs.Ytfafjijoeanbhaa
open Go.RowKit

/-- A call that answers a span, told by numbers, wherever its ends lie. -/
def SpanN (w : World) (o1 o2 : Int) (e : Ending) (w' : World) : Prop :=
 ∃ a c b d, e = .returned (.agg #[.bool (isNeg o1), .slice a (mag o1).length c, .bool (isNeg o2), .slice b (mag o2).length d]) ∧ Sl w' a (mag o1).length c (mag o1) ∧ Sl w' b (mag o2).length d (mag o2) ∧ Kept [] w w'
attribute [local go_sem ↓] field_big field_end0 field_end1

theorem bigOk_abs {x : Int} (h : (mag x).length ≤ 20) : BigOk false (mag x) := by
 have h1 : mag (abZ x) = mag x := by
  unfold abZ; split
  ·exact mag_neg x
  ·rfl
 have h2 := bigOk_of (z := abZ x) (by rw [h1]; omega)
 rw [isNeg_no (abZ_nonneg x), h1] at h2
 exact h2
theorem away_le {x1 x2 : Int} {n : Nat} (h1 : (mag x1).length ≤ n) (h2 : (mag x2).length ≤ n) : (mag (away2 ⟨x1, x2⟩)).length ≤ n := by
 have e : ∀ z : Int, mag (abZ z) = mag z := fun z => by
  unfold abZ; split
  ·exact mag_neg z
  ·rfl
 unfold away2 maxZ
 split
 ·rw [e]; exact h2
 ·rw [e]; exact h1

end Go.Proofs.Ytfafjijoeanbhaa
