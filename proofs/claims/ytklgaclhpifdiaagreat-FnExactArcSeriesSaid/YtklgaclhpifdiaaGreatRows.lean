/-
  No cell of these rows narrows 'for every input' (looked for: loops, veiled, ifaces, maps, wideKeys, modest, calm, conditions, laid).
  DERIVED. THE GIVEN ROWS OF THIS SEAT. 6 by the template 'for every input the law returns true; each argument reads behind the call as it read before'; 0 by the template 'total and deterministic' (their statements: YtklgaclhpifdiaaGreatTotals.lean).
  GIVEN WITH THE SEED: the statements are not yours to turn. If you find one false, say at which input.
  Laid BY PROGRAM, IN A SANDBOX (cutbox-rows.mjs): the forced cells as the released guide's own fill.sh prints them over the translation 4dd6fee9e32f7ef9… (all of the seat's roots in one cut). By AI agents, Wed Nov 11 2026. No macro, syntax, notation, axiom, sorry.
-/
import Derived.Test.YtklgaclhpifdiaaGreatChecked
import GoSem.Claim
import GoSem.ClaimJoined
import GoSem.ClaimMapViews
import Derived.JoinedTies
import Derived.KernelRfl
namespace Go.Proofs.YtklgaclhpifdiaaGreat
/- THE CELL 'sum', in the pinned program and in every row, IS THE sha256 OF THE DUMP (.gsa) THAT YtklgaclhpifdiaaGreatProg.lean LOADS. Nothing in Lean hashes anything: it is a label: what it is worth is what the hold of that sum in a sandbox is worth. -/
noncomputable def Tryz.pinned : Pinned := { name := "ytklgaclhpifdiaagreat", sum := "4dd6fee9e32f7ef9f5858ff53defcc7217a8ebffb588747349cb65359157252e", checked := Tryz.checked }
namespace Rows
def none {H : Type} : Left H := { results := [], args := [] }

/-- 'laws.FnExactPiSpan': WHATEVER THE INPUT: true; the input reads as it did. -/
def fnExactPiSpanSpec : ChangeSpec := { name := "fnExactPiSpan", fn := fun _ => fun
  | [d] => { results := [.lit (.bool true)], args := [d] }
  | _ => none }
def fnExactPiSpanRow : OpenClaim := { program := "ytklgaclhpifdiaagreat", sum := "4dd6fee9e32f7ef9f5858ff53defcc7217a8ebffb588747349cb65359157252e", func := "loop.example/g00742/laws.FnExactPiSpan", spec := "fnExactPiSpan", unfollowed := true, recurses := true, apart := false }
def FnExactPiSpanSaid : Prop := fnExactPiSpanRow.holds Tryz.pinned (OpenSpec.ofChange fnExactPiSpanSpec)

/-- ITS FALSE NEIGHBOUR: 'it returns false'. Refute it at one input. -/
def fnExactPiSpanWrong : ChangeSpec := { name := "fnExactPiSpan", fn := fun _ => fun
  | [d] => { results := [.lit (.bool false)], args := [d] }
  | _ => none }
def FnExactPiSpanWrongFalsely : Prop := fnExactPiSpanRow.holds Tryz.pinned (OpenSpec.ofChange fnExactPiSpanWrong)

/-- 'laws.FnExactArcSeries': WHATEVER THE INPUT: true; the input reads as it did. -/
def fnExactArcSeriesSpec : ChangeSpec := { name := "fnExactArcSeries", fn := fun _ => fun
  | [d1, d2] => { results := [.lit (.bool true)], args := [d1, d2] }
  | _ => none }
def fnExactArcSeriesRow : OpenClaim := { program := "ytklgaclhpifdiaagreat", sum := "4dd6fee9e32f7ef9f5858ff53defcc7217a8ebffb588747349cb65359157252e", func := "loop.example/g00742/laws.FnExactArcSeries", spec := "fnExactArcSeries", unfollowed := true, recurses := true, apart := false }
def FnExactArcSeriesSaid : Prop := fnExactArcSeriesRow.holds Tryz.pinned (OpenSpec.ofChange fnExactArcSeriesSpec)

/-- ITS FALSE NEIGHBOUR: 'it returns false'. Refute it at one input. -/
def fnExactArcSeriesWrong : ChangeSpec := { name := "fnExactArcSeries", fn := fun _ => fun
  | [d1, d2] => { results := [.lit (.bool false)], args := [d1, d2] }
  | _ => none }
def FnExactArcSeriesWrongFalsely : Prop := fnExactArcSeriesRow.holds Tryz.pinned (OpenSpec.ofChange fnExactArcSeriesWrong)

/-- 'laws.FnExactAtanSpan': WHATEVER THE INPUT: true; the input reads as it did. -/
def fnExactAtanSpanSpec : ChangeSpec := { name := "fnExactAtanSpan", fn := fun _ => fun
  | [d1, d2] => { results := [.lit (.bool true)], args := [d1, d2] }
  | _ => none }
def fnExactAtanSpanRow : OpenClaim := { program := "ytklgaclhpifdiaagreat", sum := "4dd6fee9e32f7ef9f5858ff53defcc7217a8ebffb588747349cb65359157252e", func := "loop.example/g00742/laws.FnExactAtanSpan", spec := "fnExactAtanSpan", unfollowed := true, recurses := true, apart := false }
def FnExactAtanSpanSaid : Prop := fnExactAtanSpanRow.holds Tryz.pinned (OpenSpec.ofChange fnExactAtanSpanSpec)

/-- ITS FALSE NEIGHBOUR: 'it returns false'. Refute it at one input. -/
def fnExactAtanSpanWrong : ChangeSpec := { name := "fnExactAtanSpan", fn := fun _ => fun
  | [d1, d2] => { results := [.lit (.bool false)], args := [d1, d2] }
  | _ => none }
def FnExactAtanSpanWrongFalsely : Prop := fnExactAtanSpanRow.holds Tryz.pinned (OpenSpec.ofChange fnExactAtanSpanWrong)

/-- 'laws.FnExactSinSpan': WHATEVER THE INPUT: true; the input reads as it did. -/
def fnExactSinSpanSpec : ChangeSpec := { name := "fnExactSinSpan", fn := fun _ => fun
  | [d1, d2] => { results := [.lit (.bool true)], args := [d1, d2] }
  | _ => none }
def fnExactSinSpanRow : OpenClaim := { program := "ytklgaclhpifdiaagreat", sum := "4dd6fee9e32f7ef9f5858ff53defcc7217a8ebffb588747349cb65359157252e", func := "loop.example/g00742/laws.FnExactSinSpan", spec := "fnExactSinSpan", unfollowed := true, recurses := true, apart := false }
def FnExactSinSpanSaid : Prop := fnExactSinSpanRow.holds Tryz.pinned (OpenSpec.ofChange fnExactSinSpanSpec)

/-- ITS FALSE NEIGHBOUR: 'it returns false'. Refute it at one input. -/
def fnExactSinSpanWrong : ChangeSpec := { name := "fnExactSinSpan", fn := fun _ => fun
  | [d1, d2] => { results := [.lit (.bool false)], args := [d1, d2] }
  | _ => none }
def FnExactSinSpanWrongFalsely : Prop := fnExactSinSpanRow.holds Tryz.pinned (OpenSpec.ofChange fnExactSinSpanWrong)

/-- 'laws.FnExactCosSpan': WHATEVER THE INPUT: true; the input reads as it did. -/
def fnExactCosSpanSpec : ChangeSpec := { name := "fnExactCosSpan", fn := fun _ => fun
  | [d1, d2] => { results := [.lit (.bool true)], args := [d1, d2] }
  | _ => none }
def fnExactCosSpanRow : OpenClaim := { program := "ytklgaclhpifdiaagreat", sum := "4dd6fee9e32f7ef9f5858ff53defcc7217a8ebffb588747349cb65359157252e", func := "loop.example/g00742/laws.FnExactCosSpan", spec := "fnExactCosSpan", unfollowed := true, recurses := true, apart := false }
def FnExactCosSpanSaid : Prop := fnExactCosSpanRow.holds Tryz.pinned (OpenSpec.ofChange fnExactCosSpanSpec)

/-- ITS FALSE NEIGHBOUR: 'it returns false'. Refute it at one input. -/
def fnExactCosSpanWrong : ChangeSpec := { name := "fnExactCosSpan", fn := fun _ => fun
  | [d1, d2] => { results := [.lit (.bool false)], args := [d1, d2] }
  | _ => none }
def FnExactCosSpanWrongFalsely : Prop := fnExactCosSpanRow.holds Tryz.pinned (OpenSpec.ofChange fnExactCosSpanWrong)

/-- 'laws.FnExactHalfTurn': WHATEVER THE INPUT: true; the input reads as it did. -/
def fnExactHalfTurnSpec : ChangeSpec := { name := "fnExactHalfTurn", fn := fun _ => fun
  | [d1, d2, d3] => { results := [.lit (.bool true)], args := [d1, d2, d3] }
  | _ => none }
def fnExactHalfTurnRow : OpenClaim := { program := "ytklgaclhpifdiaagreat", sum := "4dd6fee9e32f7ef9f5858ff53defcc7217a8ebffb588747349cb65359157252e", func := "loop.example/g00742/laws.FnExactHalfTurn", spec := "fnExactHalfTurn", unfollowed := true, recurses := true, apart := false }
def FnExactHalfTurnSaid : Prop := fnExactHalfTurnRow.holds Tryz.pinned (OpenSpec.ofChange fnExactHalfTurnSpec)

/-- ITS FALSE NEIGHBOUR: 'it returns false'. Refute it at one input. -/
def fnExactHalfTurnWrong : ChangeSpec := { name := "fnExactHalfTurn", fn := fun _ => fun
  | [d1, d2, d3] => { results := [.lit (.bool false)], args := [d1, d2, d3] }
  | _ => none }
def FnExactHalfTurnWrongFalsely : Prop := fnExactHalfTurnRow.holds Tryz.pinned (OpenSpec.ofChange fnExactHalfTurnWrong)

/- THE SECOND FORM. 'bulk': how many values and letters a reading holds, each counted each time it is reached (what is shared counts as often as it is met; a slice's spare places count too). A statement '..UptoSaid' is the law's where the arguments, and the package variables that the reading takes, are together of bulk at most 1048576: NARROWER than '..Said'. Prove '..Said' where nothing that the law and all that it calls make is longer than what came in: it says more and counts as full. Else prove '..UptoSaid'. A law counts once. -/
mutual
def uptoBulk {H : Type} : DataW H → Nat
  | .lit (.string bytes) => bytes.length + 1
  | .lit _ => 1
  | .nil => 1
  | .ptr d => uptoBulk d + 1
  | .slice elems spare => uptoBulkAll elems + uptoBulkAll spare + 1
  | .agg parts => uptoBulkAll parts + 1
  | .iface _ d => uptoBulk d + 1
  | .map entries => uptoBulkEntries entries + 1
  | .held _ => 1
def uptoBulkAll {H : Type} : List (DataW H) → Nat
  | [] => 0
  | d :: r => uptoBulk d + uptoBulkAll r
def uptoBulkEntries {H : Type} : List (Lit × DataW H) → Nat
  | [] => 0
  | x :: r => uptoBulkEntry x + uptoBulkEntries r
def uptoBulkEntry {H : Type} : Lit × DataW H → Nat
  | (.string bytes, d) => bytes.length + uptoBulk d + 1
  | (_, d) => uptoBulk d + 1
 end
def uptoSmall : (H : Type) → List (DataW H) → Bool := fun _ ds => decide (uptoBulkAll ds ≤ 1048576)
def OpenSpec.upto (s : _root_.Go.ChangeSpec) : _root_.Go.OpenSpec := { _root_.Go.OpenSpec.ofChange s with cond := some uptoSmall }

/-- 'laws.FnExactPiSpan', WHERE WHAT IT READS IS OF BULK AT MOST 1048576: true; the input reads as it did. -/
def fnExactPiSpanUptoRow : OpenClaim := { program := "ytklgaclhpifdiaagreat", sum := "4dd6fee9e32f7ef9f5858ff53defcc7217a8ebffb588747349cb65359157252e", func := "loop.example/g00742/laws.FnExactPiSpan", spec := "fnExactPiSpan", unfollowed := true, recurses := true, apart := false, narrowed := true }
def FnExactPiSpanUptoSaid : Prop := fnExactPiSpanUptoRow.holds Tryz.pinned (OpenSpec.upto fnExactPiSpanSpec)

/-- 'laws.FnExactArcSeries', WHERE WHAT IT READS IS OF BULK AT MOST 1048576: true; the input reads as it did. -/
def fnExactArcSeriesUptoRow : OpenClaim := { program := "ytklgaclhpifdiaagreat", sum := "4dd6fee9e32f7ef9f5858ff53defcc7217a8ebffb588747349cb65359157252e", func := "loop.example/g00742/laws.FnExactArcSeries", spec := "fnExactArcSeries", unfollowed := true, recurses := true, apart := false, narrowed := true }
def FnExactArcSeriesUptoSaid : Prop := fnExactArcSeriesUptoRow.holds Tryz.pinned (OpenSpec.upto fnExactArcSeriesSpec)

/-- 'laws.FnExactAtanSpan', WHERE WHAT IT READS IS OF BULK AT MOST 1048576: true; the input reads as it did. -/
def fnExactAtanSpanUptoRow : OpenClaim := { program := "ytklgaclhpifdiaagreat", sum := "4dd6fee9e32f7ef9f5858ff53defcc7217a8ebffb588747349cb65359157252e", func := "loop.example/g00742/laws.FnExactAtanSpan", spec := "fnExactAtanSpan", unfollowed := true, recurses := true, apart := false, narrowed := true }
def FnExactAtanSpanUptoSaid : Prop := fnExactAtanSpanUptoRow.holds Tryz.pinned (OpenSpec.upto fnExactAtanSpanSpec)

/-- 'laws.FnExactSinSpan', WHERE WHAT IT READS IS OF BULK AT MOST 1048576: true; the input reads as it did. -/
def fnExactSinSpanUptoRow : OpenClaim := { program := "ytklgaclhpifdiaagreat", sum := "4dd6fee9e32f7ef9f5858ff53defcc7217a8ebffb588747349cb65359157252e", func := "loop.example/g00742/laws.FnExactSinSpan", spec := "fnExactSinSpan", unfollowed := true, recurses := true, apart := false, narrowed := true }
def FnExactSinSpanUptoSaid : Prop := fnExactSinSpanUptoRow.holds Tryz.pinned (OpenSpec.upto fnExactSinSpanSpec)

/-- 'laws.FnExactCosSpan', WHERE WHAT IT READS IS OF BULK AT MOST 1048576: true; the input reads as it did. -/
def fnExactCosSpanUptoRow : OpenClaim := { program := "ytklgaclhpifdiaagreat", sum := "4dd6fee9e32f7ef9f5858ff53defcc7217a8ebffb588747349cb65359157252e", func := "loop.example/g00742/laws.FnExactCosSpan", spec := "fnExactCosSpan", unfollowed := true, recurses := true, apart := false, narrowed := true }
def FnExactCosSpanUptoSaid : Prop := fnExactCosSpanUptoRow.holds Tryz.pinned (OpenSpec.upto fnExactCosSpanSpec)

/-- 'laws.FnExactHalfTurn', WHERE WHAT IT READS IS OF BULK AT MOST 1048576: true; the input reads as it did. -/
def fnExactHalfTurnUptoRow : OpenClaim := { program := "ytklgaclhpifdiaagreat", sum := "4dd6fee9e32f7ef9f5858ff53defcc7217a8ebffb588747349cb65359157252e", func := "loop.example/g00742/laws.FnExactHalfTurn", spec := "fnExactHalfTurn", unfollowed := true, recurses := true, apart := false, narrowed := true }
def FnExactHalfTurnUptoSaid : Prop := fnExactHalfTurnUptoRow.holds Tryz.pinned (OpenSpec.upto fnExactHalfTurnSpec)

end Rows
end Go.Proofs.YtklgaclhpifdiaaGreat
