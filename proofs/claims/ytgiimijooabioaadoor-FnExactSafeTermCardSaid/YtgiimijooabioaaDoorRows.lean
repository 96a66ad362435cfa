/-
  NARROWER THAN 'FOR EVERY INPUT', by the rows' own cells (each row's printed sentence says how): FnExactSafeFor: loops, laid · FnExactUnsafeLabels: loops, laid · FnExactSafeTerm: loops, laid · FnExactCastLabels: loops, laid · FnExactParseTerm: laid · FnExactParseCast: laid · FnExactTypeIn: loops, laid · FnExactTypeOf: loops, laid · FnExactCastTypeOf: loops, laid.
  DERIVED. THE GIVEN ROWS OF THIS SEAT. 9 by the template 'for every input the law returns true; each argument reads behind the call as it read before'; 0 by the template 'total and deterministic' (their statements: YtgiimijooabioaaDoorTotals.lean).
  GIVEN WITH THE SEED: the statements are not yours to turn. If you find one false, say at which input.
  Laid BY PROGRAM, IN A SANDBOX (cutbox-rows.mjs): the forced cells as the released guide's own fill.sh prints them over the translation 7f0dbeba275c817f… (all of the seat's roots in one cut). By AI agents, Wed Nov 11 2026. No macro, syntax, notation, axiom, sorry.
-/
import Derived.Test.YtgiimijooabioaaDoorChecked
import GoSem.Claim
import GoSem.ClaimJoined
import GoSem.ClaimMapViews
import Derived.JoinedTies
import Derived.KernelRfl
namespace Go.Proofs.YtgiimijooabioaaDoor
/- THE CELL 'sum', in the pinned program and in every row, IS THE sha256 OF THE DUMP (.gsa) THAT YtgiimijooabioaaDoorProg.lean LOADS. Nothing in Lean hashes anything: it is a label: what it is worth is what the hold of that sum in a sandbox is worth. -/
noncomputable def Tryd.pinned : Pinned := { name := "ytgiimijooabioaadoor", sum := "7f0dbeba275c817f773eb8a037fc58763d5f3c4d8846ea36f46117e3d659fece", checked := Tryd.checked }
namespace Rows
def none {H : Type} : Left H := { results := [], args := [] }

/- WHAT THE LISTED PACKAGE-LEVEL VARIABLES READ AS WHEN THE CALL BEGINS. Each datum BY PROGRAM (the guide's laid-datum.mjs) off the statement by which the dump's own 'gosem.cut.vars' lays the variable. In a bare row this is a premise. The card (YtgiimijooabioaaDoorCards.lean) ties it to the program's text. -/
def laid_loop_example_gradual_impl_termForms {H : Type} : DataW H := .agg [.lit (.string []), .lit (.string [110]), .lit (.string [100]), .lit (.string [84]), .lit (.string [70]), .lit (.string [33, 110, 58, 116, 46, 65]), .lit (.string [40, 65, 32, 66, 41]), .lit (.string [40, 65, 43, 66, 41]), .lit (.string [40, 65, 60, 66, 41]), .lit (.string [123, 65, 63, 66, 58, 67, 125]), .lit (.string [91, 65, 44, 66, 93]), .lit (.string [36, 65]), .lit (.string [37, 65]), .lit (.string [40, 65, 58, 116, 41]), .lit (.string [40, 65, 58, 115, 126, 116, 35, 108, 41])]

/-- 'laws.FnExactSafeFor': WHATEVER THE INPUT: true; the input reads as it did. -/
def fnExactSafeForSpec : ChangeSpec := { name := "fnExactSafeFor", vars := ["loop.example/gradual/impl.termForms"], fn := fun _ => fun
  | [d1, d2, g1] => { results := [.lit (.bool true)], args := [d1, d2], vars := [g1] }
  | _ => none }
def fnExactSafeForRow : OpenClaim := { program := "ytgiimijooabioaadoor", sum := "7f0dbeba275c817f773eb8a037fc58763d5f3c4d8846ea36f46117e3d659fece", func := "loop.example/gradual/laws.FnExactSafeFor", spec := "fnExactSafeFor", inPlace := ["internal/bytealg.IndexByteString"], unfollowed := true, recurses := true, named := ["loop.example/gradual/impl.termForms"], loops := true, plainKeys := false, apart := false, laid := [("loop.example/gradual/impl.termForms", laid_loop_example_gradual_impl_termForms)] }
def FnExactSafeForSaid : Prop := fnExactSafeForRow.holds Tryd.pinned (OpenSpec.ofChange fnExactSafeForSpec)

/-- ITS FALSE NEIGHBOUR: 'it returns false'. Refute it at one input. -/
def fnExactSafeForWrong : ChangeSpec := { name := "fnExactSafeFor", vars := ["loop.example/gradual/impl.termForms"], fn := fun _ => fun
  | [d1, d2, g1] => { results := [.lit (.bool false)], args := [d1, d2], vars := [g1] }
  | _ => none }
def FnExactSafeForWrongFalsely : Prop := fnExactSafeForRow.holds Tryd.pinned (OpenSpec.ofChange fnExactSafeForWrong)

/-- 'laws.FnExactUnsafeLabels': WHATEVER THE INPUT: true; the input reads as it did. -/
def fnExactUnsafeLabelsSpec : ChangeSpec := { name := "fnExactUnsafeLabels", vars := ["loop.example/gradual/impl.termForms"], fn := fun _ => fun
  | [d, g1] => { results := [.lit (.bool true)], args := [d], vars := [g1] }
  | _ => none }
def fnExactUnsafeLabelsRow : OpenClaim := { program := "ytgiimijooabioaadoor", sum := "7f0dbeba275c817f773eb8a037fc58763d5f3c4d8846ea36f46117e3d659fece", func := "loop.example/gradual/laws.FnExactUnsafeLabels", spec := "fnExactUnsafeLabels", inPlace := ["internal/bytealg.IndexByteString"], unfollowed := true, recurses := true, named := ["loop.example/gradual/impl.termForms"], loops := true, plainKeys := false, apart := false, laid := [("loop.example/gradual/impl.termForms", laid_loop_example_gradual_impl_termForms)] }
def FnExactUnsafeLabelsSaid : Prop := fnExactUnsafeLabelsRow.holds Tryd.pinned (OpenSpec.ofChange fnExactUnsafeLabelsSpec)

/-- ITS FALSE NEIGHBOUR: 'it returns false'. Refute it at one input. -/
def fnExactUnsafeLabelsWrong : ChangeSpec := { name := "fnExactUnsafeLabels", vars := ["loop.example/gradual/impl.termForms"], fn := fun _ => fun
  | [d, g1] => { results := [.lit (.bool false)], args := [d], vars := [g1] }
  | _ => none }
def FnExactUnsafeLabelsWrongFalsely : Prop := fnExactUnsafeLabelsRow.holds Tryd.pinned (OpenSpec.ofChange fnExactUnsafeLabelsWrong)

/-- 'laws.FnExactSafeTerm': WHATEVER THE INPUT: true; the input reads as it did. -/
def fnExactSafeTermSpec : ChangeSpec := { name := "fnExactSafeTerm", vars := ["loop.example/gradual/impl.termForms"], fn := fun _ => fun
  | [d, g1] => { results := [.lit (.bool true)], args := [d], vars := [g1] }
  | _ => none }
def fnExactSafeTermRow : OpenClaim := { program := "ytgiimijooabioaadoor", sum := "7f0dbeba275c817f773eb8a037fc58763d5f3c4d8846ea36f46117e3d659fece", func := "loop.example/gradual/laws.FnExactSafeTerm", spec := "fnExactSafeTerm", inPlace := ["internal/bytealg.IndexByteString"], unfollowed := true, recurses := true, named := ["loop.example/gradual/impl.termForms"], loops := true, plainKeys := false, apart := false, laid := [("loop.example/gradual/impl.termForms", laid_loop_example_gradual_impl_termForms)] }
def FnExactSafeTermSaid : Prop := fnExactSafeTermRow.holds Tryd.pinned (OpenSpec.ofChange fnExactSafeTermSpec)

/-- ITS FALSE NEIGHBOUR: 'it returns false'. Refute it at one input. -/
def fnExactSafeTermWrong : ChangeSpec := { name := "fnExactSafeTerm", vars := ["loop.example/gradual/impl.termForms"], fn := fun _ => fun
  | [d, g1] => { results := [.lit (.bool false)], args := [d], vars := [g1] }
  | _ => none }
def FnExactSafeTermWrongFalsely : Prop := fnExactSafeTermRow.holds Tryd.pinned (OpenSpec.ofChange fnExactSafeTermWrong)

/-- 'laws.FnExactCastLabels': WHATEVER THE INPUT: true; the input reads as it did. -/
def fnExactCastLabelsSpec : ChangeSpec := { name := "fnExactCastLabels", vars := ["loop.example/gradual/impl.termForms"], fn := fun _ => fun
  | [d, g1] => { results := [.lit (.bool true)], args := [d], vars := [g1] }
  | _ => none }
def fnExactCastLabelsRow : OpenClaim := { program := "ytgiimijooabioaadoor", sum := "7f0dbeba275c817f773eb8a037fc58763d5f3c4d8846ea36f46117e3d659fece", func := "loop.example/gradual/laws.FnExactCastLabels", spec := "fnExactCastLabels", inPlace := ["internal/bytealg.IndexByteString"], unfollowed := true, recurses := true, named := ["loop.example/gradual/impl.termForms"], loops := true, plainKeys := false, apart := false, laid := [("loop.example/gradual/impl.termForms", laid_loop_example_gradual_impl_termForms)] }
def FnExactCastLabelsSaid : Prop := fnExactCastLabelsRow.holds Tryd.pinned (OpenSpec.ofChange fnExactCastLabelsSpec)

/-- ITS FALSE NEIGHBOUR: 'it returns false'. Refute it at one input. -/
def fnExactCastLabelsWrong : ChangeSpec := { name := "fnExactCastLabels", vars := ["loop.example/gradual/impl.termForms"], fn := fun _ => fun
  | [d, g1] => { results := [.lit (.bool false)], args := [d], vars := [g1] }
  | _ => none }
def FnExactCastLabelsWrongFalsely : Prop := fnExactCastLabelsRow.holds Tryd.pinned (OpenSpec.ofChange fnExactCastLabelsWrong)

/-- 'laws.FnExactParseTerm': WHATEVER THE INPUT: true; the input reads as it did. -/
def fnExactParseTermSpec : ChangeSpec := { name := "fnExactParseTerm", vars := ["loop.example/gradual/impl.termForms"], fn := fun _ => fun
  | [d, g1] => { results := [.lit (.bool true)], args := [d], vars := [g1] }
  | _ => none }
def fnExactParseTermRow : OpenClaim := { program := "ytgiimijooabioaadoor", sum := "7f0dbeba275c817f773eb8a037fc58763d5f3c4d8846ea36f46117e3d659fece", func := "loop.example/gradual/laws.FnExactParseTerm", spec := "fnExactParseTerm", inPlace := ["internal/bytealg.IndexByteString"], unfollowed := true, recurses := true, named := ["loop.example/gradual/impl.termForms"], plainKeys := false, apart := false, laid := [("loop.example/gradual/impl.termForms", laid_loop_example_gradual_impl_termForms)] }
def FnExactParseTermSaid : Prop := fnExactParseTermRow.holds Tryd.pinned (OpenSpec.ofChange fnExactParseTermSpec)

/-- ITS FALSE NEIGHBOUR: 'it returns false'. Refute it at one input. -/
def fnExactParseTermWrong : ChangeSpec := { name := "fnExactParseTerm", vars := ["loop.example/gradual/impl.termForms"], fn := fun _ => fun
  | [d, g1] => { results := [.lit (.bool false)], args := [d], vars := [g1] }
  | _ => none }
def FnExactParseTermWrongFalsely : Prop := fnExactParseTermRow.holds Tryd.pinned (OpenSpec.ofChange fnExactParseTermWrong)

/-- 'laws.FnExactParseCast': WHATEVER THE INPUT: true; the input reads as it did. -/
def fnExactParseCastSpec : ChangeSpec := { name := "fnExactParseCast", vars := ["loop.example/gradual/impl.termForms"], fn := fun _ => fun
  | [d, g1] => { results := [.lit (.bool true)], args := [d], vars := [g1] }
  | _ => none }
def fnExactParseCastRow : OpenClaim := { program := "ytgiimijooabioaadoor", sum := "7f0dbeba275c817f773eb8a037fc58763d5f3c4d8846ea36f46117e3d659fece", func := "loop.example/gradual/laws.FnExactParseCast", spec := "fnExactParseCast", inPlace := ["internal/bytealg.IndexByteString"], unfollowed := true, recurses := true, named := ["loop.example/gradual/impl.termForms"], plainKeys := false, apart := false, laid := [("loop.example/gradual/impl.termForms", laid_loop_example_gradual_impl_termForms)] }
def FnExactParseCastSaid : Prop := fnExactParseCastRow.holds Tryd.pinned (OpenSpec.ofChange fnExactParseCastSpec)

/-- ITS FALSE NEIGHBOUR: 'it returns false'. Refute it at one input. -/
def fnExactParseCastWrong : ChangeSpec := { name := "fnExactParseCast", vars := ["loop.example/gradual/impl.termForms"], fn := fun _ => fun
  | [d, g1] => { results := [.lit (.bool false)], args := [d], vars := [g1] }
  | _ => none }
def FnExactParseCastWrongFalsely : Prop := fnExactParseCastRow.holds Tryd.pinned (OpenSpec.ofChange fnExactParseCastWrong)

/-- 'laws.FnExactTypeIn': WHATEVER THE INPUT: true; the input reads as it did. -/
def fnExactTypeInSpec : ChangeSpec := { name := "fnExactTypeIn", vars := ["loop.example/gradual/impl.termForms"], fn := fun _ => fun
  | [d1, d2, g1] => { results := [.lit (.bool true)], args := [d1, d2], vars := [g1] }
  | _ => none }
def fnExactTypeInRow : OpenClaim := { program := "ytgiimijooabioaadoor", sum := "7f0dbeba275c817f773eb8a037fc58763d5f3c4d8846ea36f46117e3d659fece", func := "loop.example/gradual/laws.FnExactTypeIn", spec := "fnExactTypeIn", inPlace := ["internal/bytealg.IndexByteString"], unfollowed := true, recurses := true, named := ["loop.example/gradual/impl.termForms"], loops := true, plainKeys := false, apart := false, laid := [("loop.example/gradual/impl.termForms", laid_loop_example_gradual_impl_termForms)] }
def FnExactTypeInSaid : Prop := fnExactTypeInRow.holds Tryd.pinned (OpenSpec.ofChange fnExactTypeInSpec)

/-- ITS FALSE NEIGHBOUR: 'it returns false'. Refute it at one input. -/
def fnExactTypeInWrong : ChangeSpec := { name := "fnExactTypeIn", vars := ["loop.example/gradual/impl.termForms"], fn := fun _ => fun
  | [d1, d2, g1] => { results := [.lit (.bool false)], args := [d1, d2], vars := [g1] }
  | _ => none }
def FnExactTypeInWrongFalsely : Prop := fnExactTypeInRow.holds Tryd.pinned (OpenSpec.ofChange fnExactTypeInWrong)

/-- 'laws.FnExactTypeOf': WHATEVER THE INPUT: true; the input reads as it did. -/
def fnExactTypeOfSpec : ChangeSpec := { name := "fnExactTypeOf", vars := ["loop.example/gradual/impl.termForms"], fn := fun _ => fun
  | [d, g1] => { results := [.lit (.bool true)], args := [d], vars := [g1] }
  | _ => none }
def fnExactTypeOfRow : OpenClaim := { program := "ytgiimijooabioaadoor", sum := "7f0dbeba275c817f773eb8a037fc58763d5f3c4d8846ea36f46117e3d659fece", func := "loop.example/gradual/laws.FnExactTypeOf", spec := "fnExactTypeOf", inPlace := ["internal/bytealg.IndexByteString"], unfollowed := true, recurses := true, named := ["loop.example/gradual/impl.termForms"], loops := true, plainKeys := false, apart := false, laid := [("loop.example/gradual/impl.termForms", laid_loop_example_gradual_impl_termForms)] }
def FnExactTypeOfSaid : Prop := fnExactTypeOfRow.holds Tryd.pinned (OpenSpec.ofChange fnExactTypeOfSpec)

/-- ITS FALSE NEIGHBOUR: 'it returns false'. Refute it at one input. -/
def fnExactTypeOfWrong : ChangeSpec := { name := "fnExactTypeOf", vars := ["loop.example/gradual/impl.termForms"], fn := fun _ => fun
  | [d, g1] => { results := [.lit (.bool false)], args := [d], vars := [g1] }
  | _ => none }
def FnExactTypeOfWrongFalsely : Prop := fnExactTypeOfRow.holds Tryd.pinned (OpenSpec.ofChange fnExactTypeOfWrong)

/-- 'laws.FnExactCastTypeOf': WHATEVER THE INPUT: true; the input reads as it did. -/
def fnExactCastTypeOfSpec : ChangeSpec := { name := "fnExactCastTypeOf", vars := ["loop.example/gradual/impl.termForms"], fn := fun _ => fun
  | [d, g1] => { results := [.lit (.bool true)], args := [d], vars := [g1] }
  | _ => none }
def fnExactCastTypeOfRow : OpenClaim := { program := "ytgiimijooabioaadoor", sum := "7f0dbeba275c817f773eb8a037fc58763d5f3c4d8846ea36f46117e3d659fece", func := "loop.example/gradual/laws.FnExactCastTypeOf", spec := "fnExactCastTypeOf", inPlace := ["internal/bytealg.IndexByteString"], unfollowed := true, recurses := true, named := ["loop.example/gradual/impl.termForms"], loops := true, plainKeys := false, apart := false, laid := [("loop.example/gradual/impl.termForms", laid_loop_example_gradual_impl_termForms)] }
def FnExactCastTypeOfSaid : Prop := fnExactCastTypeOfRow.holds Tryd.pinned (OpenSpec.ofChange fnExactCastTypeOfSpec)

/-- ITS FALSE NEIGHBOUR: 'it returns false'. Refute it at one input. -/
def fnExactCastTypeOfWrong : ChangeSpec := { name := "fnExactCastTypeOf", vars := ["loop.example/gradual/impl.termForms"], fn := fun _ => fun
  | [d, g1] => { results := [.lit (.bool false)], args := [d], vars := [g1] }
  | _ => none }
def FnExactCastTypeOfWrongFalsely : Prop := fnExactCastTypeOfRow.holds Tryd.pinned (OpenSpec.ofChange fnExactCastTypeOfWrong)

/- THE SECOND FORM. 'bulk': how many values and letters a reading holds, each counted each time it is reached (what is shared counts as often as it is met; a slice's spare places count too). A statement '..UptoSaid' is the law's where the arguments, and the package variables that the reading takes, are together of bulk at most 1048576: NARROWER than '..Said'. Prove '..Said' where nothing that the law and all that it calls make is longer than what came in: it says more and counts as full. Else prove '..UptoSaid'. A law counts once. -/
mutual
def uptoBulk {H : Type} : DataW H → Nat
  | .lit (.string bytes) => bytes.length + 1
  | .lit _ => 1
  | .nil => 1
  | .ptr d => uptoBulk d + 1
  | .slice elems spare => uptoBulkAll elems + uptoBulkAll spare + 1
  | .agg parts => uptoBulkAll parts + 1
  | .iface _ d => uptoBulk d + 1
  | .map entries => uptoBulkEntries entries + 1
  | .held _ => 1
def uptoBulkAll {H : Type} : List (DataW H) → Nat
  | [] => 0
  | d :: r => uptoBulk d + uptoBulkAll r
def uptoBulkEntries {H : Type} : List (Lit × DataW H) → Nat
  | [] => 0
  | x :: r => uptoBulkEntry x + uptoBulkEntries r
def uptoBulkEntry {H : Type} : Lit × DataW H → Nat
  | (.string bytes, d) => bytes.length + uptoBulk d + 1
  | (_, d) => uptoBulk d + 1
 end
def uptoSmall : (H : Type) → List (DataW H) → Bool := fun _ ds => decide (uptoBulkAll ds ≤ 1048576)
def OpenSpec.upto (s : _root_.Go.ChangeSpec) : _root_.Go.OpenSpec := { _root_.Go.OpenSpec.ofChange s with cond := some uptoSmall }

/-- 'laws.FnExactSafeFor', WHERE WHAT IT READS IS OF BULK AT MOST 1048576: true; the input reads as it did. -/
def fnExactSafeForUptoRow : OpenClaim := { program := "ytgiimijooabioaadoor", sum := "7f0dbeba275c817f773eb8a037fc58763d5f3c4d8846ea36f46117e3d659fece", func := "loop.example/gradual/laws.FnExactSafeFor", spec := "fnExactSafeFor", inPlace := ["internal/bytealg.IndexByteString"], unfollowed := true, recurses := true, named := ["loop.example/gradual/impl.termForms"], loops := true, plainKeys := false, apart := false, laid := [("loop.example/gradual/impl.termForms", laid_loop_example_gradual_impl_termForms)], narrowed := true }
def FnExactSafeForUptoSaid : Prop := fnExactSafeForUptoRow.holds Tryd.pinned (OpenSpec.upto fnExactSafeForSpec)

/-- 'laws.FnExactUnsafeLabels', WHERE WHAT IT READS IS OF BULK AT MOST 1048576: true; the input reads as it did. -/
def fnExactUnsafeLabelsUptoRow : OpenClaim := { program := "ytgiimijooabioaadoor", sum := "7f0dbeba275c817f773eb8a037fc58763d5f3c4d8846ea36f46117e3d659fece", func := "loop.example/gradual/laws.FnExactUnsafeLabels", spec := "fnExactUnsafeLabels", inPlace := ["internal/bytealg.IndexByteString"], unfollowed := true, recurses := true, named := ["loop.example/gradual/impl.termForms"], loops := true, plainKeys := false, apart := false, laid := [("loop.example/gradual/impl.termForms", laid_loop_example_gradual_impl_termForms)], narrowed := true }
def FnExactUnsafeLabelsUptoSaid : Prop := fnExactUnsafeLabelsUptoRow.holds Tryd.pinned (OpenSpec.upto fnExactUnsafeLabelsSpec)

/-- 'laws.FnExactSafeTerm', WHERE WHAT IT READS IS OF BULK AT MOST 1048576: true; the input reads as it did. -/
def fnExactSafeTermUptoRow : OpenClaim := { program := "ytgiimijooabioaadoor", sum := "7f0dbeba275c817f773eb8a037fc58763d5f3c4d8846ea36f46117e3d659fece", func := "loop.example/gradual/laws.FnExactSafeTerm", spec := "fnExactSafeTerm", inPlace := ["internal/bytealg.IndexByteString"], unfollowed := true, recurses := true, named := ["loop.example/gradual/impl.termForms"], loops := true, plainKeys := false, apart := false, laid := [("loop.example/gradual/impl.termForms", laid_loop_example_gradual_impl_termForms)], narrowed := true }
def FnExactSafeTermUptoSaid : Prop := fnExactSafeTermUptoRow.holds Tryd.pinned (OpenSpec.upto fnExactSafeTermSpec)

/-- 'laws.FnExactCastLabels', WHERE WHAT IT READS IS OF BULK AT MOST 1048576: true; the input reads as it did. -/
def fnExactCastLabelsUptoRow : OpenClaim := { program := "ytgiimijooabioaadoor", sum := "7f0dbeba275c817f773eb8a037fc58763d5f3c4d8846ea36f46117e3d659fece", func := "loop.example/gradual/laws.FnExactCastLabels", spec := "fnExactCastLabels", inPlace := ["internal/bytealg.IndexByteString"], unfollowed := true, recurses := true, named := ["loop.example/gradual/impl.termForms"], loops := true, plainKeys := false, apart := false, laid := [("loop.example/gradual/impl.termForms", laid_loop_example_gradual_impl_termForms)], narrowed := true }
def FnExactCastLabelsUptoSaid : Prop := fnExactCastLabelsUptoRow.holds Tryd.pinned (OpenSpec.upto fnExactCastLabelsSpec)

/-- 'laws.FnExactParseTerm', WHERE WHAT IT READS IS OF BULK AT MOST 1048576: true; the input reads as it did. -/
def fnExactParseTermUptoRow : OpenClaim := { program := "ytgiimijooabioaadoor", sum := "7f0dbeba275c817f773eb8a037fc58763d5f3c4d8846ea36f46117e3d659fece", func := "loop.example/gradual/laws.FnExactParseTerm", spec := "fnExactParseTerm", inPlace := ["internal/bytealg.IndexByteString"], unfollowed := true, recurses := true, named := ["loop.example/gradual/impl.termForms"], plainKeys := false, apart := false, laid := [("loop.example/gradual/impl.termForms", laid_loop_example_gradual_impl_termForms)], narrowed := true }
def FnExactParseTermUptoSaid : Prop := fnExactParseTermUptoRow.holds Tryd.pinned (OpenSpec.upto fnExactParseTermSpec)

/-- 'laws.FnExactParseCast', WHERE WHAT IT READS IS OF BULK AT MOST 1048576: true; the input reads as it did. -/
def fnExactParseCastUptoRow : OpenClaim := { program := "ytgiimijooabioaadoor", sum := "7f0dbeba275c817f773eb8a037fc58763d5f3c4d8846ea36f46117e3d659fece", func := "loop.example/gradual/laws.FnExactParseCast", spec := "fnExactParseCast", inPlace := ["internal/bytealg.IndexByteString"], unfollowed := true, recurses := true, named := ["loop.example/gradual/impl.termForms"], plainKeys := false, apart := false, laid := [("loop.example/gradual/impl.termForms", laid_loop_example_gradual_impl_termForms)], narrowed := true }
def FnExactParseCastUptoSaid : Prop := fnExactParseCastUptoRow.holds Tryd.pinned (OpenSpec.upto fnExactParseCastSpec)

/-- 'laws.FnExactTypeIn', WHERE WHAT IT READS IS OF BULK AT MOST 1048576: true; the input reads as it did. -/
def fnExactTypeInUptoRow : OpenClaim := { program := "ytgiimijooabioaadoor", sum := "7f0dbeba275c817f773eb8a037fc58763d5f3c4d8846ea36f46117e3d659fece", func := "loop.example/gradual/laws.FnExactTypeIn", spec := "fnExactTypeIn", inPlace := ["internal/bytealg.IndexByteString"], unfollowed := true, recurses := true, named := ["loop.example/gradual/impl.termForms"], loops := true, plainKeys := false, apart := false, laid := [("loop.example/gradual/impl.termForms", laid_loop_example_gradual_impl_termForms)], narrowed := true }
def FnExactTypeInUptoSaid : Prop := fnExactTypeInUptoRow.holds Tryd.pinned (OpenSpec.upto fnExactTypeInSpec)

/-- 'laws.FnExactTypeOf', WHERE WHAT IT READS IS OF BULK AT MOST 1048576: true; the input reads as it did. -/
def fnExactTypeOfUptoRow : OpenClaim := { program := "ytgiimijooabioaadoor", sum := "7f0dbeba275c817f773eb8a037fc58763d5f3c4d8846ea36f46117e3d659fece", func := "loop.example/gradual/laws.FnExactTypeOf", spec := "fnExactTypeOf", inPlace := ["internal/bytealg.IndexByteString"], unfollowed := true, recurses := true, named := ["loop.example/gradual/impl.termForms"], loops := true, plainKeys := false, apart := false, laid := [("loop.example/gradual/impl.termForms", laid_loop_example_gradual_impl_termForms)], narrowed := true }
def FnExactTypeOfUptoSaid : Prop := fnExactTypeOfUptoRow.holds Tryd.pinned (OpenSpec.upto fnExactTypeOfSpec)

/-- 'laws.FnExactCastTypeOf', WHERE WHAT IT READS IS OF BULK AT MOST 1048576: true; the input reads as it did. -/
def fnExactCastTypeOfUptoRow : OpenClaim := { program := "ytgiimijooabioaadoor", sum := "7f0dbeba275c817f773eb8a037fc58763d5f3c4d8846ea36f46117e3d659fece", func := "loop.example/gradual/laws.FnExactCastTypeOf", spec := "fnExactCastTypeOf", inPlace := ["internal/bytealg.IndexByteString"], unfollowed := true, recurses := true, named := ["loop.example/gradual/impl.termForms"], loops := true, plainKeys := false, apart := false, laid := [("loop.example/gradual/impl.termForms", laid_loop_example_gradual_impl_termForms)], narrowed := true }
def FnExactCastTypeOfUptoSaid : Prop := fnExactCastTypeOfUptoRow.holds Tryd.pinned (OpenSpec.upto fnExactCastTypeOfSpec)

end Rows
end Go.Proofs.YtgiimijooabioaaDoor
