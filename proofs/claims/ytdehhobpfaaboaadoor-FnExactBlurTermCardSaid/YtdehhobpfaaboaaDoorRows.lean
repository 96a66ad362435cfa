/-
  NARROWER THAN 'FOR EVERY INPUT', by the rows' own cells (each row's printed sentence says how): FnExactEmbedTerm: loops, laid · FnExactBlurTerm: loops, laid · FnExactCountSlots: loops, laid · FnExactWrapTerm: loops, laid · FnExactEraseTerm: loops, laid · FnExactWithTypes: loops, laid · FnExactSubstTerm: loops, laid · FnExactBareTerm: loops, laid · FnExactTypeIn: loops, laid · FnExactTypeOf: loops, laid · FnExactCastTypeOf: loops, laid.
  DERIVED. THE GIVEN ROWS OF THIS SEAT. 11 by the template 'for every input the law returns true; each argument reads behind the call as it read before'; 0 by the template 'total and deterministic' (their statements: YtdehhobpfaaboaaDoorTotals.lean).
  GIVEN WITH THE SEED: the statements are not yours to turn. If you find one false, say at which input.
  Laid BY PROGRAM, IN A SANDBOX (cutbox-rows.mjs): the forced cells as the released guide's own fill.sh prints them over the translation 59e801f954c27664… (all of the seat's roots in one cut). By AI agents, Wed Nov 11 2026. No macro, syntax, notation, axiom, sorry.
-/
import Derived.Test.YtdehhobpfaaboaaDoorChecked
import GoSem.Claim
import GoSem.ClaimJoined
import GoSem.ClaimMapViews
import Derived.JoinedTies
import Derived.KernelRfl
namespace Go.Proofs.YtdehhobpfaaboaaDoor
/- THE CELL 'sum', in the pinned program and in every row, IS THE sha256 OF THE DUMP (.gsa) THAT YtdehhobpfaaboaaDoorProg.lean LOADS. Nothing in Lean hashes anything: it is a label: what it is worth is what the hold of that sum in a sandbox is worth. -/
noncomputable def Tryd.pinned : Pinned := { name := "ytdehhobpfaaboaadoor", sum := "59e801f954c27664d3cbb11e98acf0a2037e69b95fa4a1be86daad9f58ad3454", checked := Tryd.checked }
namespace Rows
def none {H : Type} : Left H := { results := [], args := [] }

/- WHAT THE LISTED PACKAGE-LEVEL VARIABLES READ AS WHEN THE CALL BEGINS. Each datum BY PROGRAM (the guide's laid-datum.mjs) off the statement by which the dump's own 'gosem.cut.vars' lays the variable. In a bare row this is a premise. The card (YtdehhobpfaaboaaDoorCards.lean) ties it to the program's text. -/
def laid_loop_example_gradual_impl_termForms {H : Type} : DataW H := .agg [.lit (.string []), .lit (.string [110]), .lit (.string [100]), .lit (.string [84]), .lit (.string [70]), .lit (.string [33, 110, 58, 116, 46, 65]), .lit (.string [40, 65, 32, 66, 41]), .lit (.string [40, 65, 43, 66, 41]), .lit (.string [40, 65, 60, 66, 41]), .lit (.string [123, 65, 63, 66, 58, 67, 125]), .lit (.string [91, 65, 44, 66, 93]), .lit (.string [36, 65]), .lit (.string [37, 65]), .lit (.string [40, 65, 58, 116, 41]), .lit (.string [40, 65, 58, 115, 126, 116, 35, 108, 41])]

/-- 'laws.FnExactEmbedTerm': WHATEVER THE INPUT: true; the input reads as it did. -/
def fnExactEmbedTermSpec : ChangeSpec := { name := "fnExactEmbedTerm", vars := ["loop.example/gradual/impl.termForms"], fn := fun _ => fun
  | [d, g1] => { results := [.lit (.bool true)], args := [d], vars := [g1] }
  | _ => none }
def fnExactEmbedTermRow : OpenClaim := { program := "ytdehhobpfaaboaadoor", sum := "59e801f954c27664d3cbb11e98acf0a2037e69b95fa4a1be86daad9f58ad3454", func := "loop.example/gradual/laws.FnExactEmbedTerm", spec := "fnExactEmbedTerm", inPlace := ["internal/bytealg.IndexByteString"], unfollowed := true, recurses := true, named := ["loop.example/gradual/impl.termForms"], loops := true, plainKeys := false, apart := false, laid := [("loop.example/gradual/impl.termForms", laid_loop_example_gradual_impl_termForms)] }
def FnExactEmbedTermSaid : Prop := fnExactEmbedTermRow.holds Tryd.pinned (OpenSpec.ofChange fnExactEmbedTermSpec)

/-- ITS FALSE NEIGHBOUR: 'it returns false'. Refute it at one input. -/
def fnExactEmbedTermWrong : ChangeSpec := { name := "fnExactEmbedTerm", vars := ["loop.example/gradual/impl.termForms"], fn := fun _ => fun
  | [d, g1] => { results := [.lit (.bool false)], args := [d], vars := [g1] }
  | _ => none }
def FnExactEmbedTermWrongFalsely : Prop := fnExactEmbedTermRow.holds Tryd.pinned (OpenSpec.ofChange fnExactEmbedTermWrong)

/-- 'laws.FnExactBlurTerm': WHATEVER THE INPUT: true; the input reads as it did. -/
def fnExactBlurTermSpec : ChangeSpec := { name := "fnExactBlurTerm", vars := ["loop.example/gradual/impl.termForms"], fn := fun _ => fun
  | [d1, d2, g1] => { results := [.lit (.bool true)], args := [d1, d2], vars := [g1] }
  | _ => none }
def fnExactBlurTermRow : OpenClaim := { program := "ytdehhobpfaaboaadoor", sum := "59e801f954c27664d3cbb11e98acf0a2037e69b95fa4a1be86daad9f58ad3454", func := "loop.example/gradual/laws.FnExactBlurTerm", spec := "fnExactBlurTerm", inPlace := ["internal/bytealg.IndexByteString"], unfollowed := true, recurses := true, named := ["loop.example/gradual/impl.termForms"], loops := true, plainKeys := false, apart := false, laid := [("loop.example/gradual/impl.termForms", laid_loop_example_gradual_impl_termForms)] }
def FnExactBlurTermSaid : Prop := fnExactBlurTermRow.holds Tryd.pinned (OpenSpec.ofChange fnExactBlurTermSpec)

/-- ITS FALSE NEIGHBOUR: 'it returns false'. Refute it at one input. -/
def fnExactBlurTermWrong : ChangeSpec := { name := "fnExactBlurTerm", vars := ["loop.example/gradual/impl.termForms"], fn := fun _ => fun
  | [d1, d2, g1] => { results := [.lit (.bool false)], args := [d1, d2], vars := [g1] }
  | _ => none }
def FnExactBlurTermWrongFalsely : Prop := fnExactBlurTermRow.holds Tryd.pinned (OpenSpec.ofChange fnExactBlurTermWrong)

/-- 'laws.FnExactCountSlots': WHATEVER THE INPUT: true; the input reads as it did. -/
def fnExactCountSlotsSpec : ChangeSpec := { name := "fnExactCountSlots", vars := ["loop.example/gradual/impl.termForms"], fn := fun _ => fun
  | [d, g1] => { results := [.lit (.bool true)], args := [d], vars := [g1] }
  | _ => none }
def fnExactCountSlotsRow : OpenClaim := { program := "ytdehhobpfaaboaadoor", sum := "59e801f954c27664d3cbb11e98acf0a2037e69b95fa4a1be86daad9f58ad3454", func := "loop.example/gradual/laws.FnExactCountSlots", spec := "fnExactCountSlots", inPlace := ["internal/bytealg.IndexByteString"], unfollowed := true, recurses := true, named := ["loop.example/gradual/impl.termForms"], loops := true, plainKeys := false, apart := false, laid := [("loop.example/gradual/impl.termForms", laid_loop_example_gradual_impl_termForms)] }
def FnExactCountSlotsSaid : Prop := fnExactCountSlotsRow.holds Tryd.pinned (OpenSpec.ofChange fnExactCountSlotsSpec)

/-- ITS FALSE NEIGHBOUR: 'it returns false'. Refute it at one input. -/
def fnExactCountSlotsWrong : ChangeSpec := { name := "fnExactCountSlots", vars := ["loop.example/gradual/impl.termForms"], fn := fun _ => fun
  | [d, g1] => { results := [.lit (.bool false)], args := [d], vars := [g1] }
  | _ => none }
def FnExactCountSlotsWrongFalsely : Prop := fnExactCountSlotsRow.holds Tryd.pinned (OpenSpec.ofChange fnExactCountSlotsWrong)

/-- 'laws.FnExactWrapTerm': WHATEVER THE INPUT: true; the input reads as it did. -/
def fnExactWrapTermSpec : ChangeSpec := { name := "fnExactWrapTerm", vars := ["loop.example/gradual/impl.termForms"], fn := fun _ => fun
  | [d, g1] => { results := [.lit (.bool true)], args := [d], vars := [g1] }
  | _ => none }
def fnExactWrapTermRow : OpenClaim := { program := "ytdehhobpfaaboaadoor", sum := "59e801f954c27664d3cbb11e98acf0a2037e69b95fa4a1be86daad9f58ad3454", func := "loop.example/gradual/laws.FnExactWrapTerm", spec := "fnExactWrapTerm", inPlace := ["internal/bytealg.IndexByteString"], unfollowed := true, recurses := true, named := ["loop.example/gradual/impl.termForms"], loops := true, plainKeys := false, apart := false, laid := [("loop.example/gradual/impl.termForms", laid_loop_example_gradual_impl_termForms)] }
def FnExactWrapTermSaid : Prop := fnExactWrapTermRow.holds Tryd.pinned (OpenSpec.ofChange fnExactWrapTermSpec)

/-- ITS FALSE NEIGHBOUR: 'it returns false'. Refute it at one input. -/
def fnExactWrapTermWrong : ChangeSpec := { name := "fnExactWrapTerm", vars := ["loop.example/gradual/impl.termForms"], fn := fun _ => fun
  | [d, g1] => { results := [.lit (.bool false)], args := [d], vars := [g1] }
  | _ => none }
def FnExactWrapTermWrongFalsely : Prop := fnExactWrapTermRow.holds Tryd.pinned (OpenSpec.ofChange fnExactWrapTermWrong)

/-- 'laws.FnExactEraseTerm': WHATEVER THE INPUT: true; the input reads as it did. -/
def fnExactEraseTermSpec : ChangeSpec := { name := "fnExactEraseTerm", vars := ["loop.example/gradual/impl.termForms"], fn := fun _ => fun
  | [d, g1] => { results := [.lit (.bool true)], args := [d], vars := [g1] }
  | _ => none }
def fnExactEraseTermRow : OpenClaim := { program := "ytdehhobpfaaboaadoor", sum := "59e801f954c27664d3cbb11e98acf0a2037e69b95fa4a1be86daad9f58ad3454", func := "loop.example/gradual/laws.FnExactEraseTerm", spec := "fnExactEraseTerm", inPlace := ["internal/bytealg.IndexByteString"], unfollowed := true, recurses := true, named := ["loop.example/gradual/impl.termForms"], loops := true, plainKeys := false, apart := false, laid := [("loop.example/gradual/impl.termForms", laid_loop_example_gradual_impl_termForms)] }
def FnExactEraseTermSaid : Prop := fnExactEraseTermRow.holds Tryd.pinned (OpenSpec.ofChange fnExactEraseTermSpec)

/-- ITS FALSE NEIGHBOUR: 'it returns false'. Refute it at one input. -/
def fnExactEraseTermWrong : ChangeSpec := { name := "fnExactEraseTerm", vars := ["loop.example/gradual/impl.termForms"], fn := fun _ => fun
  | [d, g1] => { results := [.lit (.bool false)], args := [d], vars := [g1] }
  | _ => none }
def FnExactEraseTermWrongFalsely : Prop := fnExactEraseTermRow.holds Tryd.pinned (OpenSpec.ofChange fnExactEraseTermWrong)

/-- 'laws.FnExactWithTypes': WHATEVER THE INPUT: true; the input reads as it did. -/
def fnExactWithTypesSpec : ChangeSpec := { name := "fnExactWithTypes", vars := ["loop.example/gradual/impl.termForms"], fn := fun _ => fun
  | [d1, d2, g1] => { results := [.lit (.bool true)], args := [d1, d2], vars := [g1] }
  | _ => none }
def fnExactWithTypesRow : OpenClaim := { program := "ytdehhobpfaaboaadoor", sum := "59e801f954c27664d3cbb11e98acf0a2037e69b95fa4a1be86daad9f58ad3454", func := "loop.example/gradual/laws.FnExactWithTypes", spec := "fnExactWithTypes", inPlace := ["internal/bytealg.IndexByteString"], unfollowed := true, recurses := true, named := ["loop.example/gradual/impl.termForms"], loops := true, plainKeys := false, apart := false, laid := [("loop.example/gradual/impl.termForms", laid_loop_example_gradual_impl_termForms)] }
def FnExactWithTypesSaid : Prop := fnExactWithTypesRow.holds Tryd.pinned (OpenSpec.ofChange fnExactWithTypesSpec)

/-- ITS FALSE NEIGHBOUR: 'it returns false'. Refute it at one input. -/
def fnExactWithTypesWrong : ChangeSpec := { name := "fnExactWithTypes", vars := ["loop.example/gradual/impl.termForms"], fn := fun _ => fun
  | [d1, d2, g1] => { results := [.lit (.bool false)], args := [d1, d2], vars := [g1] }
  | _ => none }
def FnExactWithTypesWrongFalsely : Prop := fnExactWithTypesRow.holds Tryd.pinned (OpenSpec.ofChange fnExactWithTypesWrong)

/-- 'laws.FnExactSubstTerm': WHATEVER THE INPUT: true; the input reads as it did. -/
def fnExactSubstTermSpec : ChangeSpec := { name := "fnExactSubstTerm", vars := ["loop.example/gradual/impl.termForms"], fn := fun _ => fun
  | [d1, d2, d3, g1] => { results := [.lit (.bool true)], args := [d1, d2, d3], vars := [g1] }
  | _ => none }
def fnExactSubstTermRow : OpenClaim := { program := "ytdehhobpfaaboaadoor", sum := "59e801f954c27664d3cbb11e98acf0a2037e69b95fa4a1be86daad9f58ad3454", func := "loop.example/gradual/laws.FnExactSubstTerm", spec := "fnExactSubstTerm", inPlace := ["internal/bytealg.IndexByteString", "internal/abi.NoEscape"], unfollowed := true, recurses := true, named := ["loop.example/gradual/impl.termForms"], loops := true, plainKeys := false, apart := false, laid := [("loop.example/gradual/impl.termForms", laid_loop_example_gradual_impl_termForms)] }
def FnExactSubstTermSaid : Prop := fnExactSubstTermRow.holds Tryd.pinned (OpenSpec.ofChange fnExactSubstTermSpec)

/-- ITS FALSE NEIGHBOUR: 'it returns false'. Refute it at one input. -/
def fnExactSubstTermWrong : ChangeSpec := { name := "fnExactSubstTerm", vars := ["loop.example/gradual/impl.termForms"], fn := fun _ => fun
  | [d1, d2, d3, g1] => { results := [.lit (.bool false)], args := [d1, d2, d3], vars := [g1] }
  | _ => none }
def FnExactSubstTermWrongFalsely : Prop := fnExactSubstTermRow.holds Tryd.pinned (OpenSpec.ofChange fnExactSubstTermWrong)

/-- 'laws.FnExactBareTerm': WHATEVER THE INPUT: true; the input reads as it did. -/
def fnExactBareTermSpec : ChangeSpec := { name := "fnExactBareTerm", vars := ["loop.example/gradual/impl.termForms"], fn := fun _ => fun
  | [d, g1] => { results := [.lit (.bool true)], args := [d], vars := [g1] }
  | _ => none }
def fnExactBareTermRow : OpenClaim := { program := "ytdehhobpfaaboaadoor", sum := "59e801f954c27664d3cbb11e98acf0a2037e69b95fa4a1be86daad9f58ad3454", func := "loop.example/gradual/laws.FnExactBareTerm", spec := "fnExactBareTerm", inPlace := ["internal/bytealg.IndexByteString"], unfollowed := true, recurses := true, named := ["loop.example/gradual/impl.termForms"], loops := true, plainKeys := false, apart := false, laid := [("loop.example/gradual/impl.termForms", laid_loop_example_gradual_impl_termForms)] }
def FnExactBareTermSaid : Prop := fnExactBareTermRow.holds Tryd.pinned (OpenSpec.ofChange fnExactBareTermSpec)

/-- ITS FALSE NEIGHBOUR: 'it returns false'. Refute it at one input. -/
def fnExactBareTermWrong : ChangeSpec := { name := "fnExactBareTerm", vars := ["loop.example/gradual/impl.termForms"], fn := fun _ => fun
  | [d, g1] => { results := [.lit (.bool false)], args := [d], vars := [g1] }
  | _ => none }
def FnExactBareTermWrongFalsely : Prop := fnExactBareTermRow.holds Tryd.pinned (OpenSpec.ofChange fnExactBareTermWrong)

/-- 'laws.FnExactTypeIn': WHATEVER THE INPUT: true; the input reads as it did. -/
def fnExactTypeInSpec : ChangeSpec := { name := "fnExactTypeIn", vars := ["loop.example/gradual/impl.termForms"], fn := fun _ => fun
  | [d1, d2, g1] => { results := [.lit (.bool true)], args := [d1, d2], vars := [g1] }
  | _ => none }
def fnExactTypeInRow : OpenClaim := { program := "ytdehhobpfaaboaadoor", sum := "59e801f954c27664d3cbb11e98acf0a2037e69b95fa4a1be86daad9f58ad3454", func := "loop.example/gradual/laws.FnExactTypeIn", spec := "fnExactTypeIn", inPlace := ["internal/bytealg.IndexByteString"], unfollowed := true, recurses := true, named := ["loop.example/gradual/impl.termForms"], loops := true, plainKeys := false, apart := false, laid := [("loop.example/gradual/impl.termForms", laid_loop_example_gradual_impl_termForms)] }
def FnExactTypeInSaid : Prop := fnExactTypeInRow.holds Tryd.pinned (OpenSpec.ofChange fnExactTypeInSpec)

/-- ITS FALSE NEIGHBOUR: 'it returns false'. Refute it at one input. -/
def fnExactTypeInWrong : ChangeSpec := { name := "fnExactTypeIn", vars := ["loop.example/gradual/impl.termForms"], fn := fun _ => fun
  | [d1, d2, g1] => { results := [.lit (.bool false)], args := [d1, d2], vars := [g1] }
  | _ => none }
def FnExactTypeInWrongFalsely : Prop := fnExactTypeInRow.holds Tryd.pinned (OpenSpec.ofChange fnExactTypeInWrong)

/-- 'laws.FnExactTypeOf': WHATEVER THE INPUT: true; the input reads as it did. -/
def fnExactTypeOfSpec : ChangeSpec := { name := "fnExactTypeOf", vars := ["loop.example/gradual/impl.termForms"], fn := fun _ => fun
  | [d, g1] => { results := [.lit (.bool true)], args := [d], vars := [g1] }
  | _ => none }
def fnExactTypeOfRow : OpenClaim := { program := "ytdehhobpfaaboaadoor", sum := "59e801f954c27664d3cbb11e98acf0a2037e69b95fa4a1be86daad9f58ad3454", func := "loop.example/gradual/laws.FnExactTypeOf", spec := "fnExactTypeOf", inPlace := ["internal/bytealg.IndexByteString"], unfollowed := true, recurses := true, named := ["loop.example/gradual/impl.termForms"], loops := true, plainKeys := false, apart := false, laid := [("loop.example/gradual/impl.termForms", laid_loop_example_gradual_impl_termForms)] }
def FnExactTypeOfSaid : Prop := fnExactTypeOfRow.holds Tryd.pinned (OpenSpec.ofChange fnExactTypeOfSpec)

/-- ITS FALSE NEIGHBOUR: 'it returns false'. Refute it at one input. -/
def fnExactTypeOfWrong : ChangeSpec := { name := "fnExactTypeOf", vars := ["loop.example/gradual/impl.termForms"], fn := fun _ => fun
  | [d, g1] => { results := [.lit (.bool false)], args := [d], vars := [g1] }
  | _ => none }
def FnExactTypeOfWrongFalsely : Prop := fnExactTypeOfRow.holds Tryd.pinned (OpenSpec.ofChange fnExactTypeOfWrong)

/-- 'laws.FnExactCastTypeOf': WHATEVER THE INPUT: true; the input reads as it did. -/
def fnExactCastTypeOfSpec : ChangeSpec := { name := "fnExactCastTypeOf", vars := ["loop.example/gradual/impl.termForms"], fn := fun _ => fun
  | [d, g1] => { results := [.lit (.bool true)], args := [d], vars := [g1] }
  | _ => none }
def fnExactCastTypeOfRow : OpenClaim := { program := "ytdehhobpfaaboaadoor", sum := "59e801f954c27664d3cbb11e98acf0a2037e69b95fa4a1be86daad9f58ad3454", func := "loop.example/gradual/laws.FnExactCastTypeOf", spec := "fnExactCastTypeOf", inPlace := ["internal/bytealg.IndexByteString"], unfollowed := true, recurses := true, named := ["loop.example/gradual/impl.termForms"], loops := true, plainKeys := false, apart := false, laid := [("loop.example/gradual/impl.termForms", laid_loop_example_gradual_impl_termForms)] }
def FnExactCastTypeOfSaid : Prop := fnExactCastTypeOfRow.holds Tryd.pinned (OpenSpec.ofChange fnExactCastTypeOfSpec)

/-- ITS FALSE NEIGHBOUR: 'it returns false'. Refute it at one input. -/
def fnExactCastTypeOfWrong : ChangeSpec := { name := "fnExactCastTypeOf", vars := ["loop.example/gradual/impl.termForms"], fn := fun _ => fun
  | [d, g1] => { results := [.lit (.bool false)], args := [d], vars := [g1] }
  | _ => none }
def FnExactCastTypeOfWrongFalsely : Prop := fnExactCastTypeOfRow.holds Tryd.pinned (OpenSpec.ofChange fnExactCastTypeOfWrong)

/- THE SECOND FORM. 'bulk': how many values and letters a reading holds, each counted each time it is reached (what is shared counts as often as it is met; a slice's spare places count too). A statement '..UptoSaid' is the law's where the arguments, and the package variables that the reading takes, are together of bulk at most 1048576: NARROWER than '..Said'. Prove '..Said' where nothing that the law and all that it calls make is longer than what came in: it says more and counts as full. Else prove '..UptoSaid'. A law counts once. -/
mutual
def uptoBulk {H : Type} : DataW H → Nat
  | .lit (.string bytes) => bytes.length + 1
  | .lit _ => 1
  | .nil => 1
  | .ptr d => uptoBulk d + 1
  | .slice elems spare => uptoBulkAll elems + uptoBulkAll spare + 1
  | .agg parts => uptoBulkAll parts + 1
  | .iface _ d => uptoBulk d + 1
  | .map entries => uptoBulkEntries entries + 1
  | .held _ => 1
def uptoBulkAll {H : Type} : List (DataW H) → Nat
  | [] => 0
  | d :: r => uptoBulk d + uptoBulkAll r
def uptoBulkEntries {H : Type} : List (Lit × DataW H) → Nat
  | [] => 0
  | x :: r => uptoBulkEntry x + uptoBulkEntries r
def uptoBulkEntry {H : Type} : Lit × DataW H → Nat
  | (.string bytes, d) => bytes.length + uptoBulk d + 1
  | (_, d) => uptoBulk d + 1
 end
def uptoSmall : (H : Type) → List (DataW H) → Bool := fun _ ds => decide (uptoBulkAll ds ≤ 1048576)
def OpenSpec.upto (s : _root_.Go.ChangeSpec) : _root_.Go.OpenSpec := { _root_.Go.OpenSpec.ofChange s with cond := some uptoSmall }

/-- 'laws.FnExactEmbedTerm', WHERE WHAT IT READS IS OF BULK AT MOST 1048576: true; the input reads as it did. -/
def fnExactEmbedTermUptoRow : OpenClaim := { program := "ytdehhobpfaaboaadoor", sum := "59e801f954c27664d3cbb11e98acf0a2037e69b95fa4a1be86daad9f58ad3454", func := "loop.example/gradual/laws.FnExactEmbedTerm", spec := "fnExactEmbedTerm", inPlace := ["internal/bytealg.IndexByteString"], unfollowed := true, recurses := true, named := ["loop.example/gradual/impl.termForms"], loops := true, plainKeys := false, apart := false, laid := [("loop.example/gradual/impl.termForms", laid_loop_example_gradual_impl_termForms)], narrowed := true }
def FnExactEmbedTermUptoSaid : Prop := fnExactEmbedTermUptoRow.holds Tryd.pinned (OpenSpec.upto fnExactEmbedTermSpec)

/-- 'laws.FnExactBlurTerm', WHERE WHAT IT READS IS OF BULK AT MOST 1048576: true; the input reads as it did. -/
def fnExactBlurTermUptoRow : OpenClaim := { program := "ytdehhobpfaaboaadoor", sum := "59e801f954c27664d3cbb11e98acf0a2037e69b95fa4a1be86daad9f58ad3454", func := "loop.example/gradual/laws.FnExactBlurTerm", spec := "fnExactBlurTerm", inPlace := ["internal/bytealg.IndexByteString"], unfollowed := true, recurses := true, named := ["loop.example/gradual/impl.termForms"], loops := true, plainKeys := false, apart := false, laid := [("loop.example/gradual/impl.termForms", laid_loop_example_gradual_impl_termForms)], narrowed := true }
def FnExactBlurTermUptoSaid : Prop := fnExactBlurTermUptoRow.holds Tryd.pinned (OpenSpec.upto fnExactBlurTermSpec)

/-- 'laws.FnExactCountSlots', WHERE WHAT IT READS IS OF BULK AT MOST 1048576: true; the input reads as it did. -/
def fnExactCountSlotsUptoRow : OpenClaim := { program := "ytdehhobpfaaboaadoor", sum := "59e801f954c27664d3cbb11e98acf0a2037e69b95fa4a1be86daad9f58ad3454", func := "loop.example/gradual/laws.FnExactCountSlots", spec := "fnExactCountSlots", inPlace := ["internal/bytealg.IndexByteString"], unfollowed := true, recurses := true, named := ["loop.example/gradual/impl.termForms"], loops := true, plainKeys := false, apart := false, laid := [("loop.example/gradual/impl.termForms", laid_loop_example_gradual_impl_termForms)], narrowed := true }
def FnExactCountSlotsUptoSaid : Prop := fnExactCountSlotsUptoRow.holds Tryd.pinned (OpenSpec.upto fnExactCountSlotsSpec)

/-- 'laws.FnExactWrapTerm', WHERE WHAT IT READS IS OF BULK AT MOST 1048576: true; the input reads as it did. -/
def fnExactWrapTermUptoRow : OpenClaim := { program := "ytdehhobpfaaboaadoor", sum := "59e801f954c27664d3cbb11e98acf0a2037e69b95fa4a1be86daad9f58ad3454", func := "loop.example/gradual/laws.FnExactWrapTerm", spec := "fnExactWrapTerm", inPlace := ["internal/bytealg.IndexByteString"], unfollowed := true, recurses := true, named := ["loop.example/gradual/impl.termForms"], loops := true, plainKeys := false, apart := false, laid := [("loop.example/gradual/impl.termForms", laid_loop_example_gradual_impl_termForms)], narrowed := true }
def FnExactWrapTermUptoSaid : Prop := fnExactWrapTermUptoRow.holds Tryd.pinned (OpenSpec.upto fnExactWrapTermSpec)

/-- 'laws.FnExactEraseTerm', WHERE WHAT IT READS IS OF BULK AT MOST 1048576: true; the input reads as it did. -/
def fnExactEraseTermUptoRow : OpenClaim := { program := "ytdehhobpfaaboaadoor", sum := "59e801f954c27664d3cbb11e98acf0a2037e69b95fa4a1be86daad9f58ad3454", func := "loop.example/gradual/laws.FnExactEraseTerm", spec := "fnExactEraseTerm", inPlace := ["internal/bytealg.IndexByteString"], unfollowed := true, recurses := true, named := ["loop.example/gradual/impl.termForms"], loops := true, plainKeys := false, apart := false, laid := [("loop.example/gradual/impl.termForms", laid_loop_example_gradual_impl_termForms)], narrowed := true }
def FnExactEraseTermUptoSaid : Prop := fnExactEraseTermUptoRow.holds Tryd.pinned (OpenSpec.upto fnExactEraseTermSpec)

/-- 'laws.FnExactWithTypes', WHERE WHAT IT READS IS OF BULK AT MOST 1048576: true; the input reads as it did. -/
def fnExactWithTypesUptoRow : OpenClaim := { program := "ytdehhobpfaaboaadoor", sum := "59e801f954c27664d3cbb11e98acf0a2037e69b95fa4a1be86daad9f58ad3454", func := "loop.example/gradual/laws.FnExactWithTypes", spec := "fnExactWithTypes", inPlace := ["internal/bytealg.IndexByteString"], unfollowed := true, recurses := true, named := ["loop.example/gradual/impl.termForms"], loops := true, plainKeys := false, apart := false, laid := [("loop.example/gradual/impl.termForms", laid_loop_example_gradual_impl_termForms)], narrowed := true }
def FnExactWithTypesUptoSaid : Prop := fnExactWithTypesUptoRow.holds Tryd.pinned (OpenSpec.upto fnExactWithTypesSpec)

/-- 'laws.FnExactSubstTerm', WHERE WHAT IT READS IS OF BULK AT MOST 1048576: true; the input reads as it did. -/
def fnExactSubstTermUptoRow : OpenClaim := { program := "ytdehhobpfaaboaadoor", sum := "59e801f954c27664d3cbb11e98acf0a2037e69b95fa4a1be86daad9f58ad3454", func := "loop.example/gradual/laws.FnExactSubstTerm", spec := "fnExactSubstTerm", inPlace := ["internal/bytealg.IndexByteString", "internal/abi.NoEscape"], unfollowed := true, recurses := true, named := ["loop.example/gradual/impl.termForms"], loops := true, plainKeys := false, apart := false, laid := [("loop.example/gradual/impl.termForms", laid_loop_example_gradual_impl_termForms)], narrowed := true }
def FnExactSubstTermUptoSaid : Prop := fnExactSubstTermUptoRow.holds Tryd.pinned (OpenSpec.upto fnExactSubstTermSpec)

/-- 'laws.FnExactBareTerm', WHERE WHAT IT READS IS OF BULK AT MOST 1048576: true; the input reads as it did. -/
def fnExactBareTermUptoRow : OpenClaim := { program := "ytdehhobpfaaboaadoor", sum := "59e801f954c27664d3cbb11e98acf0a2037e69b95fa4a1be86daad9f58ad3454", func := "loop.example/gradual/laws.FnExactBareTerm", spec := "fnExactBareTerm", inPlace := ["internal/bytealg.IndexByteString"], unfollowed := true, recurses := true, named := ["loop.example/gradual/impl.termForms"], loops := true, plainKeys := false, apart := false, laid := [("loop.example/gradual/impl.termForms", laid_loop_example_gradual_impl_termForms)], narrowed := true }
def FnExactBareTermUptoSaid : Prop := fnExactBareTermUptoRow.holds Tryd.pinned (OpenSpec.upto fnExactBareTermSpec)

/-- 'laws.FnExactTypeIn', WHERE WHAT IT READS IS OF BULK AT MOST 1048576: true; the input reads as it did. -/
def fnExactTypeInUptoRow : OpenClaim := { program := "ytdehhobpfaaboaadoor", sum := "59e801f954c27664d3cbb11e98acf0a2037e69b95fa4a1be86daad9f58ad3454", func := "loop.example/gradual/laws.FnExactTypeIn", spec := "fnExactTypeIn", inPlace := ["internal/bytealg.IndexByteString"], unfollowed := true, recurses := true, named := ["loop.example/gradual/impl.termForms"], loops := true, plainKeys := false, apart := false, laid := [("loop.example/gradual/impl.termForms", laid_loop_example_gradual_impl_termForms)], narrowed := true }
def FnExactTypeInUptoSaid : Prop := fnExactTypeInUptoRow.holds Tryd.pinned (OpenSpec.upto fnExactTypeInSpec)

/-- 'laws.FnExactTypeOf', WHERE WHAT IT READS IS OF BULK AT MOST 1048576: true; the input reads as it did. -/
def fnExactTypeOfUptoRow : OpenClaim := { program := "ytdehhobpfaaboaadoor", sum := "59e801f954c27664d3cbb11e98acf0a2037e69b95fa4a1be86daad9f58ad3454", func := "loop.example/gradual/laws.FnExactTypeOf", spec := "fnExactTypeOf", inPlace := ["internal/bytealg.IndexByteString"], unfollowed := true, recurses := true, named := ["loop.example/gradual/impl.termForms"], loops := true, plainKeys := false, apart := false, laid := [("loop.example/gradual/impl.termForms", laid_loop_example_gradual_impl_termForms)], narrowed := true }
def FnExactTypeOfUptoSaid : Prop := fnExactTypeOfUptoRow.holds Tryd.pinned (OpenSpec.upto fnExactTypeOfSpec)

/-- 'laws.FnExactCastTypeOf', WHERE WHAT IT READS IS OF BULK AT MOST 1048576: true; the input reads as it did. -/
def fnExactCastTypeOfUptoRow : OpenClaim := { program := "ytdehhobpfaaboaadoor", sum := "59e801f954c27664d3cbb11e98acf0a2037e69b95fa4a1be86daad9f58ad3454", func := "loop.example/gradual/laws.FnExactCastTypeOf", spec := "fnExactCastTypeOf", inPlace := ["internal/bytealg.IndexByteString"], unfollowed := true, recurses := true, named := ["loop.example/gradual/impl.termForms"], loops := true, plainKeys := false, apart := false, laid := [("loop.example/gradual/impl.termForms", laid_loop_example_gradual_impl_termForms)], narrowed := true }
def FnExactCastTypeOfUptoSaid : Prop := fnExactCastTypeOfUptoRow.holds Tryd.pinned (OpenSpec.upto fnExactCastTypeOfSpec)

end Rows
end Go.Proofs.YtdehhobpfaaboaaDoor
