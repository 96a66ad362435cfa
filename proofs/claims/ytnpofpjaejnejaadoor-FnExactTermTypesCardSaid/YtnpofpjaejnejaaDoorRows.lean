/-
  NARROWER THAN 'FOR EVERY INPUT', by the rows' own cells (each row's printed sentence says how): FnExactTermValid: loops, laid · FnExactCountNodes: loops, laid · FnExactCastValid: loops, laid · FnExactCastLabels: loops, laid · FnExactCastTypes: loops, laid · FnExactBareTerm: loops, laid · FnExactTermTypes: loops, laid · FnExactTypeIn: loops, laid.
  DERIVED. THE GIVEN ROWS OF THIS SEAT. 8 by the template 'for every input the law returns true; each argument reads behind the call as it read before'; 0 by the template 'total and deterministic' (their statements: YtnpofpjaejnejaaDoorTotals.lean).
  GIVEN WITH THE SEED: the statements are not yours to turn. If you find one false, say at which input.
  Laid BY PROGRAM, IN A SANDBOX (cutbox-rows.mjs): the forced cells as the released guide's own fill.sh prints them over the translation a81246415f229426… (all of the seat's roots in one cut). By AI agents, Wed Nov 11 2026. No macro, syntax, notation, axiom, sorry.
-/
import Derived.Test.YtnpofpjaejnejaaDoorChecked
import GoSem.Claim
import GoSem.ClaimJoined
import GoSem.ClaimMapViews
import Derived.JoinedTies
import Derived.KernelRfl
namespace Go.Proofs.YtnpofpjaejnejaaDoor
/- THE CELL 'sum', in the pinned program and in every row, IS THE sha256 OF THE DUMP (.gsa) THAT YtnpofpjaejnejaaDoorProg.lean LOADS. Nothing in Lean hashes anything: it is a label: what it is worth is what the hold of that sum in a sandbox is worth. -/
noncomputable def Tryd.pinned : Pinned := { name := "ytnpofpjaejnejaadoor", sum := "a81246415f2294263b54c10e9676f3ddd90dc7e0364db56e39b456c90a304b9b", checked := Tryd.checked }
namespace Rows
def none {H : Type} : Left H := { results := [], args := [] }

/- WHAT THE LISTED PACKAGE-LEVEL VARIABLES READ AS WHEN THE CALL BEGINS. Each datum BY PROGRAM (the guide's laid-datum.mjs) off the statement by which the dump's own 'gosem.cut.vars' lays the variable. In a bare row this is a premise. The card (YtnpofpjaejnejaaDoorCards.lean) ties it to the program's text. -/
def laid_loop_example_gradual_impl_termForms {H : Type} : DataW H := .agg [.lit (.string []), .lit (.string [110]), .lit (.string [100]), .lit (.string [84]), .lit (.string [70]), .lit (.string [33, 110, 58, 116, 46, 65]), .lit (.string [40, 65, 32, 66, 41]), .lit (.string [40, 65, 43, 66, 41]), .lit (.string [40, 65, 60, 66, 41]), .lit (.string [123, 65, 63, 66, 58, 67, 125]), .lit (.string [91, 65, 44, 66, 93]), .lit (.string [36, 65]), .lit (.string [37, 65]), .lit (.string [40, 65, 58, 116, 41]), .lit (.string [40, 65, 58, 115, 126, 116, 35, 108, 41])]

/-- 'laws.FnExactTermValid': WHATEVER THE INPUT: true; the input reads as it did. -/
def fnExactTermValidSpec : ChangeSpec := { name := "fnExactTermValid", vars := ["loop.example/gradual/impl.termForms"], fn := fun _ => fun
  | [d, g1] => { results := [.lit (.bool true)], args := [d], vars := [g1] }
  | _ => none }
def fnExactTermValidRow : OpenClaim := { program := "ytnpofpjaejnejaadoor", sum := "a81246415f2294263b54c10e9676f3ddd90dc7e0364db56e39b456c90a304b9b", func := "loop.example/gradual/laws.FnExactTermValid", spec := "fnExactTermValid", inPlace := ["internal/bytealg.IndexByteString"], unfollowed := true, recurses := true, named := ["loop.example/gradual/impl.termForms"], loops := true, apart := false, laid := [("loop.example/gradual/impl.termForms", laid_loop_example_gradual_impl_termForms)] }
def FnExactTermValidSaid : Prop := fnExactTermValidRow.holds Tryd.pinned (OpenSpec.ofChange fnExactTermValidSpec)

/-- ITS FALSE NEIGHBOUR: 'it returns false'. Refute it at one input. -/
def fnExactTermValidWrong : ChangeSpec := { name := "fnExactTermValid", vars := ["loop.example/gradual/impl.termForms"], fn := fun _ => fun
  | [d, g1] => { results := [.lit (.bool false)], args := [d], vars := [g1] }
  | _ => none }
def FnExactTermValidWrongFalsely : Prop := fnExactTermValidRow.holds Tryd.pinned (OpenSpec.ofChange fnExactTermValidWrong)

/-- 'laws.FnExactCountNodes': WHATEVER THE INPUT: true; the input reads as it did. -/
def fnExactCountNodesSpec : ChangeSpec := { name := "fnExactCountNodes", vars := ["loop.example/gradual/impl.termForms"], fn := fun _ => fun
  | [d, g1] => { results := [.lit (.bool true)], args := [d], vars := [g1] }
  | _ => none }
def fnExactCountNodesRow : OpenClaim := { program := "ytnpofpjaejnejaadoor", sum := "a81246415f2294263b54c10e9676f3ddd90dc7e0364db56e39b456c90a304b9b", func := "loop.example/gradual/laws.FnExactCountNodes", spec := "fnExactCountNodes", inPlace := ["internal/bytealg.IndexByteString"], unfollowed := true, recurses := true, named := ["loop.example/gradual/impl.termForms"], loops := true, apart := false, laid := [("loop.example/gradual/impl.termForms", laid_loop_example_gradual_impl_termForms)] }
def FnExactCountNodesSaid : Prop := fnExactCountNodesRow.holds Tryd.pinned (OpenSpec.ofChange fnExactCountNodesSpec)

/-- ITS FALSE NEIGHBOUR: 'it returns false'. Refute it at one input. -/
def fnExactCountNodesWrong : ChangeSpec := { name := "fnExactCountNodes", vars := ["loop.example/gradual/impl.termForms"], fn := fun _ => fun
  | [d, g1] => { results := [.lit (.bool false)], args := [d], vars := [g1] }
  | _ => none }
def FnExactCountNodesWrongFalsely : Prop := fnExactCountNodesRow.holds Tryd.pinned (OpenSpec.ofChange fnExactCountNodesWrong)

/-- 'laws.FnExactCastValid': WHATEVER THE INPUT: true; the input reads as it did. -/
def fnExactCastValidSpec : ChangeSpec := { name := "fnExactCastValid", vars := ["loop.example/gradual/impl.termForms"], fn := fun _ => fun
  | [d, g1] => { results := [.lit (.bool true)], args := [d], vars := [g1] }
  | _ => none }
def fnExactCastValidRow : OpenClaim := { program := "ytnpofpjaejnejaadoor", sum := "a81246415f2294263b54c10e9676f3ddd90dc7e0364db56e39b456c90a304b9b", func := "loop.example/gradual/laws.FnExactCastValid", spec := "fnExactCastValid", inPlace := ["internal/bytealg.IndexByteString"], unfollowed := true, recurses := true, named := ["loop.example/gradual/impl.termForms"], loops := true, apart := false, laid := [("loop.example/gradual/impl.termForms", laid_loop_example_gradual_impl_termForms)] }
def FnExactCastValidSaid : Prop := fnExactCastValidRow.holds Tryd.pinned (OpenSpec.ofChange fnExactCastValidSpec)

/-- ITS FALSE NEIGHBOUR: 'it returns false'. Refute it at one input. -/
def fnExactCastValidWrong : ChangeSpec := { name := "fnExactCastValid", vars := ["loop.example/gradual/impl.termForms"], fn := fun _ => fun
  | [d, g1] => { results := [.lit (.bool false)], args := [d], vars := [g1] }
  | _ => none }
def FnExactCastValidWrongFalsely : Prop := fnExactCastValidRow.holds Tryd.pinned (OpenSpec.ofChange fnExactCastValidWrong)

/-- 'laws.FnExactCastLabels': WHATEVER THE INPUT: true; the input reads as it did. -/
def fnExactCastLabelsSpec : ChangeSpec := { name := "fnExactCastLabels", vars := ["loop.example/gradual/impl.termForms"], fn := fun _ => fun
  | [d, g1] => { results := [.lit (.bool true)], args := [d], vars := [g1] }
  | _ => none }
def fnExactCastLabelsRow : OpenClaim := { program := "ytnpofpjaejnejaadoor", sum := "a81246415f2294263b54c10e9676f3ddd90dc7e0364db56e39b456c90a304b9b", func := "loop.example/gradual/laws.FnExactCastLabels", spec := "fnExactCastLabels", inPlace := ["internal/bytealg.IndexByteString"], unfollowed := true, recurses := true, named := ["loop.example/gradual/impl.termForms"], loops := true, apart := false, laid := [("loop.example/gradual/impl.termForms", laid_loop_example_gradual_impl_termForms)] }
def FnExactCastLabelsSaid : Prop := fnExactCastLabelsRow.holds Tryd.pinned (OpenSpec.ofChange fnExactCastLabelsSpec)

/-- ITS FALSE NEIGHBOUR: 'it returns false'. Refute it at one input. -/
def fnExactCastLabelsWrong : ChangeSpec := { name := "fnExactCastLabels", vars := ["loop.example/gradual/impl.termForms"], fn := fun _ => fun
  | [d, g1] => { results := [.lit (.bool false)], args := [d], vars := [g1] }
  | _ => none }
def FnExactCastLabelsWrongFalsely : Prop := fnExactCastLabelsRow.holds Tryd.pinned (OpenSpec.ofChange fnExactCastLabelsWrong)

/-- 'laws.FnExactCastTypes': WHATEVER THE INPUT: true; the input reads as it did. -/
def fnExactCastTypesSpec : ChangeSpec := { name := "fnExactCastTypes", vars := ["loop.example/gradual/impl.termForms"], fn := fun _ => fun
  | [d1, d2, g1] => { results := [.lit (.bool true)], args := [d1, d2], vars := [g1] }
  | _ => none }
def fnExactCastTypesRow : OpenClaim := { program := "ytnpofpjaejnejaadoor", sum := "a81246415f2294263b54c10e9676f3ddd90dc7e0364db56e39b456c90a304b9b", func := "loop.example/gradual/laws.FnExactCastTypes", spec := "fnExactCastTypes", inPlace := ["internal/bytealg.IndexByteString"], unfollowed := true, recurses := true, named := ["loop.example/gradual/impl.termForms"], loops := true, apart := false, laid := [("loop.example/gradual/impl.termForms", laid_loop_example_gradual_impl_termForms)] }
def FnExactCastTypesSaid : Prop := fnExactCastTypesRow.holds Tryd.pinned (OpenSpec.ofChange fnExactCastTypesSpec)

/-- ITS FALSE NEIGHBOUR: 'it returns false'. Refute it at one input. -/
def fnExactCastTypesWrong : ChangeSpec := { name := "fnExactCastTypes", vars := ["loop.example/gradual/impl.termForms"], fn := fun _ => fun
  | [d1, d2, g1] => { results := [.lit (.bool false)], args := [d1, d2], vars := [g1] }
  | _ => none }
def FnExactCastTypesWrongFalsely : Prop := fnExactCastTypesRow.holds Tryd.pinned (OpenSpec.ofChange fnExactCastTypesWrong)

/-- 'laws.FnExactBareTerm': WHATEVER THE INPUT: true; the input reads as it did. -/
def fnExactBareTermSpec : ChangeSpec := { name := "fnExactBareTerm", vars := ["loop.example/gradual/impl.termForms"], fn := fun _ => fun
  | [d, g1] => { results := [.lit (.bool true)], args := [d], vars := [g1] }
  | _ => none }
def fnExactBareTermRow : OpenClaim := { program := "ytnpofpjaejnejaadoor", sum := "a81246415f2294263b54c10e9676f3ddd90dc7e0364db56e39b456c90a304b9b", func := "loop.example/gradual/laws.FnExactBareTerm", spec := "fnExactBareTerm", inPlace := ["internal/bytealg.IndexByteString"], unfollowed := true, recurses := true, named := ["loop.example/gradual/impl.termForms"], loops := true, apart := false, laid := [("loop.example/gradual/impl.termForms", laid_loop_example_gradual_impl_termForms)] }
def FnExactBareTermSaid : Prop := fnExactBareTermRow.holds Tryd.pinned (OpenSpec.ofChange fnExactBareTermSpec)

/-- ITS FALSE NEIGHBOUR: 'it returns false'. Refute it at one input. -/
def fnExactBareTermWrong : ChangeSpec := { name := "fnExactBareTerm", vars := ["loop.example/gradual/impl.termForms"], fn := fun _ => fun
  | [d, g1] => { results := [.lit (.bool false)], args := [d], vars := [g1] }
  | _ => none }
def FnExactBareTermWrongFalsely : Prop := fnExactBareTermRow.holds Tryd.pinned (OpenSpec.ofChange fnExactBareTermWrong)

/-- 'laws.FnExactTermTypes': WHATEVER THE INPUT: true; the input reads as it did. -/
def fnExactTermTypesSpec : ChangeSpec := { name := "fnExactTermTypes", vars := ["loop.example/gradual/impl.termForms"], fn := fun _ => fun
  | [d, g1] => { results := [.lit (.bool true)], args := [d], vars := [g1] }
  | _ => none }
def fnExactTermTypesRow : OpenClaim := { program := "ytnpofpjaejnejaadoor", sum := "a81246415f2294263b54c10e9676f3ddd90dc7e0364db56e39b456c90a304b9b", func := "loop.example/gradual/laws.FnExactTermTypes", spec := "fnExactTermTypes", inPlace := ["internal/bytealg.IndexByteString"], unfollowed := true, recurses := true, named := ["loop.example/gradual/impl.termForms"], loops := true, apart := false, laid := [("loop.example/gradual/impl.termForms", laid_loop_example_gradual_impl_termForms)] }
def FnExactTermTypesSaid : Prop := fnExactTermTypesRow.holds Tryd.pinned (OpenSpec.ofChange fnExactTermTypesSpec)

/-- ITS FALSE NEIGHBOUR: 'it returns false'. Refute it at one input. -/
def fnExactTermTypesWrong : ChangeSpec := { name := "fnExactTermTypes", vars := ["loop.example/gradual/impl.termForms"], fn := fun _ => fun
  | [d, g1] => { results := [.lit (.bool false)], args := [d], vars := [g1] }
  | _ => none }
def FnExactTermTypesWrongFalsely : Prop := fnExactTermTypesRow.holds Tryd.pinned (OpenSpec.ofChange fnExactTermTypesWrong)

/-- 'laws.FnExactTypeIn': WHATEVER THE INPUT: true; the input reads as it did. -/
def fnExactTypeInSpec : ChangeSpec := { name := "fnExactTypeIn", vars := ["loop.example/gradual/impl.termForms"], fn := fun _ => fun
  | [d1, d2, g1] => { results := [.lit (.bool true)], args := [d1, d2], vars := [g1] }
  | _ => none }
def fnExactTypeInRow : OpenClaim := { program := "ytnpofpjaejnejaadoor", sum := "a81246415f2294263b54c10e9676f3ddd90dc7e0364db56e39b456c90a304b9b", func := "loop.example/gradual/laws.FnExactTypeIn", spec := "fnExactTypeIn", inPlace := ["internal/bytealg.IndexByteString"], unfollowed := true, recurses := true, named := ["loop.example/gradual/impl.termForms"], loops := true, apart := false, laid := [("loop.example/gradual/impl.termForms", laid_loop_example_gradual_impl_termForms)] }
def FnExactTypeInSaid : Prop := fnExactTypeInRow.holds Tryd.pinned (OpenSpec.ofChange fnExactTypeInSpec)

/-- ITS FALSE NEIGHBOUR: 'it returns false'. Refute it at one input. -/
def fnExactTypeInWrong : ChangeSpec := { name := "fnExactTypeIn", vars := ["loop.example/gradual/impl.termForms"], fn := fun _ => fun
  | [d1, d2, g1] => { results := [.lit (.bool false)], args := [d1, d2], vars := [g1] }
  | _ => none }
def FnExactTypeInWrongFalsely : Prop := fnExactTypeInRow.holds Tryd.pinned (OpenSpec.ofChange fnExactTypeInWrong)

/- THE SECOND FORM. 'bulk': how many values and letters a reading holds, each counted each time it is reached (what is shared counts as often as it is met; a slice's spare places count too). A statement '..UptoSaid' is the law's where the arguments, and the package variables that the reading takes, are together of bulk at most 1048576: NARROWER than '..Said'. Prove '..Said' where nothing that the law and all that it calls make is longer than what came in: it says more and counts as full. Else prove '..UptoSaid'. A law counts once. -/
mutual
def uptoBulk {H : Type} : DataW H → Nat
  | .lit (.string bytes) => bytes.length + 1
  | .lit _ => 1
  | .nil => 1
  | .ptr d => uptoBulk d + 1
  | .slice elems spare => uptoBulkAll elems + uptoBulkAll spare + 1
  | .agg parts => uptoBulkAll parts + 1
  | .iface _ d => uptoBulk d + 1
  | .map entries => uptoBulkEntries entries + 1
  | .held _ => 1
def uptoBulkAll {H : Type} : List (DataW H) → Nat
  | [] => 0
  | d :: r => uptoBulk d + uptoBulkAll r
def uptoBulkEntries {H : Type} : List (Lit × DataW H) → Nat
  | [] => 0
  | x :: r => uptoBulkEntry x + uptoBulkEntries r
def uptoBulkEntry {H : Type} : Lit × DataW H → Nat
  | (.string bytes, d) => bytes.length + uptoBulk d + 1
  | (_, d) => uptoBulk d + 1
 end
def uptoSmall : (H : Type) → List (DataW H) → Bool := fun _ ds => decide (uptoBulkAll ds ≤ 1048576)
def OpenSpec.upto (s : _root_.Go.ChangeSpec) : _root_.Go.OpenSpec := { _root_.Go.OpenSpec.ofChange s with cond := some uptoSmall }

/-- 'laws.FnExactTermValid', WHERE WHAT IT READS IS OF BULK AT MOST 1048576: true; the input reads as it did. -/
def fnExactTermValidUptoRow : OpenClaim := { program := "ytnpofpjaejnejaadoor", sum := "a81246415f2294263b54c10e9676f3ddd90dc7e0364db56e39b456c90a304b9b", func := "loop.example/gradual/laws.FnExactTermValid", spec := "fnExactTermValid", inPlace := ["internal/bytealg.IndexByteString"], unfollowed := true, recurses := true, named := ["loop.example/gradual/impl.termForms"], loops := true, apart := false, laid := [("loop.example/gradual/impl.termForms", laid_loop_example_gradual_impl_termForms)], narrowed := true }
def FnExactTermValidUptoSaid : Prop := fnExactTermValidUptoRow.holds Tryd.pinned (OpenSpec.upto fnExactTermValidSpec)

/-- 'laws.FnExactCountNodes', WHERE WHAT IT READS IS OF BULK AT MOST 1048576: true; the input reads as it did. -/
def fnExactCountNodesUptoRow : OpenClaim := { program := "ytnpofpjaejnejaadoor", sum := "a81246415f2294263b54c10e9676f3ddd90dc7e0364db56e39b456c90a304b9b", func := "loop.example/gradual/laws.FnExactCountNodes", spec := "fnExactCountNodes", inPlace := ["internal/bytealg.IndexByteString"], unfollowed := true, recurses := true, named := ["loop.example/gradual/impl.termForms"], loops := true, apart := false, laid := [("loop.example/gradual/impl.termForms", laid_loop_example_gradual_impl_termForms)], narrowed := true }
def FnExactCountNodesUptoSaid : Prop := fnExactCountNodesUptoRow.holds Tryd.pinned (OpenSpec.upto fnExactCountNodesSpec)

/-- 'laws.FnExactCastValid', WHERE WHAT IT READS IS OF BULK AT MOST 1048576: true; the input reads as it did. -/
def fnExactCastValidUptoRow : OpenClaim := { program := "ytnpofpjaejnejaadoor", sum := "a81246415f2294263b54c10e9676f3ddd90dc7e0364db56e39b456c90a304b9b", func := "loop.example/gradual/laws.FnExactCastValid", spec := "fnExactCastValid", inPlace := ["internal/bytealg.IndexByteString"], unfollowed := true, recurses := true, named := ["loop.example/gradual/impl.termForms"], loops := true, apart := false, laid := [("loop.example/gradual/impl.termForms", laid_loop_example_gradual_impl_termForms)], narrowed := true }
def FnExactCastValidUptoSaid : Prop := fnExactCastValidUptoRow.holds Tryd.pinned (OpenSpec.upto fnExactCastValidSpec)

/-- 'laws.FnExactCastLabels', WHERE WHAT IT READS IS OF BULK AT MOST 1048576: true; the input reads as it did. -/
def fnExactCastLabelsUptoRow : OpenClaim := { program := "ytnpofpjaejnejaadoor", sum := "a81246415f2294263b54c10e9676f3ddd90dc7e0364db56e39b456c90a304b9b", func := "loop.example/gradual/laws.FnExactCastLabels", spec := "fnExactCastLabels", inPlace := ["internal/bytealg.IndexByteString"], unfollowed := true, recurses := true, named := ["loop.example/gradual/impl.termForms"], loops := true, apart := false, laid := [("loop.example/gradual/impl.termForms", laid_loop_example_gradual_impl_termForms)], narrowed := true }
def FnExactCastLabelsUptoSaid : Prop := fnExactCastLabelsUptoRow.holds Tryd.pinned (OpenSpec.upto fnExactCastLabelsSpec)

/-- 'laws.FnExactCastTypes', WHERE WHAT IT READS IS OF BULK AT MOST 1048576: true; the input reads as it did. -/
def fnExactCastTypesUptoRow : OpenClaim := { program := "ytnpofpjaejnejaadoor", sum := "a81246415f2294263b54c10e9676f3ddd90dc7e0364db56e39b456c90a304b9b", func := "loop.example/gradual/laws.FnExactCastTypes", spec := "fnExactCastTypes", inPlace := ["internal/bytealg.IndexByteString"], unfollowed := true, recurses := true, named := ["loop.example/gradual/impl.termForms"], loops := true, apart := false, laid := [("loop.example/gradual/impl.termForms", laid_loop_example_gradual_impl_termForms)], narrowed := true }
def FnExactCastTypesUptoSaid : Prop := fnExactCastTypesUptoRow.holds Tryd.pinned (OpenSpec.upto fnExactCastTypesSpec)

/-- 'laws.FnExactBareTerm', WHERE WHAT IT READS IS OF BULK AT MOST 1048576: true; the input reads as it did. -/
def fnExactBareTermUptoRow : OpenClaim := { program := "ytnpofpjaejnejaadoor", sum := "a81246415f2294263b54c10e9676f3ddd90dc7e0364db56e39b456c90a304b9b", func := "loop.example/gradual/laws.FnExactBareTerm", spec := "fnExactBareTerm", inPlace := ["internal/bytealg.IndexByteString"], unfollowed := true, recurses := true, named := ["loop.example/gradual/impl.termForms"], loops := true, apart := false, laid := [("loop.example/gradual/impl.termForms", laid_loop_example_gradual_impl_termForms)], narrowed := true }
def FnExactBareTermUptoSaid : Prop := fnExactBareTermUptoRow.holds Tryd.pinned (OpenSpec.upto fnExactBareTermSpec)

/-- 'laws.FnExactTermTypes', WHERE WHAT IT READS IS OF BULK AT MOST 1048576: true; the input reads as it did. -/
def fnExactTermTypesUptoRow : OpenClaim := { program := "ytnpofpjaejnejaadoor", sum := "a81246415f2294263b54c10e9676f3ddd90dc7e0364db56e39b456c90a304b9b", func := "loop.example/gradual/laws.FnExactTermTypes", spec := "fnExactTermTypes", inPlace := ["internal/bytealg.IndexByteString"], unfollowed := true, recurses := true, named := ["loop.example/gradual/impl.termForms"], loops := true, apart := false, laid := [("loop.example/gradual/impl.termForms", laid_loop_example_gradual_impl_termForms)], narrowed := true }
def FnExactTermTypesUptoSaid : Prop := fnExactTermTypesUptoRow.holds Tryd.pinned (OpenSpec.upto fnExactTermTypesSpec)

/-- 'laws.FnExactTypeIn', WHERE WHAT IT READS IS OF BULK AT MOST 1048576: true; the input reads as it did. -/
def fnExactTypeInUptoRow : OpenClaim := { program := "ytnpofpjaejnejaadoor", sum := "a81246415f2294263b54c10e9676f3ddd90dc7e0364db56e39b456c90a304b9b", func := "loop.example/gradual/laws.FnExactTypeIn", spec := "fnExactTypeIn", inPlace := ["internal/bytealg.IndexByteString"], unfollowed := true, recurses := true, named := ["loop.example/gradual/impl.termForms"], loops := true, apart := false, laid := [("loop.example/gradual/impl.termForms", laid_loop_example_gradual_impl_termForms)], narrowed := true }
def FnExactTypeInUptoSaid : Prop := fnExactTypeInUptoRow.holds Tryd.pinned (OpenSpec.upto fnExactTypeInSpec)

end Rows
end Go.Proofs.YtnpofpjaejnejaaDoor
