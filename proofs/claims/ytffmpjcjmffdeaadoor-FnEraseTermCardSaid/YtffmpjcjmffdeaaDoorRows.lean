/-
  NARROWER THAN 'FOR EVERY INPUT', by the rows' own cells (each row's printed sentence says how): FnExactCountCasts: loops, laid · FnExactTypeIn: loops, laid · FnExactTypeOf: loops, laid · FnExactCastTypeOf: loops, laid · FnExactMergeTerms: loops, laid · FnEraseTerm: laid · FnFreeNames: laid.
  DERIVED. THE GIVEN ROWS OF THIS SEAT. 7 by the template 'for every input the law returns true; each argument reads behind the call as it read before'; 0 by the template 'total and deterministic' (their statements: YtffmpjcjmffdeaaDoorTotals.lean).
  GIVEN WITH THE SEED: the statements are not yours to turn. If you find one false, say at which input.
  Laid BY PROGRAM, IN A SANDBOX (cutbox-rows.mjs): the forced cells as the released guide's own fill.sh prints them over the translation 7facd024045f80d5… (all of the seat's roots in one cut). By AI agents, Wed Nov 11 2026. No macro, syntax, notation, axiom, sorry.
-/
import Derived.Test.YtffmpjcjmffdeaaDoorChecked
import GoSem.Claim
import GoSem.ClaimJoined
import GoSem.ClaimMapViews
import Derived.JoinedTies
import Derived.KernelRfl
namespace Go.Proofs.YtffmpjcjmffdeaaDoor
/- THE CELL 'sum', in the pinned program and in every row, IS THE sha256 OF THE DUMP (.gsa) THAT YtffmpjcjmffdeaaDoorProg.lean LOADS. Nothing in Lean hashes anything: it is a label: what it is worth is what the hold of that sum in a sandbox is worth. -/
noncomputable def Tryd.pinned : Pinned := { name := "ytffmpjcjmffdeaadoor", sum := "7facd024045f80d578c0db5bc162ce33c1bc173456cc9157a65d643d1456ec18", checked := Tryd.checked }
namespace Rows
def none {H : Type} : Left H := { results := [], args := [] }

/- WHAT THE LISTED PACKAGE-LEVEL VARIABLES READ AS WHEN THE CALL BEGINS. Each datum BY PROGRAM (the guide's laid-datum.mjs) off the statement by which the dump's own 'gosem.cut.vars' lays the variable. In a bare row this is a premise. The card (YtffmpjcjmffdeaaDoorCards.lean) ties it to the program's text. -/
def laid_loop_example_gradual_impl_termForms {H : Type} : DataW H := .agg [.lit (.string []), .lit (.string [110]), .lit (.string [100]), .lit (.string [84]), .lit (.string [70]), .lit (.string [33, 110, 58, 116, 46, 65]), .lit (.string [40, 65, 32, 66, 41]), .lit (.string [40, 65, 43, 66, 41]), .lit (.string [40, 65, 60, 66, 41]), .lit (.string [123, 65, 63, 66, 58, 67, 125]), .lit (.string [91, 65, 44, 66, 93]), .lit (.string [36, 65]), .lit (.string [37, 65]), .lit (.string [40, 65, 58, 116, 41]), .lit (.string [40, 65, 58, 115, 126, 116, 35, 108, 41])]

/-- 'laws.FnExactCountCasts': WHATEVER THE INPUT: true; the input reads as it did. -/
def fnExactCountCastsSpec : ChangeSpec := { name := "fnExactCountCasts", vars := ["loop.example/gradual/impl.termForms"], fn := fun _ => fun
  | [d, g1] => { results := [.lit (.bool true)], args := [d], vars := [g1] }
  | _ => none }
def fnExactCountCastsRow : OpenClaim := { program := "ytffmpjcjmffdeaadoor", sum := "7facd024045f80d578c0db5bc162ce33c1bc173456cc9157a65d643d1456ec18", func := "loop.example/gradual/laws.FnExactCountCasts", spec := "fnExactCountCasts", inPlace := ["internal/bytealg.IndexByteString"], unfollowed := true, recurses := true, named := ["loop.example/gradual/impl.termForms"], loops := true, plainKeys := false, apart := false, laid := [("loop.example/gradual/impl.termForms", laid_loop_example_gradual_impl_termForms)] }
def FnExactCountCastsSaid : Prop := fnExactCountCastsRow.holds Tryd.pinned (OpenSpec.ofChange fnExactCountCastsSpec)

/-- ITS FALSE NEIGHBOUR: 'it returns false'. Refute it at one input. -/
def fnExactCountCastsWrong : ChangeSpec := { name := "fnExactCountCasts", vars := ["loop.example/gradual/impl.termForms"], fn := fun _ => fun
  | [d, g1] => { results := [.lit (.bool false)], args := [d], vars := [g1] }
  | _ => none }
def FnExactCountCastsWrongFalsely : Prop := fnExactCountCastsRow.holds Tryd.pinned (OpenSpec.ofChange fnExactCountCastsWrong)

/-- 'laws.FnExactTypeIn': WHATEVER THE INPUT: true; the input reads as it did. -/
def fnExactTypeInSpec : ChangeSpec := { name := "fnExactTypeIn", vars := ["loop.example/gradual/impl.termForms"], fn := fun _ => fun
  | [d1, d2, g1] => { results := [.lit (.bool true)], args := [d1, d2], vars := [g1] }
  | _ => none }
def fnExactTypeInRow : OpenClaim := { program := "ytffmpjcjmffdeaadoor", sum := "7facd024045f80d578c0db5bc162ce33c1bc173456cc9157a65d643d1456ec18", func := "loop.example/gradual/laws.FnExactTypeIn", spec := "fnExactTypeIn", inPlace := ["internal/bytealg.IndexByteString"], unfollowed := true, recurses := true, named := ["loop.example/gradual/impl.termForms"], loops := true, plainKeys := false, apart := false, laid := [("loop.example/gradual/impl.termForms", laid_loop_example_gradual_impl_termForms)] }
def FnExactTypeInSaid : Prop := fnExactTypeInRow.holds Tryd.pinned (OpenSpec.ofChange fnExactTypeInSpec)

/-- ITS FALSE NEIGHBOUR: 'it returns false'. Refute it at one input. -/
def fnExactTypeInWrong : ChangeSpec := { name := "fnExactTypeIn", vars := ["loop.example/gradual/impl.termForms"], fn := fun _ => fun
  | [d1, d2, g1] => { results := [.lit (.bool false)], args := [d1, d2], vars := [g1] }
  | _ => none }
def FnExactTypeInWrongFalsely : Prop := fnExactTypeInRow.holds Tryd.pinned (OpenSpec.ofChange fnExactTypeInWrong)

/-- 'laws.FnExactTypeOf': WHATEVER THE INPUT: true; the input reads as it did. -/
def fnExactTypeOfSpec : ChangeSpec := { name := "fnExactTypeOf", vars := ["loop.example/gradual/impl.termForms"], fn := fun _ => fun
  | [d, g1] => { results := [.lit (.bool true)], args := [d], vars := [g1] }
  | _ => none }
def fnExactTypeOfRow : OpenClaim := { program := "ytffmpjcjmffdeaadoor", sum := "7facd024045f80d578c0db5bc162ce33c1bc173456cc9157a65d643d1456ec18", func := "loop.example/gradual/laws.FnExactTypeOf", spec := "fnExactTypeOf", inPlace := ["internal/bytealg.IndexByteString"], unfollowed := true, recurses := true, named := ["loop.example/gradual/impl.termForms"], loops := true, plainKeys := false, apart := false, laid := [("loop.example/gradual/impl.termForms", laid_loop_example_gradual_impl_termForms)] }
def FnExactTypeOfSaid : Prop := fnExactTypeOfRow.holds Tryd.pinned (OpenSpec.ofChange fnExactTypeOfSpec)

/-- ITS FALSE NEIGHBOUR: 'it returns false'. Refute it at one input. -/
def fnExactTypeOfWrong : ChangeSpec := { name := "fnExactTypeOf", vars := ["loop.example/gradual/impl.termForms"], fn := fun _ => fun
  | [d, g1] => { results := [.lit (.bool false)], args := [d], vars := [g1] }
  | _ => none }
def FnExactTypeOfWrongFalsely : Prop := fnExactTypeOfRow.holds Tryd.pinned (OpenSpec.ofChange fnExactTypeOfWrong)

/-- 'laws.FnExactCastTypeOf': WHATEVER THE INPUT: true; the input reads as it did. -/
def fnExactCastTypeOfSpec : ChangeSpec := { name := "fnExactCastTypeOf", vars := ["loop.example/gradual/impl.termForms"], fn := fun _ => fun
  | [d, g1] => { results := [.lit (.bool true)], args := [d], vars := [g1] }
  | _ => none }
def fnExactCastTypeOfRow : OpenClaim := { program := "ytffmpjcjmffdeaadoor", sum := "7facd024045f80d578c0db5bc162ce33c1bc173456cc9157a65d643d1456ec18", func := "loop.example/gradual/laws.FnExactCastTypeOf", spec := "fnExactCastTypeOf", inPlace := ["internal/bytealg.IndexByteString"], unfollowed := true, recurses := true, named := ["loop.example/gradual/impl.termForms"], loops := true, plainKeys := false, apart := false, laid := [("loop.example/gradual/impl.termForms", laid_loop_example_gradual_impl_termForms)] }
def FnExactCastTypeOfSaid : Prop := fnExactCastTypeOfRow.holds Tryd.pinned (OpenSpec.ofChange fnExactCastTypeOfSpec)

/-- ITS FALSE NEIGHBOUR: 'it returns false'. Refute it at one input. -/
def fnExactCastTypeOfWrong : ChangeSpec := { name := "fnExactCastTypeOf", vars := ["loop.example/gradual/impl.termForms"], fn := fun _ => fun
  | [d, g1] => { results := [.lit (.bool false)], args := [d], vars := [g1] }
  | _ => none }
def FnExactCastTypeOfWrongFalsely : Prop := fnExactCastTypeOfRow.holds Tryd.pinned (OpenSpec.ofChange fnExactCastTypeOfWrong)

/-- 'laws.FnExactMergeTerms': WHATEVER THE INPUT: true; the input reads as it did. -/
def fnExactMergeTermsSpec : ChangeSpec := { name := "fnExactMergeTerms", vars := ["loop.example/gradual/impl.termForms"], fn := fun _ => fun
  | [d1, d2, g1] => { results := [.lit (.bool true)], args := [d1, d2], vars := [g1] }
  | _ => none }
def fnExactMergeTermsRow : OpenClaim := { program := "ytffmpjcjmffdeaadoor", sum := "7facd024045f80d578c0db5bc162ce33c1bc173456cc9157a65d643d1456ec18", func := "loop.example/gradual/laws.FnExactMergeTerms", spec := "fnExactMergeTerms", inPlace := ["internal/bytealg.IndexByteString"], unfollowed := true, recurses := true, named := ["loop.example/gradual/impl.termForms"], loops := true, plainKeys := false, apart := false, laid := [("loop.example/gradual/impl.termForms", laid_loop_example_gradual_impl_termForms)] }
def FnExactMergeTermsSaid : Prop := fnExactMergeTermsRow.holds Tryd.pinned (OpenSpec.ofChange fnExactMergeTermsSpec)

/-- ITS FALSE NEIGHBOUR: 'it returns false'. Refute it at one input. -/
def fnExactMergeTermsWrong : ChangeSpec := { name := "fnExactMergeTerms", vars := ["loop.example/gradual/impl.termForms"], fn := fun _ => fun
  | [d1, d2, g1] => { results := [.lit (.bool false)], args := [d1, d2], vars := [g1] }
  | _ => none }
def FnExactMergeTermsWrongFalsely : Prop := fnExactMergeTermsRow.holds Tryd.pinned (OpenSpec.ofChange fnExactMergeTermsWrong)

/-- 'laws.FnEraseTerm': WHATEVER THE INPUT: true; the input reads as it did. -/
def fnEraseTermSpec : ChangeSpec := { name := "fnEraseTerm", vars := ["loop.example/gradual/impl.termForms"], fn := fun _ => fun
  | [d, g1] => { results := [.lit (.bool true)], args := [d], vars := [g1] }
  | _ => none }
def fnEraseTermRow : OpenClaim := { program := "ytffmpjcjmffdeaadoor", sum := "7facd024045f80d578c0db5bc162ce33c1bc173456cc9157a65d643d1456ec18", func := "loop.example/gradual/laws.FnEraseTerm", spec := "fnEraseTerm", inPlace := ["internal/bytealg.IndexByteString", "internal/abi.NoEscape"], unfollowed := true, recurses := true, named := ["loop.example/gradual/impl.termForms"], plainKeys := false, apart := false, laid := [("loop.example/gradual/impl.termForms", laid_loop_example_gradual_impl_termForms)] }
def FnEraseTermSaid : Prop := fnEraseTermRow.holds Tryd.pinned (OpenSpec.ofChange fnEraseTermSpec)

/-- ITS FALSE NEIGHBOUR: 'it returns false'. Refute it at one input. -/
def fnEraseTermWrong : ChangeSpec := { name := "fnEraseTerm", vars := ["loop.example/gradual/impl.termForms"], fn := fun _ => fun
  | [d, g1] => { results := [.lit (.bool false)], args := [d], vars := [g1] }
  | _ => none }
def FnEraseTermWrongFalsely : Prop := fnEraseTermRow.holds Tryd.pinned (OpenSpec.ofChange fnEraseTermWrong)

/-- 'laws.FnFreeNames': WHATEVER THE INPUT: true; the input reads as it did. -/
def fnFreeNamesSpec : ChangeSpec := { name := "fnFreeNames", vars := ["loop.example/gradual/impl.termForms"], fn := fun _ => fun
  | [d, g1] => { results := [.lit (.bool true)], args := [d], vars := [g1] }
  | _ => none }
def fnFreeNamesRow : OpenClaim := { program := "ytffmpjcjmffdeaadoor", sum := "7facd024045f80d578c0db5bc162ce33c1bc173456cc9157a65d643d1456ec18", func := "loop.example/gradual/laws.FnFreeNames", spec := "fnFreeNames", inPlace := ["internal/bytealg.IndexByteString", "internal/abi.NoEscape"], unfollowed := true, recurses := true, named := ["loop.example/gradual/impl.termForms"], plainKeys := false, apart := false, laid := [("loop.example/gradual/impl.termForms", laid_loop_example_gradual_impl_termForms)] }
def FnFreeNamesSaid : Prop := fnFreeNamesRow.holds Tryd.pinned (OpenSpec.ofChange fnFreeNamesSpec)

/-- ITS FALSE NEIGHBOUR: 'it returns false'. Refute it at one input. -/
def fnFreeNamesWrong : ChangeSpec := { name := "fnFreeNames", vars := ["loop.example/gradual/impl.termForms"], fn := fun _ => fun
  | [d, g1] => { results := [.lit (.bool false)], args := [d], vars := [g1] }
  | _ => none }
def FnFreeNamesWrongFalsely : Prop := fnFreeNamesRow.holds Tryd.pinned (OpenSpec.ofChange fnFreeNamesWrong)

/- THE SECOND FORM. 'bulk': how many values and letters a reading holds, each counted each time it is reached (what is shared counts as often as it is met; a slice's spare places count too). A statement '..UptoSaid' is the law's where the arguments, and the package variables that the reading takes, are together of bulk at most 1048576: NARROWER than '..Said'. Prove '..Said' where nothing that the law and all that it calls make is longer than what came in: it says more and counts as full. Else prove '..UptoSaid'. A law counts once. -/
mutual
def uptoBulk {H : Type} : DataW H → Nat
  | .lit (.string bytes) => bytes.length + 1
  | .lit _ => 1
  | .nil => 1
  | .ptr d => uptoBulk d + 1
  | .slice elems spare => uptoBulkAll elems + uptoBulkAll spare + 1
  | .agg parts => uptoBulkAll parts + 1
  | .iface _ d => uptoBulk d + 1
  | .map entries => uptoBulkEntries entries + 1
  | .held _ => 1
def uptoBulkAll {H : Type} : List (DataW H) → Nat
  | [] => 0
  | d :: r => uptoBulk d + uptoBulkAll r
def uptoBulkEntries {H : Type} : List (Lit × DataW H) → Nat
  | [] => 0
  | x :: r => uptoBulkEntry x + uptoBulkEntries r
def uptoBulkEntry {H : Type} : Lit × DataW H → Nat
  | (.string bytes, d) => bytes.length + uptoBulk d + 1
  | (_, d) => uptoBulk d + 1
 end
def uptoSmall : (H : Type) → List (DataW H) → Bool := fun _ ds => decide (uptoBulkAll ds ≤ 1048576)
def OpenSpec.upto (s : _root_.Go.ChangeSpec) : _root_.Go.OpenSpec := { _root_.Go.OpenSpec.ofChange s with cond := some uptoSmall }

/-- 'laws.FnExactCountCasts', WHERE WHAT IT READS IS OF BULK AT MOST 1048576: true; the input reads as it did. -/
def fnExactCountCastsUptoRow : OpenClaim := { program := "ytffmpjcjmffdeaadoor", sum := "7facd024045f80d578c0db5bc162ce33c1bc173456cc9157a65d643d1456ec18", func := "loop.example/gradual/laws.FnExactCountCasts", spec := "fnExactCountCasts", inPlace := ["internal/bytealg.IndexByteString"], unfollowed := true, recurses := true, named := ["loop.example/gradual/impl.termForms"], loops := true, plainKeys := false, apart := false, laid := [("loop.example/gradual/impl.termForms", laid_loop_example_gradual_impl_termForms)], narrowed := true }
def FnExactCountCastsUptoSaid : Prop := fnExactCountCastsUptoRow.holds Tryd.pinned (OpenSpec.upto fnExactCountCastsSpec)

/-- 'laws.FnExactTypeIn', WHERE WHAT IT READS IS OF BULK AT MOST 1048576: true; the input reads as it did. -/
def fnExactTypeInUptoRow : OpenClaim := { program := "ytffmpjcjmffdeaadoor", sum := "7facd024045f80d578c0db5bc162ce33c1bc173456cc9157a65d643d1456ec18", func := "loop.example/gradual/laws.FnExactTypeIn", spec := "fnExactTypeIn", inPlace := ["internal/bytealg.IndexByteString"], unfollowed := true, recurses := true, named := ["loop.example/gradual/impl.termForms"], loops := true, plainKeys := false, apart := false, laid := [("loop.example/gradual/impl.termForms", laid_loop_example_gradual_impl_termForms)], narrowed := true }
def FnExactTypeInUptoSaid : Prop := fnExactTypeInUptoRow.holds Tryd.pinned (OpenSpec.upto fnExactTypeInSpec)

/-- 'laws.FnExactTypeOf', WHERE WHAT IT READS IS OF BULK AT MOST 1048576: true; the input reads as it did. -/
def fnExactTypeOfUptoRow : OpenClaim := { program := "ytffmpjcjmffdeaadoor", sum := "7facd024045f80d578c0db5bc162ce33c1bc173456cc9157a65d643d1456ec18", func := "loop.example/gradual/laws.FnExactTypeOf", spec := "fnExactTypeOf", inPlace := ["internal/bytealg.IndexByteString"], unfollowed := true, recurses := true, named := ["loop.example/gradual/impl.termForms"], loops := true, plainKeys := false, apart := false, laid := [("loop.example/gradual/impl.termForms", laid_loop_example_gradual_impl_termForms)], narrowed := true }
def FnExactTypeOfUptoSaid : Prop := fnExactTypeOfUptoRow.holds Tryd.pinned (OpenSpec.upto fnExactTypeOfSpec)

/-- 'laws.FnExactCastTypeOf', WHERE WHAT IT READS IS OF BULK AT MOST 1048576: true; the input reads as it did. -/
def fnExactCastTypeOfUptoRow : OpenClaim := { program := "ytffmpjcjmffdeaadoor", sum := "7facd024045f80d578c0db5bc162ce33c1bc173456cc9157a65d643d1456ec18", func := "loop.example/gradual/laws.FnExactCastTypeOf", spec := "fnExactCastTypeOf", inPlace := ["internal/bytealg.IndexByteString"], unfollowed := true, recurses := true, named := ["loop.example/gradual/impl.termForms"], loops := true, plainKeys := false, apart := false, laid := [("loop.example/gradual/impl.termForms", laid_loop_example_gradual_impl_termForms)], narrowed := true }
def FnExactCastTypeOfUptoSaid : Prop := fnExactCastTypeOfUptoRow.holds Tryd.pinned (OpenSpec.upto fnExactCastTypeOfSpec)

/-- 'laws.FnExactMergeTerms', WHERE WHAT IT READS IS OF BULK AT MOST 1048576: true; the input reads as it did. -/
def fnExactMergeTermsUptoRow : OpenClaim := { program := "ytffmpjcjmffdeaadoor", sum := "7facd024045f80d578c0db5bc162ce33c1bc173456cc9157a65d643d1456ec18", func := "loop.example/gradual/laws.FnExactMergeTerms", spec := "fnExactMergeTerms", inPlace := ["internal/bytealg.IndexByteString"], unfollowed := true, recurses := true, named := ["loop.example/gradual/impl.termForms"], loops := true, plainKeys := false, apart := false, laid := [("loop.example/gradual/impl.termForms", laid_loop_example_gradual_impl_termForms)], narrowed := true }
def FnExactMergeTermsUptoSaid : Prop := fnExactMergeTermsUptoRow.holds Tryd.pinned (OpenSpec.upto fnExactMergeTermsSpec)

/-- 'laws.FnEraseTerm', WHERE WHAT IT READS IS OF BULK AT MOST 1048576: true; the input reads as it did. -/
def fnEraseTermUptoRow : OpenClaim := { program := "ytffmpjcjmffdeaadoor", sum := "7facd024045f80d578c0db5bc162ce33c1bc173456cc9157a65d643d1456ec18", func := "loop.example/gradual/laws.FnEraseTerm", spec := "fnEraseTerm", inPlace := ["internal/bytealg.IndexByteString", "internal/abi.NoEscape"], unfollowed := true, recurses := true, named := ["loop.example/gradual/impl.termForms"], plainKeys := false, apart := false, laid := [("loop.example/gradual/impl.termForms", laid_loop_example_gradual_impl_termForms)], narrowed := true }
def FnEraseTermUptoSaid : Prop := fnEraseTermUptoRow.holds Tryd.pinned (OpenSpec.upto fnEraseTermSpec)

/-- 'laws.FnFreeNames', WHERE WHAT IT READS IS OF BULK AT MOST 1048576: true; the input reads as it did. -/
def fnFreeNamesUptoRow : OpenClaim := { program := "ytffmpjcjmffdeaadoor", sum := "7facd024045f80d578c0db5bc162ce33c1bc173456cc9157a65d643d1456ec18", func := "loop.example/gradual/laws.FnFreeNames", spec := "fnFreeNames", inPlace := ["internal/bytealg.IndexByteString", "internal/abi.NoEscape"], unfollowed := true, recurses := true, named := ["loop.example/gradual/impl.termForms"], plainKeys := false, apart := false, laid := [("loop.example/gradual/impl.termForms", laid_loop_example_gradual_impl_termForms)], narrowed := true }
def FnFreeNamesUptoSaid : Prop := fnFreeNamesUptoRow.holds Tryd.pinned (OpenSpec.upto fnFreeNamesSpec)

end Rows
end Go.Proofs.YtffmpjcjmffdeaaDoor
