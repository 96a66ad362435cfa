/-
  NARROWER THAN 'FOR EVERY INPUT', by the rows' own cells (each row's printed sentence says how): FnExactEraseTerm: loops, laid · FnExactWithTypes: loops, laid · FnExactStaticTerm: loops, laid.
  DERIVED. THE GIVEN ROWS OF THIS SEAT. 3 by the template 'for every input the law returns true; each argument reads behind the call as it read before'; 0 by the template 'total and deterministic' (their statements: YthdmkenckhmjpaaDoorTotals.lean).
  GIVEN WITH THE SEED: the statements are not yours to turn. If you find one false, say at which input.
  Laid BY PROGRAM, IN A SANDBOX (cutbox-rows.mjs): the forced cells as the released guide's own fill.sh prints them over the translation 2800ccaf31ef6c27… (all of the seat's roots in one cut). By AI agents, Wed Nov 11 2026. No macro, syntax, notation, axiom, sorry.
-/
import Derived.Test.YthdmkenckhmjpaaDoorChecked
import GoSem.Claim
import GoSem.ClaimJoined
import GoSem.ClaimMapViews
import Derived.JoinedTies
import Derived.KernelRfl
namespace Go.Proofs.YthdmkenckhmjpaaDoor
/- THE CELL 'sum', in the pinned program and in every row, IS THE sha256 OF THE DUMP (.gsa) THAT YthdmkenckhmjpaaDoorProg.lean LOADS. Nothing in Lean hashes anything: it is a label: what it is worth is what the hold of that sum in a sandbox is worth. -/
noncomputable def Tryd.pinned : Pinned := { name := "ythdmkenckhmjpaadoor", sum := "2800ccaf31ef6c27d8bbc03d2aab52d5b0dabb117997660f1fbd9e89f8b0e83a", checked := Tryd.checked }
namespace Rows
def none {H : Type} : Left H := { results := [], args := [] }

/- WHAT THE LISTED PACKAGE-LEVEL VARIABLES READ AS WHEN THE CALL BEGINS. Each datum BY PROGRAM (the guide's laid-datum.mjs) off the statement by which the dump's own 'gosem.cut.vars' lays the variable. In a bare row this is a premise. The card (YthdmkenckhmjpaaDoorCards.lean) ties it to the program's text. -/
def laid_loop_example_gradual_impl_termForms {H : Type} : DataW H := .agg [.lit (.string []), .lit (.string [110]), .lit (.string [100]), .lit (.string [84]), .lit (.string [70]), .lit (.string [33, 110, 58, 116, 46, 65]), .lit (.string [40, 65, 32, 66, 41]), .lit (.string [40, 65, 43, 66, 41]), .lit (.string [40, 65, 60, 66, 41]), .lit (.string [123, 65, 63, 66, 58, 67, 125]), .lit (.string [91, 65, 44, 66, 93]), .lit (.string [36, 65]), .lit (.string [37, 65]), .lit (.string [40, 65, 58, 116, 41]), .lit (.string [40, 65, 58, 115, 126, 116, 35, 108, 41])]

/-- 'laws.FnExactEraseTerm': WHATEVER THE INPUT: true; the input reads as it did. -/
def fnExactEraseTermSpec : ChangeSpec := { name := "fnExactEraseTerm", vars := ["loop.example/gradual/impl.termForms"], fn := fun _ => fun
  | [d, g1] => { results := [.lit (.bool true)], args := [d], vars := [g1] }
  | _ => none }
def fnExactEraseTermRow : OpenClaim := { program := "ythdmkenckhmjpaadoor", sum := "2800ccaf31ef6c27d8bbc03d2aab52d5b0dabb117997660f1fbd9e89f8b0e83a", func := "loop.example/gradual/laws.FnExactEraseTerm", spec := "fnExactEraseTerm", inPlace := ["internal/bytealg.IndexByteString"], unfollowed := true, recurses := true, named := ["loop.example/gradual/impl.termForms"], loops := true, apart := false, laid := [("loop.example/gradual/impl.termForms", laid_loop_example_gradual_impl_termForms)] }
def FnExactEraseTermSaid : Prop := fnExactEraseTermRow.holds Tryd.pinned (OpenSpec.ofChange fnExactEraseTermSpec)

/-- ITS FALSE NEIGHBOUR: 'it returns false'. Refute it at one input. -/
def fnExactEraseTermWrong : ChangeSpec := { name := "fnExactEraseTerm", vars := ["loop.example/gradual/impl.termForms"], fn := fun _ => fun
  | [d, g1] => { results := [.lit (.bool false)], args := [d], vars := [g1] }
  | _ => none }
def FnExactEraseTermWrongFalsely : Prop := fnExactEraseTermRow.holds Tryd.pinned (OpenSpec.ofChange fnExactEraseTermWrong)

/-- 'laws.FnExactWithTypes': WHATEVER THE INPUT: true; the input reads as it did. -/
def fnExactWithTypesSpec : ChangeSpec := { name := "fnExactWithTypes", vars := ["loop.example/gradual/impl.termForms"], fn := fun _ => fun
  | [d1, d2, g1] => { results := [.lit (.bool true)], args := [d1, d2], vars := [g1] }
  | _ => none }
def fnExactWithTypesRow : OpenClaim := { program := "ythdmkenckhmjpaadoor", sum := "2800ccaf31ef6c27d8bbc03d2aab52d5b0dabb117997660f1fbd9e89f8b0e83a", func := "loop.example/gradual/laws.FnExactWithTypes", spec := "fnExactWithTypes", inPlace := ["internal/bytealg.IndexByteString"], unfollowed := true, recurses := true, named := ["loop.example/gradual/impl.termForms"], loops := true, apart := false, laid := [("loop.example/gradual/impl.termForms", laid_loop_example_gradual_impl_termForms)] }
def FnExactWithTypesSaid : Prop := fnExactWithTypesRow.holds Tryd.pinned (OpenSpec.ofChange fnExactWithTypesSpec)

/-- ITS FALSE NEIGHBOUR: 'it returns false'. Refute it at one input. -/
def fnExactWithTypesWrong : ChangeSpec := { name := "fnExactWithTypes", vars := ["loop.example/gradual/impl.termForms"], fn := fun _ => fun
  | [d1, d2, g1] => { results := [.lit (.bool false)], args := [d1, d2], vars := [g1] }
  | _ => none }
def FnExactWithTypesWrongFalsely : Prop := fnExactWithTypesRow.holds Tryd.pinned (OpenSpec.ofChange fnExactWithTypesWrong)

/-- 'laws.FnExactStaticTerm': WHATEVER THE INPUT: true; the input reads as it did. -/
def fnExactStaticTermSpec : ChangeSpec := { name := "fnExactStaticTerm", vars := ["loop.example/gradual/impl.termForms"], fn := fun _ => fun
  | [d, g1] => { results := [.lit (.bool true)], args := [d], vars := [g1] }
  | _ => none }
def fnExactStaticTermRow : OpenClaim := { program := "ythdmkenckhmjpaadoor", sum := "2800ccaf31ef6c27d8bbc03d2aab52d5b0dabb117997660f1fbd9e89f8b0e83a", func := "loop.example/gradual/laws.FnExactStaticTerm", spec := "fnExactStaticTerm", inPlace := ["internal/bytealg.IndexByteString"], unfollowed := true, recurses := true, named := ["loop.example/gradual/impl.termForms"], loops := true, apart := false, laid := [("loop.example/gradual/impl.termForms", laid_loop_example_gradual_impl_termForms)] }
def FnExactStaticTermSaid : Prop := fnExactStaticTermRow.holds Tryd.pinned (OpenSpec.ofChange fnExactStaticTermSpec)

/-- ITS FALSE NEIGHBOUR: 'it returns false'. Refute it at one input. -/
def fnExactStaticTermWrong : ChangeSpec := { name := "fnExactStaticTerm", vars := ["loop.example/gradual/impl.termForms"], fn := fun _ => fun
  | [d, g1] => { results := [.lit (.bool false)], args := [d], vars := [g1] }
  | _ => none }
def FnExactStaticTermWrongFalsely : Prop := fnExactStaticTermRow.holds Tryd.pinned (OpenSpec.ofChange fnExactStaticTermWrong)

/- THE SECOND FORM. 'bulk': how many values and letters a reading holds, each counted each time it is reached (what is shared counts as often as it is met; a slice's spare places count too). A statement '..UptoSaid' is the law's where the arguments, and the package variables that the reading takes, are together of bulk at most 1048576: NARROWER than '..Said'. Prove '..Said' where nothing that the law and all that it calls make is longer than what came in: it says more and counts as full. Else prove '..UptoSaid'. A law counts once. -/
mutual
def uptoBulk {H : Type} : DataW H → Nat
  | .lit (.string bytes) => bytes.length + 1
  | .lit _ => 1
  | .nil => 1
  | .ptr d => uptoBulk d + 1
  | .slice elems spare => uptoBulkAll elems + uptoBulkAll spare + 1
  | .agg parts => uptoBulkAll parts + 1
  | .iface _ d => uptoBulk d + 1
  | .map entries => uptoBulkEntries entries + 1
  | .held _ => 1
def uptoBulkAll {H : Type} : List (DataW H) → Nat
  | [] => 0
  | d :: r => uptoBulk d + uptoBulkAll r
def uptoBulkEntries {H : Type} : List (Lit × DataW H) → Nat
  | [] => 0
  | x :: r => uptoBulkEntry x + uptoBulkEntries r
def uptoBulkEntry {H : Type} : Lit × DataW H → Nat
  | (.string bytes, d) => bytes.length + uptoBulk d + 1
  | (_, d) => uptoBulk d + 1
 end
def uptoSmall : (H : Type) → List (DataW H) → Bool := fun _ ds => decide (uptoBulkAll ds ≤ 1048576)
def OpenSpec.upto (s : _root_.Go.ChangeSpec) : _root_.Go.OpenSpec := { _root_.Go.OpenSpec.ofChange s with cond := some uptoSmall }

/-- 'laws.FnExactEraseTerm', WHERE WHAT IT READS IS OF BULK AT MOST 1048576: true; the input reads as it did. -/
def fnExactEraseTermUptoRow : OpenClaim := { program := "ythdmkenckhmjpaadoor", sum := "2800ccaf31ef6c27d8bbc03d2aab52d5b0dabb117997660f1fbd9e89f8b0e83a", func := "loop.example/gradual/laws.FnExactEraseTerm", spec := "fnExactEraseTerm", inPlace := ["internal/bytealg.IndexByteString"], unfollowed := true, recurses := true, named := ["loop.example/gradual/impl.termForms"], loops := true, apart := false, laid := [("loop.example/gradual/impl.termForms", laid_loop_example_gradual_impl_termForms)], narrowed := true }
def FnExactEraseTermUptoSaid : Prop := fnExactEraseTermUptoRow.holds Tryd.pinned (OpenSpec.upto fnExactEraseTermSpec)

/-- 'laws.FnExactWithTypes', WHERE WHAT IT READS IS OF BULK AT MOST 1048576: true; the input reads as it did. -/
def fnExactWithTypesUptoRow : OpenClaim := { program := "ythdmkenckhmjpaadoor", sum := "2800ccaf31ef6c27d8bbc03d2aab52d5b0dabb117997660f1fbd9e89f8b0e83a", func := "loop.example/gradual/laws.FnExactWithTypes", spec := "fnExactWithTypes", inPlace := ["internal/bytealg.IndexByteString"], unfollowed := true, recurses := true, named := ["loop.example/gradual/impl.termForms"], loops := true, apart := false, laid := [("loop.example/gradual/impl.termForms", laid_loop_example_gradual_impl_termForms)], narrowed := true }
def FnExactWithTypesUptoSaid : Prop := fnExactWithTypesUptoRow.holds Tryd.pinned (OpenSpec.upto fnExactWithTypesSpec)

/-- 'laws.FnExactStaticTerm', WHERE WHAT IT READS IS OF BULK AT MOST 1048576: true; the input reads as it did. -/
def fnExactStaticTermUptoRow : OpenClaim := { program := "ythdmkenckhmjpaadoor", sum := "2800ccaf31ef6c27d8bbc03d2aab52d5b0dabb117997660f1fbd9e89f8b0e83a", func := "loop.example/gradual/laws.FnExactStaticTerm", spec := "fnExactStaticTerm", inPlace := ["internal/bytealg.IndexByteString"], unfollowed := true, recurses := true, named := ["loop.example/gradual/impl.termForms"], loops := true, apart := false, laid := [("loop.example/gradual/impl.termForms", laid_loop_example_gradual_impl_termForms)], narrowed := true }
def FnExactStaticTermUptoSaid : Prop := fnExactStaticTermUptoRow.holds Tryd.pinned (OpenSpec.upto fnExactStaticTermSpec)

end Rows
end Go.Proofs.YthdmkenckhmjpaaDoor
