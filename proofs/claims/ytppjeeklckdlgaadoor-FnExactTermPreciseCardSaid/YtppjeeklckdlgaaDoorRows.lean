/-
  NARROWER THAN 'FOR EVERY INPUT', by the rows' own cells (each row's printed sentence says how): FnExactTermPrecise: loops, laid · FnExactPrecisionOf: loops, laid · FnExactMergeTerms: loops, laid · FnExactTypeIn: loops, laid · FnExactTypeOf: loops, laid · FnExactCastTypeOf: loops, laid.
  DERIVED. THE GIVEN ROWS OF THIS SEAT. 6 by the template 'for every input the law returns true; each argument reads behind the call as it read before'; 0 by the template 'total and deterministic' (their statements: YtppjeeklckdlgaaDoorTotals.lean).
  GIVEN WITH THE SEED: the statements are not yours to turn. If you find one false, say at which input.
  Laid BY PROGRAM, IN A SANDBOX (cutbox-rows.mjs): the forced cells as the released guide's own fill.sh prints them over the translation bf43980d49702e3b… (all of the seat's roots in one cut). By AI agents, Wed Nov 11 2026. No macro, syntax, notation, axiom, sorry.
-/
import Derived.Test.YtppjeeklckdlgaaDoorChecked
import GoSem.Claim
import GoSem.ClaimJoined
import GoSem.ClaimMapViews
import Derived.JoinedTies
import Derived.KernelRfl
namespace Go.Proofs.YtppjeeklckdlgaaDoor
/- THE CELL 'sum', in the pinned program and in every row, IS THE sha256 OF THE DUMP (.gsa) THAT YtppjeeklckdlgaaDoorProg.lean LOADS. Nothing in Lean hashes anything: it is a label: what it is worth is what the hold of that sum in a sandbox is worth. -/
noncomputable def Tryd.pinned : Pinned := { name := "ytppjeeklckdlgaadoor", sum := "bf43980d49702e3b59082d354e9a8958a79af4a05fccb4e0fe7ae1fb79640637", checked := Tryd.checked }
namespace Rows
def none {H : Type} : Left H := { results := [], args := [] }

/- WHAT THE LISTED PACKAGE-LEVEL VARIABLES READ AS WHEN THE CALL BEGINS. Each datum BY PROGRAM (the guide's laid-datum.mjs) off the statement by which the dump's own 'gosem.cut.vars' lays the variable. In a bare row this is a premise. The card (YtppjeeklckdlgaaDoorCards.lean) ties it to the program's text. -/
def laid_loop_example_gradual_impl_termForms {H : Type} : DataW H := .agg [.lit (.string []), .lit (.string [110]), .lit (.string [100]), .lit (.string [84]), .lit (.string [70]), .lit (.string [33, 110, 58, 116, 46, 65]), .lit (.string [40, 65, 32, 66, 41]), .lit (.string [40, 65, 43, 66, 41]), .lit (.string [40, 65, 60, 66, 41]), .lit (.string [123, 65, 63, 66, 58, 67, 125]), .lit (.string [91, 65, 44, 66, 93]), .lit (.string [36, 65]), .lit (.string [37, 65]), .lit (.string [40, 65, 58, 116, 41]), .lit (.string [40, 65, 58, 115, 126, 116, 35, 108, 41])]

/-- 'laws.FnExactTermPrecise': WHATEVER THE INPUT: true; the input reads as it did. -/
def fnExactTermPreciseSpec : ChangeSpec := { name := "fnExactTermPrecise", vars := ["loop.example/gradual/impl.termForms"], fn := fun _ => fun
  | [d1, d2, g1] => { results := [.lit (.bool true)], args := [d1, d2], vars := [g1] }
  | _ => none }
def fnExactTermPreciseRow : OpenClaim := { program := "ytppjeeklckdlgaadoor", sum := "bf43980d49702e3b59082d354e9a8958a79af4a05fccb4e0fe7ae1fb79640637", func := "loop.example/gradual/laws.FnExactTermPrecise", spec := "fnExactTermPrecise", inPlace := ["internal/bytealg.IndexByteString"], unfollowed := true, recurses := true, named := ["loop.example/gradual/impl.termForms"], loops := true, plainKeys := false, apart := false, laid := [("loop.example/gradual/impl.termForms", laid_loop_example_gradual_impl_termForms)] }
def FnExactTermPreciseSaid : Prop := fnExactTermPreciseRow.holds Tryd.pinned (OpenSpec.ofChange fnExactTermPreciseSpec)

/-- ITS FALSE NEIGHBOUR: 'it returns false'. Refute it at one input. -/
def fnExactTermPreciseWrong : ChangeSpec := { name := "fnExactTermPrecise", vars := ["loop.example/gradual/impl.termForms"], fn := fun _ => fun
  | [d1, d2, g1] => { results := [.lit (.bool false)], args := [d1, d2], vars := [g1] }
  | _ => none }
def FnExactTermPreciseWrongFalsely : Prop := fnExactTermPreciseRow.holds Tryd.pinned (OpenSpec.ofChange fnExactTermPreciseWrong)

/-- 'laws.FnExactPrecisionOf': WHATEVER THE INPUT: true; the input reads as it did. -/
def fnExactPrecisionOfSpec : ChangeSpec := { name := "fnExactPrecisionOf", vars := ["loop.example/gradual/impl.termForms"], fn := fun _ => fun
  | [d, g1] => { results := [.lit (.bool true)], args := [d], vars := [g1] }
  | _ => none }
def fnExactPrecisionOfRow : OpenClaim := { program := "ytppjeeklckdlgaadoor", sum := "bf43980d49702e3b59082d354e9a8958a79af4a05fccb4e0fe7ae1fb79640637", func := "loop.example/gradual/laws.FnExactPrecisionOf", spec := "fnExactPrecisionOf", inPlace := ["internal/bytealg.IndexByteString"], unfollowed := true, recurses := true, named := ["loop.example/gradual/impl.termForms"], loops := true, plainKeys := false, apart := false, laid := [("loop.example/gradual/impl.termForms", laid_loop_example_gradual_impl_termForms)] }
def FnExactPrecisionOfSaid : Prop := fnExactPrecisionOfRow.holds Tryd.pinned (OpenSpec.ofChange fnExactPrecisionOfSpec)

/-- ITS FALSE NEIGHBOUR: 'it returns false'. Refute it at one input. -/
def fnExactPrecisionOfWrong : ChangeSpec := { name := "fnExactPrecisionOf", vars := ["loop.example/gradual/impl.termForms"], fn := fun _ => fun
  | [d, g1] => { results := [.lit (.bool false)], args := [d], vars := [g1] }
  | _ => none }
def FnExactPrecisionOfWrongFalsely : Prop := fnExactPrecisionOfRow.holds Tryd.pinned (OpenSpec.ofChange fnExactPrecisionOfWrong)

/-- 'laws.FnExactMergeTerms': WHATEVER THE INPUT: true; the input reads as it did. -/
def fnExactMergeTermsSpec : ChangeSpec := { name := "fnExactMergeTerms", vars := ["loop.example/gradual/impl.termForms"], fn := fun _ => fun
  | [d1, d2, g1] => { results := [.lit (.bool true)], args := [d1, d2], vars := [g1] }
  | _ => none }
def fnExactMergeTermsRow : OpenClaim := { program := "ytppjeeklckdlgaadoor", sum := "bf43980d49702e3b59082d354e9a8958a79af4a05fccb4e0fe7ae1fb79640637", func := "loop.example/gradual/laws.FnExactMergeTerms", spec := "fnExactMergeTerms", inPlace := ["internal/bytealg.IndexByteString"], unfollowed := true, recurses := true, named := ["loop.example/gradual/impl.termForms"], loops := true, plainKeys := false, apart := false, laid := [("loop.example/gradual/impl.termForms", laid_loop_example_gradual_impl_termForms)] }
def FnExactMergeTermsSaid : Prop := fnExactMergeTermsRow.holds Tryd.pinned (OpenSpec.ofChange fnExactMergeTermsSpec)

/-- ITS FALSE NEIGHBOUR: 'it returns false'. Refute it at one input. -/
def fnExactMergeTermsWrong : ChangeSpec := { name := "fnExactMergeTerms", vars := ["loop.example/gradual/impl.termForms"], fn := fun _ => fun
  | [d1, d2, g1] => { results := [.lit (.bool false)], args := [d1, d2], vars := [g1] }
  | _ => none }
def FnExactMergeTermsWrongFalsely : Prop := fnExactMergeTermsRow.holds Tryd.pinned (OpenSpec.ofChange fnExactMergeTermsWrong)

/-- 'laws.FnExactTypeIn': WHATEVER THE INPUT: true; the input reads as it did. -/
def fnExactTypeInSpec : ChangeSpec := { name := "fnExactTypeIn", vars := ["loop.example/gradual/impl.termForms"], fn := fun _ => fun
  | [d1, d2, g1] => { results := [.lit (.bool true)], args := [d1, d2], vars := [g1] }
  | _ => none }
def fnExactTypeInRow : OpenClaim := { program := "ytppjeeklckdlgaadoor", sum := "bf43980d49702e3b59082d354e9a8958a79af4a05fccb4e0fe7ae1fb79640637", func := "loop.example/gradual/laws.FnExactTypeIn", spec := "fnExactTypeIn", inPlace := ["internal/bytealg.IndexByteString"], unfollowed := true, recurses := true, named := ["loop.example/gradual/impl.termForms"], loops := true, plainKeys := false, apart := false, laid := [("loop.example/gradual/impl.termForms", laid_loop_example_gradual_impl_termForms)] }
def FnExactTypeInSaid : Prop := fnExactTypeInRow.holds Tryd.pinned (OpenSpec.ofChange fnExactTypeInSpec)

/-- ITS FALSE NEIGHBOUR: 'it returns false'. Refute it at one input. -/
def fnExactTypeInWrong : ChangeSpec := { name := "fnExactTypeIn", vars := ["loop.example/gradual/impl.termForms"], fn := fun _ => fun
  | [d1, d2, g1] => { results := [.lit (.bool false)], args := [d1, d2], vars := [g1] }
  | _ => none }
def FnExactTypeInWrongFalsely : Prop := fnExactTypeInRow.holds Tryd.pinned (OpenSpec.ofChange fnExactTypeInWrong)

/-- 'laws.FnExactTypeOf': WHATEVER THE INPUT: true; the input reads as it did. -/
def fnExactTypeOfSpec : ChangeSpec := { name := "fnExactTypeOf", vars := ["loop.example/gradual/impl.termForms"], fn := fun _ => fun
  | [d, g1] => { results := [.lit (.bool true)], args := [d], vars := [g1] }
  | _ => none }
def fnExactTypeOfRow : OpenClaim := { program := "ytppjeeklckdlgaadoor", sum := "bf43980d49702e3b59082d354e9a8958a79af4a05fccb4e0fe7ae1fb79640637", func := "loop.example/gradual/laws.FnExactTypeOf", spec := "fnExactTypeOf", inPlace := ["internal/bytealg.IndexByteString"], unfollowed := true, recurses := true, named := ["loop.example/gradual/impl.termForms"], loops := true, plainKeys := false, apart := false, laid := [("loop.example/gradual/impl.termForms", laid_loop_example_gradual_impl_termForms)] }
def FnExactTypeOfSaid : Prop := fnExactTypeOfRow.holds Tryd.pinned (OpenSpec.ofChange fnExactTypeOfSpec)

/-- ITS FALSE NEIGHBOUR: 'it returns false'. Refute it at one input. -/
def fnExactTypeOfWrong : ChangeSpec := { name := "fnExactTypeOf", vars := ["loop.example/gradual/impl.termForms"], fn := fun _ => fun
  | [d, g1] => { results := [.lit (.bool false)], args := [d], vars := [g1] }
  | _ => none }
def FnExactTypeOfWrongFalsely : Prop := fnExactTypeOfRow.holds Tryd.pinned (OpenSpec.ofChange fnExactTypeOfWrong)

/-- 'laws.FnExactCastTypeOf': WHATEVER THE INPUT: true; the input reads as it did. -/
def fnExactCastTypeOfSpec : ChangeSpec := { name := "fnExactCastTypeOf", vars := ["loop.example/gradual/impl.termForms"], fn := fun _ => fun
  | [d, g1] => { results := [.lit (.bool true)], args := [d], vars := [g1] }
  | _ => none }
def fnExactCastTypeOfRow : OpenClaim := { program := "ytppjeeklckdlgaadoor", sum := "bf43980d49702e3b59082d354e9a8958a79af4a05fccb4e0fe7ae1fb79640637", func := "loop.example/gradual/laws.FnExactCastTypeOf", spec := "fnExactCastTypeOf", inPlace := ["internal/bytealg.IndexByteString"], unfollowed := true, recurses := true, named := ["loop.example/gradual/impl.termForms"], loops := true, plainKeys := false, apart := false, laid := [("loop.example/gradual/impl.termForms", laid_loop_example_gradual_impl_termForms)] }
def FnExactCastTypeOfSaid : Prop := fnExactCastTypeOfRow.holds Tryd.pinned (OpenSpec.ofChange fnExactCastTypeOfSpec)

/-- ITS FALSE NEIGHBOUR: 'it returns false'. Refute it at one input. -/
def fnExactCastTypeOfWrong : ChangeSpec := { name := "fnExactCastTypeOf", vars := ["loop.example/gradual/impl.termForms"], fn := fun _ => fun
  | [d, g1] => { results := [.lit (.bool false)], args := [d], vars := [g1] }
  | _ => none }
def FnExactCastTypeOfWrongFalsely : Prop := fnExactCastTypeOfRow.holds Tryd.pinned (OpenSpec.ofChange fnExactCastTypeOfWrong)

/- THE SECOND FORM. 'bulk': how many values and letters a reading holds, each counted each time it is reached (what is shared counts as often as it is met; a slice's spare places count too). A statement '..UptoSaid' is the law's where the arguments, and the package variables that the reading takes, are together of bulk at most 1048576: NARROWER than '..Said'. Prove '..Said' where nothing that the law and all that it calls make is longer than what came in: it says more and counts as full. Else prove '..UptoSaid'. A law counts once. -/
mutual
def uptoBulk {H : Type} : DataW H → Nat
  | .lit (.string bytes) => bytes.length + 1
  | .lit _ => 1
  | .nil => 1
  | .ptr d => uptoBulk d + 1
  | .slice elems spare => uptoBulkAll elems + uptoBulkAll spare + 1
  | .agg parts => uptoBulkAll parts + 1
  | .iface _ d => uptoBulk d + 1
  | .map entries => uptoBulkEntries entries + 1
  | .held _ => 1
def uptoBulkAll {H : Type} : List (DataW H) → Nat
  | [] => 0
  | d :: r => uptoBulk d + uptoBulkAll r
def uptoBulkEntries {H : Type} : List (Lit × DataW H) → Nat
  | [] => 0
  | x :: r => uptoBulkEntry x + uptoBulkEntries r
def uptoBulkEntry {H : Type} : Lit × DataW H → Nat
  | (.string bytes, d) => bytes.length + uptoBulk d + 1
  | (_, d) => uptoBulk d + 1
 end
def uptoSmall : (H : Type) → List (DataW H) → Bool := fun _ ds => decide (uptoBulkAll ds ≤ 1048576)
def OpenSpec.upto (s : _root_.Go.ChangeSpec) : _root_.Go.OpenSpec := { _root_.Go.OpenSpec.ofChange s with cond := some uptoSmall }

/-- 'laws.FnExactTermPrecise', WHERE WHAT IT READS IS OF BULK AT MOST 1048576: true; the input reads as it did. -/
def fnExactTermPreciseUptoRow : OpenClaim := { program := "ytppjeeklckdlgaadoor", sum := "bf43980d49702e3b59082d354e9a8958a79af4a05fccb4e0fe7ae1fb79640637", func := "loop.example/gradual/laws.FnExactTermPrecise", spec := "fnExactTermPrecise", inPlace := ["internal/bytealg.IndexByteString"], unfollowed := true, recurses := true, named := ["loop.example/gradual/impl.termForms"], loops := true, plainKeys := false, apart := false, laid := [("loop.example/gradual/impl.termForms", laid_loop_example_gradual_impl_termForms)], narrowed := true }
def FnExactTermPreciseUptoSaid : Prop := fnExactTermPreciseUptoRow.holds Tryd.pinned (OpenSpec.upto fnExactTermPreciseSpec)

/-- 'laws.FnExactPrecisionOf', WHERE WHAT IT READS IS OF BULK AT MOST 1048576: true; the input reads as it did. -/
def fnExactPrecisionOfUptoRow : OpenClaim := { program := "ytppjeeklckdlgaadoor", sum := "bf43980d49702e3b59082d354e9a8958a79af4a05fccb4e0fe7ae1fb79640637", func := "loop.example/gradual/laws.FnExactPrecisionOf", spec := "fnExactPrecisionOf", inPlace := ["internal/bytealg.IndexByteString"], unfollowed := true, recurses := true, named := ["loop.example/gradual/impl.termForms"], loops := true, plainKeys := false, apart := false, laid := [("loop.example/gradual/impl.termForms", laid_loop_example_gradual_impl_termForms)], narrowed := true }
def FnExactPrecisionOfUptoSaid : Prop := fnExactPrecisionOfUptoRow.holds Tryd.pinned (OpenSpec.upto fnExactPrecisionOfSpec)

/-- 'laws.FnExactMergeTerms', WHERE WHAT IT READS IS OF BULK AT MOST 1048576: true; the input reads as it did. -/
def fnExactMergeTermsUptoRow : OpenClaim := { program := "ytppjeeklckdlgaadoor", sum := "bf43980d49702e3b59082d354e9a8958a79af4a05fccb4e0fe7ae1fb79640637", func := "loop.example/gradual/laws.FnExactMergeTerms", spec := "fnExactMergeTerms", inPlace := ["internal/bytealg.IndexByteString"], unfollowed := true, recurses := true, named := ["loop.example/gradual/impl.termForms"], loops := true, plainKeys := false, apart := false, laid := [("loop.example/gradual/impl.termForms", laid_loop_example_gradual_impl_termForms)], narrowed := true }
def FnExactMergeTermsUptoSaid : Prop := fnExactMergeTermsUptoRow.holds Tryd.pinned (OpenSpec.upto fnExactMergeTermsSpec)

/-- 'laws.FnExactTypeIn', WHERE WHAT IT READS IS OF BULK AT MOST 1048576: true; the input reads as it did. -/
def fnExactTypeInUptoRow : OpenClaim := { program := "ytppjeeklckdlgaadoor", sum := "bf43980d49702e3b59082d354e9a8958a79af4a05fccb4e0fe7ae1fb79640637", func := "loop.example/gradual/laws.FnExactTypeIn", spec := "fnExactTypeIn", inPlace := ["internal/bytealg.IndexByteString"], unfollowed := true, recurses := true, named := ["loop.example/gradual/impl.termForms"], loops := true, plainKeys := false, apart := false, laid := [("loop.example/gradual/impl.termForms", laid_loop_example_gradual_impl_termForms)], narrowed := true }
def FnExactTypeInUptoSaid : Prop := fnExactTypeInUptoRow.holds Tryd.pinned (OpenSpec.upto fnExactTypeInSpec)

/-- 'laws.FnExactTypeOf', WHERE WHAT IT READS IS OF BULK AT MOST 1048576: true; the input reads as it did. -/
def fnExactTypeOfUptoRow : OpenClaim := { program := "ytppjeeklckdlgaadoor", sum := "bf43980d49702e3b59082d354e9a8958a79af4a05fccb4e0fe7ae1fb79640637", func := "loop.example/gradual/laws.FnExactTypeOf", spec := "fnExactTypeOf", inPlace := ["internal/bytealg.IndexByteString"], unfollowed := true, recurses := true, named := ["loop.example/gradual/impl.termForms"], loops := true, plainKeys := false, apart := false, laid := [("loop.example/gradual/impl.termForms", laid_loop_example_gradual_impl_termForms)], narrowed := true }
def FnExactTypeOfUptoSaid : Prop := fnExactTypeOfUptoRow.holds Tryd.pinned (OpenSpec.upto fnExactTypeOfSpec)

/-- 'laws.FnExactCastTypeOf', WHERE WHAT IT READS IS OF BULK AT MOST 1048576: true; the input reads as it did. -/
def fnExactCastTypeOfUptoRow : OpenClaim := { program := "ytppjeeklckdlgaadoor", sum := "bf43980d49702e3b59082d354e9a8958a79af4a05fccb4e0fe7ae1fb79640637", func := "loop.example/gradual/laws.FnExactCastTypeOf", spec := "fnExactCastTypeOf", inPlace := ["internal/bytealg.IndexByteString"], unfollowed := true, recurses := true, named := ["loop.example/gradual/impl.termForms"], loops := true, plainKeys := false, apart := false, laid := [("loop.example/gradual/impl.termForms", laid_loop_example_gradual_impl_termForms)], narrowed := true }
def FnExactCastTypeOfUptoSaid : Prop := fnExactCastTypeOfUptoRow.holds Tryd.pinned (OpenSpec.upto fnExactCastTypeOfSpec)

end Rows
end Go.Proofs.YtppjeeklckdlgaaDoor
