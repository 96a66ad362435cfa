/-
  NARROWER THAN 'FOR EVERY INPUT', by the rows' own cells (each row's printed sentence says how): FnExactSimplifyCasts: loops, laid · FnExactRedundantCasts: loops, laid · FnExactRelabelCasts: loops, laid · FnExactDynamicCasts: loops, laid.
  DERIVED. THE GIVEN ROWS OF THIS SEAT. 4 by the template 'for every input the law returns true; each argument reads behind the call as it read before'; 0 by the template 'total and deterministic' (their statements: YtjpmlmdbldcbjaaDoorTotals.lean).
  GIVEN WITH THE SEED: the statements are not yours to turn. If you find one false, say at which input.
  Laid BY PROGRAM, IN A SANDBOX (cutbox-rows.mjs): the forced cells as the released guide's own fill.sh prints them over the translation fc3d7936ac0f68bf… (all of the seat's roots in one cut). By AI agents, Wed Nov 11 2026. No macro, syntax, notation, axiom, sorry.
-/
import Derived.Test.YtjpmlmdbldcbjaaDoorChecked
import GoSem.Claim
import GoSem.ClaimJoined
import GoSem.ClaimMapViews
import Derived.JoinedTies
import Derived.KernelRfl
namespace Go.Proofs.YtjpmlmdbldcbjaaDoor
/- THE CELL 'sum', in the pinned program and in every row, IS THE sha256 OF THE DUMP (.gsa) THAT YtjpmlmdbldcbjaaDoorProg.lean LOADS. Nothing in Lean hashes anything: it is a label: what it is worth is what the hold of that sum in a sandbox is worth. -/
noncomputable def Tryd.pinned : Pinned := { name := "ytjpmlmdbldcbjaadoor", sum := "fc3d7936ac0f68bf1b040bdd91ced90ffc6a5b0ccb186ec4dbf192375f889051", checked := Tryd.checked }
namespace Rows
def none {H : Type} : Left H := { results := [], args := [] }

/- WHAT THE LISTED PACKAGE-LEVEL VARIABLES READ AS WHEN THE CALL BEGINS. Each datum BY PROGRAM (the guide's laid-datum.mjs) off the statement by which the dump's own 'gosem.cut.vars' lays the variable. In a bare row this is a premise. The card (YtjpmlmdbldcbjaaDoorCards.lean) ties it to the program's text. -/
def laid_loop_example_gradual_impl_termForms {H : Type} : DataW H := .agg [.lit (.string []), .lit (.string [110]), .lit (.string [100]), .lit (.string [84]), .lit (.string [70]), .lit (.string [33, 110, 58, 116, 46, 65]), .lit (.string [40, 65, 32, 66, 41]), .lit (.string [40, 65, 43, 66, 41]), .lit (.string [40, 65, 60, 66, 41]), .lit (.string [123, 65, 63, 66, 58, 67, 125]), .lit (.string [91, 65, 44, 66, 93]), .lit (.string [36, 65]), .lit (.string [37, 65]), .lit (.string [40, 65, 58, 116, 41]), .lit (.string [40, 65, 58, 115, 126, 116, 35, 108, 41])]

/-- 'laws.FnExactSimplifyCasts': WHATEVER THE INPUT: true; the input reads as it did. -/
def fnExactSimplifyCastsSpec : ChangeSpec := { name := "fnExactSimplifyCasts", vars := ["loop.example/gradual/impl.termForms"], fn := fun _ => fun
  | [d, g1] => { results := [.lit (.bool true)], args := [d], vars := [g1] }
  | _ => none }
def fnExactSimplifyCastsRow : OpenClaim := { program := "ytjpmlmdbldcbjaadoor", sum := "fc3d7936ac0f68bf1b040bdd91ced90ffc6a5b0ccb186ec4dbf192375f889051", func := "loop.example/gradual/laws.FnExactSimplifyCasts", spec := "fnExactSimplifyCasts", inPlace := ["internal/bytealg.IndexByteString"], unfollowed := true, recurses := true, named := ["loop.example/gradual/impl.termForms"], loops := true, plainKeys := false, apart := false, laid := [("loop.example/gradual/impl.termForms", laid_loop_example_gradual_impl_termForms)] }
def FnExactSimplifyCastsSaid : Prop := fnExactSimplifyCastsRow.holds Tryd.pinned (OpenSpec.ofChange fnExactSimplifyCastsSpec)

/-- ITS FALSE NEIGHBOUR: 'it returns false'. Refute it at one input. -/
def fnExactSimplifyCastsWrong : ChangeSpec := { name := "fnExactSimplifyCasts", vars := ["loop.example/gradual/impl.termForms"], fn := fun _ => fun
  | [d, g1] => { results := [.lit (.bool false)], args := [d], vars := [g1] }
  | _ => none }
def FnExactSimplifyCastsWrongFalsely : Prop := fnExactSimplifyCastsRow.holds Tryd.pinned (OpenSpec.ofChange fnExactSimplifyCastsWrong)

/-- 'laws.FnExactRedundantCasts': WHATEVER THE INPUT: true; the input reads as it did. -/
def fnExactRedundantCastsSpec : ChangeSpec := { name := "fnExactRedundantCasts", vars := ["loop.example/gradual/impl.termForms"], fn := fun _ => fun
  | [d, g1] => { results := [.lit (.bool true)], args := [d], vars := [g1] }
  | _ => none }
def fnExactRedundantCastsRow : OpenClaim := { program := "ytjpmlmdbldcbjaadoor", sum := "fc3d7936ac0f68bf1b040bdd91ced90ffc6a5b0ccb186ec4dbf192375f889051", func := "loop.example/gradual/laws.FnExactRedundantCasts", spec := "fnExactRedundantCasts", inPlace := ["internal/bytealg.IndexByteString"], unfollowed := true, recurses := true, named := ["loop.example/gradual/impl.termForms"], loops := true, plainKeys := false, apart := false, laid := [("loop.example/gradual/impl.termForms", laid_loop_example_gradual_impl_termForms)] }
def FnExactRedundantCastsSaid : Prop := fnExactRedundantCastsRow.holds Tryd.pinned (OpenSpec.ofChange fnExactRedundantCastsSpec)

/-- ITS FALSE NEIGHBOUR: 'it returns false'. Refute it at one input. -/
def fnExactRedundantCastsWrong : ChangeSpec := { name := "fnExactRedundantCasts", vars := ["loop.example/gradual/impl.termForms"], fn := fun _ => fun
  | [d, g1] => { results := [.lit (.bool false)], args := [d], vars := [g1] }
  | _ => none }
def FnExactRedundantCastsWrongFalsely : Prop := fnExactRedundantCastsRow.holds Tryd.pinned (OpenSpec.ofChange fnExactRedundantCastsWrong)

/-- 'laws.FnExactRelabelCasts': WHATEVER THE INPUT: true; the input reads as it did. -/
def fnExactRelabelCastsSpec : ChangeSpec := { name := "fnExactRelabelCasts", vars := ["loop.example/gradual/impl.termForms"], fn := fun _ => fun
  | [d, g1] => { results := [.lit (.bool true)], args := [d], vars := [g1] }
  | _ => none }
def fnExactRelabelCastsRow : OpenClaim := { program := "ytjpmlmdbldcbjaadoor", sum := "fc3d7936ac0f68bf1b040bdd91ced90ffc6a5b0ccb186ec4dbf192375f889051", func := "loop.example/gradual/laws.FnExactRelabelCasts", spec := "fnExactRelabelCasts", inPlace := ["internal/bytealg.IndexByteString"], unfollowed := true, recurses := true, named := ["loop.example/gradual/impl.termForms"], loops := true, plainKeys := false, apart := false, laid := [("loop.example/gradual/impl.termForms", laid_loop_example_gradual_impl_termForms)] }
def FnExactRelabelCastsSaid : Prop := fnExactRelabelCastsRow.holds Tryd.pinned (OpenSpec.ofChange fnExactRelabelCastsSpec)

/-- ITS FALSE NEIGHBOUR: 'it returns false'. Refute it at one input. -/
def fnExactRelabelCastsWrong : ChangeSpec := { name := "fnExactRelabelCasts", vars := ["loop.example/gradual/impl.termForms"], fn := fun _ => fun
  | [d, g1] => { results := [.lit (.bool false)], args := [d], vars := [g1] }
  | _ => none }
def FnExactRelabelCastsWrongFalsely : Prop := fnExactRelabelCastsRow.holds Tryd.pinned (OpenSpec.ofChange fnExactRelabelCastsWrong)

/-- 'laws.FnExactDynamicCasts': WHATEVER THE INPUT: true; the input reads as it did. -/
def fnExactDynamicCastsSpec : ChangeSpec := { name := "fnExactDynamicCasts", vars := ["loop.example/gradual/impl.termForms"], fn := fun _ => fun
  | [d, g1] => { results := [.lit (.bool true)], args := [d], vars := [g1] }
  | _ => none }
def fnExactDynamicCastsRow : OpenClaim := { program := "ytjpmlmdbldcbjaadoor", sum := "fc3d7936ac0f68bf1b040bdd91ced90ffc6a5b0ccb186ec4dbf192375f889051", func := "loop.example/gradual/laws.FnExactDynamicCasts", spec := "fnExactDynamicCasts", inPlace := ["internal/bytealg.IndexByteString"], unfollowed := true, recurses := true, named := ["loop.example/gradual/impl.termForms"], loops := true, plainKeys := false, apart := false, laid := [("loop.example/gradual/impl.termForms", laid_loop_example_gradual_impl_termForms)] }
def FnExactDynamicCastsSaid : Prop := fnExactDynamicCastsRow.holds Tryd.pinned (OpenSpec.ofChange fnExactDynamicCastsSpec)

/-- ITS FALSE NEIGHBOUR: 'it returns false'. Refute it at one input. -/
def fnExactDynamicCastsWrong : ChangeSpec := { name := "fnExactDynamicCasts", vars := ["loop.example/gradual/impl.termForms"], fn := fun _ => fun
  | [d, g1] => { results := [.lit (.bool false)], args := [d], vars := [g1] }
  | _ => none }
def FnExactDynamicCastsWrongFalsely : Prop := fnExactDynamicCastsRow.holds Tryd.pinned (OpenSpec.ofChange fnExactDynamicCastsWrong)

/- THE SECOND FORM. 'bulk': how many values and letters a reading holds, each counted each time it is reached (what is shared counts as often as it is met; a slice's spare places count too). A statement '..UptoSaid' is the law's where the arguments, and the package variables that the reading takes, are together of bulk at most 1048576: NARROWER than '..Said'. Prove '..Said' where nothing that the law and all that it calls make is longer than what came in: it says more and counts as full. Else prove '..UptoSaid'. A law counts once. -/
mutual
def uptoBulk {H : Type} : DataW H → Nat
  | .lit (.string bytes) => bytes.length + 1
  | .lit _ => 1
  | .nil => 1
  | .ptr d => uptoBulk d + 1
  | .slice elems spare => uptoBulkAll elems + uptoBulkAll spare + 1
  | .agg parts => uptoBulkAll parts + 1
  | .iface _ d => uptoBulk d + 1
  | .map entries => uptoBulkEntries entries + 1
  | .held _ => 1
def uptoBulkAll {H : Type} : List (DataW H) → Nat
  | [] => 0
  | d :: r => uptoBulk d + uptoBulkAll r
def uptoBulkEntries {H : Type} : List (Lit × DataW H) → Nat
  | [] => 0
  | x :: r => uptoBulkEntry x + uptoBulkEntries r
def uptoBulkEntry {H : Type} : Lit × DataW H → Nat
  | (.string bytes, d) => bytes.length + uptoBulk d + 1
  | (_, d) => uptoBulk d + 1
 end
def uptoSmall : (H : Type) → List (DataW H) → Bool := fun _ ds => decide (uptoBulkAll ds ≤ 1048576)
def OpenSpec.upto (s : _root_.Go.ChangeSpec) : _root_.Go.OpenSpec := { _root_.Go.OpenSpec.ofChange s with cond := some uptoSmall }

/-- 'laws.FnExactSimplifyCasts', WHERE WHAT IT READS IS OF BULK AT MOST 1048576: true; the input reads as it did. -/
def fnExactSimplifyCastsUptoRow : OpenClaim := { program := "ytjpmlmdbldcbjaadoor", sum := "fc3d7936ac0f68bf1b040bdd91ced90ffc6a5b0ccb186ec4dbf192375f889051", func := "loop.example/gradual/laws.FnExactSimplifyCasts", spec := "fnExactSimplifyCasts", inPlace := ["internal/bytealg.IndexByteString"], unfollowed := true, recurses := true, named := ["loop.example/gradual/impl.termForms"], loops := true, plainKeys := false, apart := false, laid := [("loop.example/gradual/impl.termForms", laid_loop_example_gradual_impl_termForms)], narrowed := true }
def FnExactSimplifyCastsUptoSaid : Prop := fnExactSimplifyCastsUptoRow.holds Tryd.pinned (OpenSpec.upto fnExactSimplifyCastsSpec)

/-- 'laws.FnExactRedundantCasts', WHERE WHAT IT READS IS OF BULK AT MOST 1048576: true; the input reads as it did. -/
def fnExactRedundantCastsUptoRow : OpenClaim := { program := "ytjpmlmdbldcbjaadoor", sum := "fc3d7936ac0f68bf1b040bdd91ced90ffc6a5b0ccb186ec4dbf192375f889051", func := "loop.example/gradual/laws.FnExactRedundantCasts", spec := "fnExactRedundantCasts", inPlace := ["internal/bytealg.IndexByteString"], unfollowed := true, recurses := true, named := ["loop.example/gradual/impl.termForms"], loops := true, plainKeys := false, apart := false, laid := [("loop.example/gradual/impl.termForms", laid_loop_example_gradual_impl_termForms)], narrowed := true }
def FnExactRedundantCastsUptoSaid : Prop := fnExactRedundantCastsUptoRow.holds Tryd.pinned (OpenSpec.upto fnExactRedundantCastsSpec)

/-- 'laws.FnExactRelabelCasts', WHERE WHAT IT READS IS OF BULK AT MOST 1048576: true; the input reads as it did. -/
def fnExactRelabelCastsUptoRow : OpenClaim := { program := "ytjpmlmdbldcbjaadoor", sum := "fc3d7936ac0f68bf1b040bdd91ced90ffc6a5b0ccb186ec4dbf192375f889051", func := "loop.example/gradual/laws.FnExactRelabelCasts", spec := "fnExactRelabelCasts", inPlace := ["internal/bytealg.IndexByteString"], unfollowed := true, recurses := true, named := ["loop.example/gradual/impl.termForms"], loops := true, plainKeys := false, apart := false, laid := [("loop.example/gradual/impl.termForms", laid_loop_example_gradual_impl_termForms)], narrowed := true }
def FnExactRelabelCastsUptoSaid : Prop := fnExactRelabelCastsUptoRow.holds Tryd.pinned (OpenSpec.upto fnExactRelabelCastsSpec)

/-- 'laws.FnExactDynamicCasts', WHERE WHAT IT READS IS OF BULK AT MOST 1048576: true; the input reads as it did. -/
def fnExactDynamicCastsUptoRow : OpenClaim := { program := "ytjpmlmdbldcbjaadoor", sum := "fc3d7936ac0f68bf1b040bdd91ced90ffc6a5b0ccb186ec4dbf192375f889051", func := "loop.example/gradual/laws.FnExactDynamicCasts", spec := "fnExactDynamicCasts", inPlace := ["internal/bytealg.IndexByteString"], unfollowed := true, recurses := true, named := ["loop.example/gradual/impl.termForms"], loops := true, plainKeys := false, apart := false, laid := [("loop.example/gradual/impl.termForms", laid_loop_example_gradual_impl_termForms)], narrowed := true }
def FnExactDynamicCastsUptoSaid : Prop := fnExactDynamicCastsUptoRow.holds Tryd.pinned (OpenSpec.upto fnExactDynamicCastsSpec)

end Rows
end Go.Proofs.YtjpmlmdbldcbjaaDoor
