/-
  NARROWER THAN 'FOR EVERY INPUT', by the rows' own cells (each row's printed sentence says how): FnExactCtxValid: loops · FnExactMatchFun: loops · FnExactMatchPair: loops.
  DERIVED. THE GIVEN ROWS OF THIS SEAT. 4 by the template 'for every input the law returns true; each argument reads behind the call as it read before'; 0 by the template 'total and deterministic' (their statements: YtgmpndpehhbmgaaTotals.lean).
  GIVEN WITH THE SEED: the statements are not yours to turn. If you find one false, say at which input.
  Laid BY PROGRAM, IN A SANDBOX (cutbox-rows.mjs): the forced cells as the released guide's own fill.sh prints them over the translation 54c81cb3eac26b74… (all of the seat's roots in one cut). By AI agents, Wed Nov 11 2026. No macro, syntax, notation, axiom, sorry.
-/
import Derived.Test.YtgmpndpehhbmgaaChecked
import GoSem.Claim
import GoSem.ClaimJoined
import GoSem.ClaimMapViews
import Derived.JoinedTies
import Derived.KernelRfl
namespace Go.Proofs.Ytgmpndpehhbmgaa
/- THE CELL 'sum', in the pinned program and in every row, IS THE sha256 OF THE DUMP (.gsa) THAT YtgmpndpehhbmgaaProg.lean LOADS. Nothing in Lean hashes anything: it is a label: what it is worth is what the hold of that sum in a sandbox is worth. -/
noncomputable def Try.pinned : Pinned := { name := "ytgmpndpehhbmgaa", sum := "54c81cb3eac26b745237d90c96d6268850f7f20d82486866ce71ef52e3c7563d", checked := Try.checked }
namespace Rows
def none {H : Type} : Left H := { results := [], args := [] }

/-- 'laws.FnCtxValid': WHATEVER THE INPUT: true; the input reads as it did. -/
def fnCtxValidSpec : ChangeSpec := { name := "fnCtxValid", fn := fun _ => fun
  | [d1, d2] => { results := [.lit (.bool true)], args := [d1, d2] }
  | _ => none }
def fnCtxValidRow : OpenClaim := { program := "ytgmpndpehhbmgaa", sum := "54c81cb3eac26b745237d90c96d6268850f7f20d82486866ce71ef52e3c7563d", func := "loop.example/gradual/laws.FnCtxValid", spec := "fnCtxValid", recurses := true, apart := false }
def FnCtxValidSaid : Prop := fnCtxValidRow.holds Try.pinned (OpenSpec.ofChange fnCtxValidSpec)

/-- ITS FALSE NEIGHBOUR: 'it returns false'. Refute it at one input. -/
def fnCtxValidWrong : ChangeSpec := { name := "fnCtxValid", fn := fun _ => fun
  | [d1, d2] => { results := [.lit (.bool false)], args := [d1, d2] }
  | _ => none }
def FnCtxValidWrongFalsely : Prop := fnCtxValidRow.holds Try.pinned (OpenSpec.ofChange fnCtxValidWrong)

/-- 'laws.FnExactCtxValid': WHATEVER THE INPUT: true; the input reads as it did. -/
def fnExactCtxValidSpec : ChangeSpec := { name := "fnExactCtxValid", fn := fun _ => fun
  | [d] => { results := [.lit (.bool true)], args := [d] }
  | _ => none }
def fnExactCtxValidRow : OpenClaim := { program := "ytgmpndpehhbmgaa", sum := "54c81cb3eac26b745237d90c96d6268850f7f20d82486866ce71ef52e3c7563d", func := "loop.example/gradual/laws.FnExactCtxValid", spec := "fnExactCtxValid", recurses := true, loops := true, apart := false }
def FnExactCtxValidSaid : Prop := fnExactCtxValidRow.holds Try.pinned (OpenSpec.ofChange fnExactCtxValidSpec)

/-- ITS FALSE NEIGHBOUR: 'it returns false'. Refute it at one input. -/
def fnExactCtxValidWrong : ChangeSpec := { name := "fnExactCtxValid", fn := fun _ => fun
  | [d] => { results := [.lit (.bool false)], args := [d] }
  | _ => none }
def FnExactCtxValidWrongFalsely : Prop := fnExactCtxValidRow.holds Try.pinned (OpenSpec.ofChange fnExactCtxValidWrong)

/-- 'laws.FnExactMatchFun': WHATEVER THE INPUT: true; the input reads as it did. -/
def fnExactMatchFunSpec : ChangeSpec := { name := "fnExactMatchFun", fn := fun _ => fun
  | [d] => { results := [.lit (.bool true)], args := [d] }
  | _ => none }
def fnExactMatchFunRow : OpenClaim := { program := "ytgmpndpehhbmgaa", sum := "54c81cb3eac26b745237d90c96d6268850f7f20d82486866ce71ef52e3c7563d", func := "loop.example/gradual/laws.FnExactMatchFun", spec := "fnExactMatchFun", unfollowed := true, recurses := true, loops := true, apart := false }
def FnExactMatchFunSaid : Prop := fnExactMatchFunRow.holds Try.pinned (OpenSpec.ofChange fnExactMatchFunSpec)

/-- ITS FALSE NEIGHBOUR: 'it returns false'. Refute it at one input. -/
def fnExactMatchFunWrong : ChangeSpec := { name := "fnExactMatchFun", fn := fun _ => fun
  | [d] => { results := [.lit (.bool false)], args := [d] }
  | _ => none }
def FnExactMatchFunWrongFalsely : Prop := fnExactMatchFunRow.holds Try.pinned (OpenSpec.ofChange fnExactMatchFunWrong)

/-- 'laws.FnExactMatchPair': WHATEVER THE INPUT: true; the input reads as it did. -/
def fnExactMatchPairSpec : ChangeSpec := { name := "fnExactMatchPair", fn := fun _ => fun
  | [d] => { results := [.lit (.bool true)], args := [d] }
  | _ => none }
def fnExactMatchPairRow : OpenClaim := { program := "ytgmpndpehhbmgaa", sum := "54c81cb3eac26b745237d90c96d6268850f7f20d82486866ce71ef52e3c7563d", func := "loop.example/gradual/laws.FnExactMatchPair", spec := "fnExactMatchPair", unfollowed := true, recurses := true, loops := true, apart := false }
def FnExactMatchPairSaid : Prop := fnExactMatchPairRow.holds Try.pinned (OpenSpec.ofChange fnExactMatchPairSpec)

/-- ITS FALSE NEIGHBOUR: 'it returns false'. Refute it at one input. -/
def fnExactMatchPairWrong : ChangeSpec := { name := "fnExactMatchPair", fn := fun _ => fun
  | [d] => { results := [.lit (.bool false)], args := [d] }
  | _ => none }
def FnExactMatchPairWrongFalsely : Prop := fnExactMatchPairRow.holds Try.pinned (OpenSpec.ofChange fnExactMatchPairWrong)

/- THE SECOND FORM. 'bulk': how many values and letters a reading holds, each counted each time it is reached (what is shared counts as often as it is met; a slice's spare places count too). A statement '..UptoSaid' is the law's where the arguments, and the package variables that the reading takes, are together of bulk at most 1048576: NARROWER than '..Said'. Prove '..Said' where nothing that the law and all that it calls make is longer than what came in: it says more and counts as full. Else prove '..UptoSaid'. A law counts once. -/
mutual
def uptoBulk {H : Type} : DataW H → Nat
  | .lit (.string bytes) => bytes.length + 1
  | .lit _ => 1
  | .nil => 1
  | .ptr d => uptoBulk d + 1
  | .slice elems spare => uptoBulkAll elems + uptoBulkAll spare + 1
  | .agg parts => uptoBulkAll parts + 1
  | .iface _ d => uptoBulk d + 1
  | .map entries => uptoBulkEntries entries + 1
  | .held _ => 1
def uptoBulkAll {H : Type} : List (DataW H) → Nat
  | [] => 0
  | d :: r => uptoBulk d + uptoBulkAll r
def uptoBulkEntries {H : Type} : List (Lit × DataW H) → Nat
  | [] => 0
  | x :: r => uptoBulkEntry x + uptoBulkEntries r
def uptoBulkEntry {H : Type} : Lit × DataW H → Nat
  | (.string bytes, d) => bytes.length + uptoBulk d + 1
  | (_, d) => uptoBulk d + 1
 end
def uptoSmall : (H : Type) → List (DataW H) → Bool := fun _ ds => decide (uptoBulkAll ds ≤ 1048576)
def OpenSpec.upto (s : _root_.Go.ChangeSpec) : _root_.Go.OpenSpec := { _root_.Go.OpenSpec.ofChange s with cond := some uptoSmall }

/-- 'laws.FnCtxValid', WHERE WHAT IT READS IS OF BULK AT MOST 1048576: true; the input reads as it did. -/
def fnCtxValidUptoRow : OpenClaim := { program := "ytgmpndpehhbmgaa", sum := "54c81cb3eac26b745237d90c96d6268850f7f20d82486866ce71ef52e3c7563d", func := "loop.example/gradual/laws.FnCtxValid", spec := "fnCtxValid", recurses := true, apart := false, narrowed := true }
def FnCtxValidUptoSaid : Prop := fnCtxValidUptoRow.holds Try.pinned (OpenSpec.upto fnCtxValidSpec)

/-- 'laws.FnExactCtxValid', WHERE WHAT IT READS IS OF BULK AT MOST 1048576: true; the input reads as it did. -/
def fnExactCtxValidUptoRow : OpenClaim := { program := "ytgmpndpehhbmgaa", sum := "54c81cb3eac26b745237d90c96d6268850f7f20d82486866ce71ef52e3c7563d", func := "loop.example/gradual/laws.FnExactCtxValid", spec := "fnExactCtxValid", recurses := true, loops := true, apart := false, narrowed := true }
def FnExactCtxValidUptoSaid : Prop := fnExactCtxValidUptoRow.holds Try.pinned (OpenSpec.upto fnExactCtxValidSpec)

/-- 'laws.FnExactMatchFun', WHERE WHAT IT READS IS OF BULK AT MOST 1048576: true; the input reads as it did. -/
def fnExactMatchFunUptoRow : OpenClaim := { program := "ytgmpndpehhbmgaa", sum := "54c81cb3eac26b745237d90c96d6268850f7f20d82486866ce71ef52e3c7563d", func := "loop.example/gradual/laws.FnExactMatchFun", spec := "fnExactMatchFun", unfollowed := true, recurses := true, loops := true, apart := false, narrowed := true }
def FnExactMatchFunUptoSaid : Prop := fnExactMatchFunUptoRow.holds Try.pinned (OpenSpec.upto fnExactMatchFunSpec)

/-- 'laws.FnExactMatchPair', WHERE WHAT IT READS IS OF BULK AT MOST 1048576: true; the input reads as it did. -/
def fnExactMatchPairUptoRow : OpenClaim := { program := "ytgmpndpehhbmgaa", sum := "54c81cb3eac26b745237d90c96d6268850f7f20d82486866ce71ef52e3c7563d", func := "loop.example/gradual/laws.FnExactMatchPair", spec := "fnExactMatchPair", unfollowed := true, recurses := true, loops := true, apart := false, narrowed := true }
def FnExactMatchPairUptoSaid : Prop := fnExactMatchPairUptoRow.holds Try.pinned (OpenSpec.upto fnExactMatchPairSpec)

end Rows
end Go.Proofs.Ytgmpndpehhbmgaa
