/-
  NARROWER THAN 'FOR EVERY INPUT', by the rows' own cells (each row's printed sentence says how): FnExactTypeSame: loops · FnExactFormatType: loops.
  DERIVED. THE GIVEN ROWS OF THIS SEAT. 4 by the template 'for every input the law returns true; each argument reads behind the call as it read before'; 0 by the template 'total and deterministic' (their statements: YtnpofpjaejnejaaTotals.lean).
  GIVEN WITH THE SEED: the statements are not yours to turn. If you find one false, say at which input.
  Laid BY PROGRAM, IN A SANDBOX (cutbox-rows.mjs): the forced cells as the released guide's own fill.sh prints them over the translation 28ecb47f3ffbf2a0… (all of the seat's roots in one cut). By AI agents, Wed Nov 11 2026. No macro, syntax, notation, axiom, sorry.
-/
import Derived.Test.YtnpofpjaejnejaaChecked
import GoSem.Claim
import GoSem.ClaimJoined
import GoSem.ClaimMapViews
import Derived.JoinedTies
import Derived.KernelRfl
namespace Go.Proofs.Ytnpofpjaejnejaa
/- THE CELL 'sum', in the pinned program and in every row, IS THE sha256 OF THE DUMP (.gsa) THAT YtnpofpjaejnejaaProg.lean LOADS. Nothing in Lean hashes anything: it is a label: what it is worth is what the hold of that sum in a sandbox is worth. -/
noncomputable def Try.pinned : Pinned := { name := "ytnpofpjaejnejaa", sum := "28ecb47f3ffbf2a0d16be69ca971074a533339edcc69de0135076e72fcbe93dd", checked := Try.checked }
namespace Rows
def none {H : Type} : Left H := { results := [], args := [] }

/-- 'laws.FnExactTypeSame': WHATEVER THE INPUT: true; the input reads as it did. -/
def fnExactTypeSameSpec : ChangeSpec := { name := "fnExactTypeSame", fn := fun _ => fun
  | [d1, d2] => { results := [.lit (.bool true)], args := [d1, d2] }
  | _ => none }
def fnExactTypeSameRow : OpenClaim := { program := "ytnpofpjaejnejaa", sum := "28ecb47f3ffbf2a0d16be69ca971074a533339edcc69de0135076e72fcbe93dd", func := "loop.example/gradual/laws.FnExactTypeSame", spec := "fnExactTypeSame", unfollowed := true, recurses := true, loops := true, plainKeys := false, apart := false }
def FnExactTypeSameSaid : Prop := fnExactTypeSameRow.holds Try.pinned (OpenSpec.ofChange fnExactTypeSameSpec)

/-- ITS FALSE NEIGHBOUR: 'it returns false'. Refute it at one input. -/
def fnExactTypeSameWrong : ChangeSpec := { name := "fnExactTypeSame", fn := fun _ => fun
  | [d1, d2] => { results := [.lit (.bool false)], args := [d1, d2] }
  | _ => none }
def FnExactTypeSameWrongFalsely : Prop := fnExactTypeSameRow.holds Try.pinned (OpenSpec.ofChange fnExactTypeSameWrong)

/-- 'laws.FnExactFormatType': WHATEVER THE INPUT: true; the input reads as it did. -/
def fnExactFormatTypeSpec : ChangeSpec := { name := "fnExactFormatType", fn := fun _ => fun
  | [d] => { results := [.lit (.bool true)], args := [d] }
  | _ => none }
def fnExactFormatTypeRow : OpenClaim := { program := "ytnpofpjaejnejaa", sum := "28ecb47f3ffbf2a0d16be69ca971074a533339edcc69de0135076e72fcbe93dd", func := "loop.example/gradual/laws.FnExactFormatType", spec := "fnExactFormatType", inPlace := ["internal/abi.NoEscape"], recurses := true, loops := true, plainKeys := false, apart := false }
def FnExactFormatTypeSaid : Prop := fnExactFormatTypeRow.holds Try.pinned (OpenSpec.ofChange fnExactFormatTypeSpec)

/-- ITS FALSE NEIGHBOUR: 'it returns false'. Refute it at one input. -/
def fnExactFormatTypeWrong : ChangeSpec := { name := "fnExactFormatType", fn := fun _ => fun
  | [d] => { results := [.lit (.bool false)], args := [d] }
  | _ => none }
def FnExactFormatTypeWrongFalsely : Prop := fnExactFormatTypeRow.holds Try.pinned (OpenSpec.ofChange fnExactFormatTypeWrong)

/-- 'laws.FnExactParseType': WHATEVER THE INPUT: true; the input reads as it did. -/
def fnExactParseTypeSpec : ChangeSpec := { name := "fnExactParseType", fn := fun _ => fun
  | [d] => { results := [.lit (.bool true)], args := [d] }
  | _ => none }
def fnExactParseTypeRow : OpenClaim := { program := "ytnpofpjaejnejaa", sum := "28ecb47f3ffbf2a0d16be69ca971074a533339edcc69de0135076e72fcbe93dd", func := "loop.example/gradual/laws.FnExactParseType", spec := "fnExactParseType", inPlace := ["internal/bytealg.IndexByteString"], recurses := true, plainKeys := false, apart := false }
def FnExactParseTypeSaid : Prop := fnExactParseTypeRow.holds Try.pinned (OpenSpec.ofChange fnExactParseTypeSpec)

/-- ITS FALSE NEIGHBOUR: 'it returns false'. Refute it at one input. -/
def fnExactParseTypeWrong : ChangeSpec := { name := "fnExactParseType", fn := fun _ => fun
  | [d] => { results := [.lit (.bool false)], args := [d] }
  | _ => none }
def FnExactParseTypeWrongFalsely : Prop := fnExactParseTypeRow.holds Try.pinned (OpenSpec.ofChange fnExactParseTypeWrong)

/-- 'laws.FnConsistentPrecise': WHATEVER THE INPUT: true; the input reads as it did. -/
def fnConsistentPreciseSpec : ChangeSpec := { name := "fnConsistentPrecise", fn := fun _ => fun
  | [d1, d2] => { results := [.lit (.bool true)], args := [d1, d2] }
  | _ => none }
def fnConsistentPreciseRow : OpenClaim := { program := "ytnpofpjaejnejaa", sum := "28ecb47f3ffbf2a0d16be69ca971074a533339edcc69de0135076e72fcbe93dd", func := "loop.example/gradual/laws.FnConsistentPrecise", spec := "fnConsistentPrecise", unfollowed := true, recurses := true, plainKeys := false, apart := false }
def FnConsistentPreciseSaid : Prop := fnConsistentPreciseRow.holds Try.pinned (OpenSpec.ofChange fnConsistentPreciseSpec)

/-- ITS FALSE NEIGHBOUR: 'it returns false'. Refute it at one input. -/
def fnConsistentPreciseWrong : ChangeSpec := { name := "fnConsistentPrecise", fn := fun _ => fun
  | [d1, d2] => { results := [.lit (.bool false)], args := [d1, d2] }
  | _ => none }
def FnConsistentPreciseWrongFalsely : Prop := fnConsistentPreciseRow.holds Try.pinned (OpenSpec.ofChange fnConsistentPreciseWrong)

/- THE SECOND FORM. 'bulk': how many values and letters a reading holds, each counted each time it is reached (what is shared counts as often as it is met; a slice's spare places count too). A statement '..UptoSaid' is the law's where the arguments, and the package variables that the reading takes, are together of bulk at most 1048576: NARROWER than '..Said'. Prove '..Said' where nothing that the law and all that it calls make is longer than what came in: it says more and counts as full. Else prove '..UptoSaid'. A law counts once. -/
mutual
def uptoBulk {H : Type} : DataW H → Nat
  | .lit (.string bytes) => bytes.length + 1
  | .lit _ => 1
  | .nil => 1
  | .ptr d => uptoBulk d + 1
  | .slice elems spare => uptoBulkAll elems + uptoBulkAll spare + 1
  | .agg parts => uptoBulkAll parts + 1
  | .iface _ d => uptoBulk d + 1
  | .map entries => uptoBulkEntries entries + 1
  | .held _ => 1
def uptoBulkAll {H : Type} : List (DataW H) → Nat
  | [] => 0
  | d :: r => uptoBulk d + uptoBulkAll r
def uptoBulkEntries {H : Type} : List (Lit × DataW H) → Nat
  | [] => 0
  | x :: r => uptoBulkEntry x + uptoBulkEntries r
def uptoBulkEntry {H : Type} : Lit × DataW H → Nat
  | (.string bytes, d) => bytes.length + uptoBulk d + 1
  | (_, d) => uptoBulk d + 1
 end
def uptoSmall : (H : Type) → List (DataW H) → Bool := fun _ ds => decide (uptoBulkAll ds ≤ 1048576)
def OpenSpec.upto (s : _root_.Go.ChangeSpec) : _root_.Go.OpenSpec := { _root_.Go.OpenSpec.ofChange s with cond := some uptoSmall }

/-- 'laws.FnExactTypeSame', WHERE WHAT IT READS IS OF BULK AT MOST 1048576: true; the input reads as it did. -/
def fnExactTypeSameUptoRow : OpenClaim := { program := "ytnpofpjaejnejaa", sum := "28ecb47f3ffbf2a0d16be69ca971074a533339edcc69de0135076e72fcbe93dd", func := "loop.example/gradual/laws.FnExactTypeSame", spec := "fnExactTypeSame", unfollowed := true, recurses := true, loops := true, plainKeys := false, apart := false, narrowed := true }
def FnExactTypeSameUptoSaid : Prop := fnExactTypeSameUptoRow.holds Try.pinned (OpenSpec.upto fnExactTypeSameSpec)

/-- 'laws.FnExactFormatType', WHERE WHAT IT READS IS OF BULK AT MOST 1048576: true; the input reads as it did. -/
def fnExactFormatTypeUptoRow : OpenClaim := { program := "ytnpofpjaejnejaa", sum := "28ecb47f3ffbf2a0d16be69ca971074a533339edcc69de0135076e72fcbe93dd", func := "loop.example/gradual/laws.FnExactFormatType", spec := "fnExactFormatType", inPlace := ["internal/abi.NoEscape"], recurses := true, loops := true, plainKeys := false, apart := false, narrowed := true }
def FnExactFormatTypeUptoSaid : Prop := fnExactFormatTypeUptoRow.holds Try.pinned (OpenSpec.upto fnExactFormatTypeSpec)

/-- 'laws.FnExactParseType', WHERE WHAT IT READS IS OF BULK AT MOST 1048576: true; the input reads as it did. -/
def fnExactParseTypeUptoRow : OpenClaim := { program := "ytnpofpjaejnejaa", sum := "28ecb47f3ffbf2a0d16be69ca971074a533339edcc69de0135076e72fcbe93dd", func := "loop.example/gradual/laws.FnExactParseType", spec := "fnExactParseType", inPlace := ["internal/bytealg.IndexByteString"], recurses := true, plainKeys := false, apart := false, narrowed := true }
def FnExactParseTypeUptoSaid : Prop := fnExactParseTypeUptoRow.holds Try.pinned (OpenSpec.upto fnExactParseTypeSpec)

/-- 'laws.FnConsistentPrecise', WHERE WHAT IT READS IS OF BULK AT MOST 1048576: true; the input reads as it did. -/
def fnConsistentPreciseUptoRow : OpenClaim := { program := "ytnpofpjaejnejaa", sum := "28ecb47f3ffbf2a0d16be69ca971074a533339edcc69de0135076e72fcbe93dd", func := "loop.example/gradual/laws.FnConsistentPrecise", spec := "fnConsistentPrecise", unfollowed := true, recurses := true, plainKeys := false, apart := false, narrowed := true }
def FnConsistentPreciseUptoSaid : Prop := fnConsistentPreciseUptoRow.holds Try.pinned (OpenSpec.upto fnConsistentPreciseSpec)

end Rows
end Go.Proofs.Ytnpofpjaejnejaa
