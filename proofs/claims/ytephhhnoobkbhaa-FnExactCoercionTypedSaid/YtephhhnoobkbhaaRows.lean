/-
  NARROWER THAN 'FOR EVERY INPUT', by the rows' own cells (each row's printed sentence says how): FnExactGroundOf: loops · FnExactTermSame: loops · FnExactCoercionValid: loops · FnExactCoercionSame: loops · FnExactCoerceOf: loops · FnExactComposeCoercions: loops · FnExactCoercionTyped: loops · FnExactCoercionHeight: loops · FnExactCoercionLabels: loops · FnExactCoercionIdentity: loops.
  DERIVED. THE GIVEN ROWS OF THIS SEAT. 11 by the template 'for every input the law returns true; each argument reads behind the call as it read before'; 0 by the template 'total and deterministic' (their statements: YtephhhnoobkbhaaTotals.lean).
  GIVEN WITH THE SEED: the statements are not yours to turn. If you find one false, say at which input.
  Laid BY PROGRAM, IN A SANDBOX (cutbox-rows.mjs): the forced cells as the released guide's own fill.sh prints them over the translation a83bc29c7abb3fdc… (all of the seat's roots in one cut). By AI agents, Wed Nov 11 2026. No macro, syntax, notation, axiom, sorry.
-/
import Derived.Test.YtephhhnoobkbhaaChecked
import GoSem.Claim
import GoSem.ClaimJoined
import GoSem.ClaimMapViews
import Derived.JoinedTies
import Derived.KernelRfl
namespace Go.Proofs.Ytephhhnoobkbhaa
/- THE CELL 'sum', in the pinned program and in every row, IS THE sha256 OF THE DUMP (.gsa) THAT YtephhhnoobkbhaaProg.lean LOADS. Nothing in Lean hashes anything: it is a label: what it is worth is what the hold of that sum in a sandbox is worth. -/
noncomputable def Try.pinned : Pinned := { name := "ytephhhnoobkbhaa", sum := "a83bc29c7abb3fdcde2b2ff52be7261e59b60ebe3ae61efb8fdb77851d1ed454", checked := Try.checked }
namespace Rows
def none {H : Type} : Left H := { results := [], args := [] }

/-- 'laws.FnExactGroundOf': WHATEVER THE INPUT: true; the input reads as it did. -/
def fnExactGroundOfSpec : ChangeSpec := { name := "fnExactGroundOf", fn := fun _ => fun
  | [d] => { results := [.lit (.bool true)], args := [d] }
  | _ => none }
def fnExactGroundOfRow : OpenClaim := { program := "ytephhhnoobkbhaa", sum := "a83bc29c7abb3fdcde2b2ff52be7261e59b60ebe3ae61efb8fdb77851d1ed454", func := "loop.example/gradual/laws.FnExactGroundOf", spec := "fnExactGroundOf", recurses := true, loops := true, plainKeys := false, apart := false }
def FnExactGroundOfSaid : Prop := fnExactGroundOfRow.holds Try.pinned (OpenSpec.ofChange fnExactGroundOfSpec)

/-- ITS FALSE NEIGHBOUR: 'it returns false'. Refute it at one input. -/
def fnExactGroundOfWrong : ChangeSpec := { name := "fnExactGroundOf", fn := fun _ => fun
  | [d] => { results := [.lit (.bool false)], args := [d] }
  | _ => none }
def FnExactGroundOfWrongFalsely : Prop := fnExactGroundOfRow.holds Try.pinned (OpenSpec.ofChange fnExactGroundOfWrong)

/-- 'laws.FnExactTermSame': WHATEVER THE INPUT: true; the input reads as it did. -/
def fnExactTermSameSpec : ChangeSpec := { name := "fnExactTermSame", fn := fun _ => fun
  | [d1, d2] => { results := [.lit (.bool true)], args := [d1, d2] }
  | _ => none }
def fnExactTermSameRow : OpenClaim := { program := "ytephhhnoobkbhaa", sum := "a83bc29c7abb3fdcde2b2ff52be7261e59b60ebe3ae61efb8fdb77851d1ed454", func := "loop.example/gradual/laws.FnExactTermSame", spec := "fnExactTermSame", unfollowed := true, recurses := true, loops := true, plainKeys := false, apart := false }
def FnExactTermSameSaid : Prop := fnExactTermSameRow.holds Try.pinned (OpenSpec.ofChange fnExactTermSameSpec)

/-- ITS FALSE NEIGHBOUR: 'it returns false'. Refute it at one input. -/
def fnExactTermSameWrong : ChangeSpec := { name := "fnExactTermSame", fn := fun _ => fun
  | [d1, d2] => { results := [.lit (.bool false)], args := [d1, d2] }
  | _ => none }
def FnExactTermSameWrongFalsely : Prop := fnExactTermSameRow.holds Try.pinned (OpenSpec.ofChange fnExactTermSameWrong)

/-- 'laws.FnExactCoercionValid': WHATEVER THE INPUT: true; the input reads as it did. -/
def fnExactCoercionValidSpec : ChangeSpec := { name := "fnExactCoercionValid", fn := fun _ => fun
  | [d] => { results := [.lit (.bool true)], args := [d] }
  | _ => none }
def fnExactCoercionValidRow : OpenClaim := { program := "ytephhhnoobkbhaa", sum := "a83bc29c7abb3fdcde2b2ff52be7261e59b60ebe3ae61efb8fdb77851d1ed454", func := "loop.example/gradual/laws.FnExactCoercionValid", spec := "fnExactCoercionValid", recurses := true, loops := true, plainKeys := false, apart := false }
def FnExactCoercionValidSaid : Prop := fnExactCoercionValidRow.holds Try.pinned (OpenSpec.ofChange fnExactCoercionValidSpec)

/-- ITS FALSE NEIGHBOUR: 'it returns false'. Refute it at one input. -/
def fnExactCoercionValidWrong : ChangeSpec := { name := "fnExactCoercionValid", fn := fun _ => fun
  | [d] => { results := [.lit (.bool false)], args := [d] }
  | _ => none }
def FnExactCoercionValidWrongFalsely : Prop := fnExactCoercionValidRow.holds Try.pinned (OpenSpec.ofChange fnExactCoercionValidWrong)

/-- 'laws.FnExactCoercionSame': WHATEVER THE INPUT: true; the input reads as it did. -/
def fnExactCoercionSameSpec : ChangeSpec := { name := "fnExactCoercionSame", fn := fun _ => fun
  | [d1, d2] => { results := [.lit (.bool true)], args := [d1, d2] }
  | _ => none }
def fnExactCoercionSameRow : OpenClaim := { program := "ytephhhnoobkbhaa", sum := "a83bc29c7abb3fdcde2b2ff52be7261e59b60ebe3ae61efb8fdb77851d1ed454", func := "loop.example/gradual/laws.FnExactCoercionSame", spec := "fnExactCoercionSame", unfollowed := true, recurses := true, loops := true, plainKeys := false, apart := false }
def FnExactCoercionSameSaid : Prop := fnExactCoercionSameRow.holds Try.pinned (OpenSpec.ofChange fnExactCoercionSameSpec)

/-- ITS FALSE NEIGHBOUR: 'it returns false'. Refute it at one input. -/
def fnExactCoercionSameWrong : ChangeSpec := { name := "fnExactCoercionSame", fn := fun _ => fun
  | [d1, d2] => { results := [.lit (.bool false)], args := [d1, d2] }
  | _ => none }
def FnExactCoercionSameWrongFalsely : Prop := fnExactCoercionSameRow.holds Try.pinned (OpenSpec.ofChange fnExactCoercionSameWrong)

/-- 'laws.FnExactParseCoercion': WHATEVER THE INPUT: true; the input reads as it did. -/
def fnExactParseCoercionSpec : ChangeSpec := { name := "fnExactParseCoercion", fn := fun _ => fun
  | [d] => { results := [.lit (.bool true)], args := [d] }
  | _ => none }
def fnExactParseCoercionRow : OpenClaim := { program := "ytephhhnoobkbhaa", sum := "a83bc29c7abb3fdcde2b2ff52be7261e59b60ebe3ae61efb8fdb77851d1ed454", func := "loop.example/gradual/laws.FnExactParseCoercion", spec := "fnExactParseCoercion", inPlace := ["internal/bytealg.IndexByteString"], recurses := true, plainKeys := false, apart := false }
def FnExactParseCoercionSaid : Prop := fnExactParseCoercionRow.holds Try.pinned (OpenSpec.ofChange fnExactParseCoercionSpec)

/-- ITS FALSE NEIGHBOUR: 'it returns false'. Refute it at one input. -/
def fnExactParseCoercionWrong : ChangeSpec := { name := "fnExactParseCoercion", fn := fun _ => fun
  | [d] => { results := [.lit (.bool false)], args := [d] }
  | _ => none }
def FnExactParseCoercionWrongFalsely : Prop := fnExactParseCoercionRow.holds Try.pinned (OpenSpec.ofChange fnExactParseCoercionWrong)

/-- 'laws.FnExactCoerceOf': WHATEVER THE INPUT: true; the input reads as it did. -/
def fnExactCoerceOfSpec : ChangeSpec := { name := "fnExactCoerceOf", fn := fun _ => fun
  | [d1, d2, d3] => { results := [.lit (.bool true)], args := [d1, d2, d3] }
  | _ => none }
def fnExactCoerceOfRow : OpenClaim := { program := "ytephhhnoobkbhaa", sum := "a83bc29c7abb3fdcde2b2ff52be7261e59b60ebe3ae61efb8fdb77851d1ed454", func := "loop.example/gradual/laws.FnExactCoerceOf", spec := "fnExactCoerceOf", unfollowed := true, recurses := true, loops := true, plainKeys := false, apart := false }
def FnExactCoerceOfSaid : Prop := fnExactCoerceOfRow.holds Try.pinned (OpenSpec.ofChange fnExactCoerceOfSpec)

/-- ITS FALSE NEIGHBOUR: 'it returns false'. Refute it at one input. -/
def fnExactCoerceOfWrong : ChangeSpec := { name := "fnExactCoerceOf", fn := fun _ => fun
  | [d1, d2, d3] => { results := [.lit (.bool false)], args := [d1, d2, d3] }
  | _ => none }
def FnExactCoerceOfWrongFalsely : Prop := fnExactCoerceOfRow.holds Try.pinned (OpenSpec.ofChange fnExactCoerceOfWrong)

/-- 'laws.FnExactComposeCoercions': WHATEVER THE INPUT: true; the input reads as it did. -/
def fnExactComposeCoercionsSpec : ChangeSpec := { name := "fnExactComposeCoercions", fn := fun _ => fun
  | [d1, d2] => { results := [.lit (.bool true)], args := [d1, d2] }
  | _ => none }
def fnExactComposeCoercionsRow : OpenClaim := { program := "ytephhhnoobkbhaa", sum := "a83bc29c7abb3fdcde2b2ff52be7261e59b60ebe3ae61efb8fdb77851d1ed454", func := "loop.example/gradual/laws.FnExactComposeCoercions", spec := "fnExactComposeCoercions", recurses := true, loops := true, plainKeys := false, apart := false }
def FnExactComposeCoercionsSaid : Prop := fnExactComposeCoercionsRow.holds Try.pinned (OpenSpec.ofChange fnExactComposeCoercionsSpec)

/-- ITS FALSE NEIGHBOUR: 'it returns false'. Refute it at one input. -/
def fnExactComposeCoercionsWrong : ChangeSpec := { name := "fnExactComposeCoercions", fn := fun _ => fun
  | [d1, d2] => { results := [.lit (.bool false)], args := [d1, d2] }
  | _ => none }
def FnExactComposeCoercionsWrongFalsely : Prop := fnExactComposeCoercionsRow.holds Try.pinned (OpenSpec.ofChange fnExactComposeCoercionsWrong)

/-- 'laws.FnExactCoercionTyped': WHATEVER THE INPUT: true; the input reads as it did. -/
def fnExactCoercionTypedSpec : ChangeSpec := { name := "fnExactCoercionTyped", fn := fun _ => fun
  | [d1, d2, d3] => { results := [.lit (.bool true)], args := [d1, d2, d3] }
  | _ => none }
def fnExactCoercionTypedRow : OpenClaim := { program := "ytephhhnoobkbhaa", sum := "a83bc29c7abb3fdcde2b2ff52be7261e59b60ebe3ae61efb8fdb77851d1ed454", func := "loop.example/gradual/laws.FnExactCoercionTyped", spec := "fnExactCoercionTyped", recurses := true, loops := true, plainKeys := false, apart := false }
def FnExactCoercionTypedSaid : Prop := fnExactCoercionTypedRow.holds Try.pinned (OpenSpec.ofChange fnExactCoercionTypedSpec)

/-- ITS FALSE NEIGHBOUR: 'it returns false'. Refute it at one input. -/
def fnExactCoercionTypedWrong : ChangeSpec := { name := "fnExactCoercionTyped", fn := fun _ => fun
  | [d1, d2, d3] => { results := [.lit (.bool false)], args := [d1, d2, d3] }
  | _ => none }
def FnExactCoercionTypedWrongFalsely : Prop := fnExactCoercionTypedRow.holds Try.pinned (OpenSpec.ofChange fnExactCoercionTypedWrong)

/-- 'laws.FnExactCoercionHeight': WHATEVER THE INPUT: true; the input reads as it did. -/
def fnExactCoercionHeightSpec : ChangeSpec := { name := "fnExactCoercionHeight", fn := fun _ => fun
  | [d] => { results := [.lit (.bool true)], args := [d] }
  | _ => none }
def fnExactCoercionHeightRow : OpenClaim := { program := "ytephhhnoobkbhaa", sum := "a83bc29c7abb3fdcde2b2ff52be7261e59b60ebe3ae61efb8fdb77851d1ed454", func := "loop.example/gradual/laws.FnExactCoercionHeight", spec := "fnExactCoercionHeight", recurses := true, loops := true, plainKeys := false, apart := false }
def FnExactCoercionHeightSaid : Prop := fnExactCoercionHeightRow.holds Try.pinned (OpenSpec.ofChange fnExactCoercionHeightSpec)

/-- ITS FALSE NEIGHBOUR: 'it returns false'. Refute it at one input. -/
def fnExactCoercionHeightWrong : ChangeSpec := { name := "fnExactCoercionHeight", fn := fun _ => fun
  | [d] => { results := [.lit (.bool false)], args := [d] }
  | _ => none }
def FnExactCoercionHeightWrongFalsely : Prop := fnExactCoercionHeightRow.holds Try.pinned (OpenSpec.ofChange fnExactCoercionHeightWrong)

/-- 'laws.FnExactCoercionLabels': WHATEVER THE INPUT: true; the input reads as it did. -/
def fnExactCoercionLabelsSpec : ChangeSpec := { name := "fnExactCoercionLabels", fn := fun _ => fun
  | [d] => { results := [.lit (.bool true)], args := [d] }
  | _ => none }
def fnExactCoercionLabelsRow : OpenClaim := { program := "ytephhhnoobkbhaa", sum := "a83bc29c7abb3fdcde2b2ff52be7261e59b60ebe3ae61efb8fdb77851d1ed454", func := "loop.example/gradual/laws.FnExactCoercionLabels", spec := "fnExactCoercionLabels", unfollowed := true, recurses := true, loops := true, plainKeys := false, apart := false }
def FnExactCoercionLabelsSaid : Prop := fnExactCoercionLabelsRow.holds Try.pinned (OpenSpec.ofChange fnExactCoercionLabelsSpec)

/-- ITS FALSE NEIGHBOUR: 'it returns false'. Refute it at one input. -/
def fnExactCoercionLabelsWrong : ChangeSpec := { name := "fnExactCoercionLabels", fn := fun _ => fun
  | [d] => { results := [.lit (.bool false)], args := [d] }
  | _ => none }
def FnExactCoercionLabelsWrongFalsely : Prop := fnExactCoercionLabelsRow.holds Try.pinned (OpenSpec.ofChange fnExactCoercionLabelsWrong)

/-- 'laws.FnExactCoercionIdentity': WHATEVER THE INPUT: true; the input reads as it did. -/
def fnExactCoercionIdentitySpec : ChangeSpec := { name := "fnExactCoercionIdentity", fn := fun _ => fun
  | [d] => { results := [.lit (.bool true)], args := [d] }
  | _ => none }
def fnExactCoercionIdentityRow : OpenClaim := { program := "ytephhhnoobkbhaa", sum := "a83bc29c7abb3fdcde2b2ff52be7261e59b60ebe3ae61efb8fdb77851d1ed454", func := "loop.example/gradual/laws.FnExactCoercionIdentity", spec := "fnExactCoercionIdentity", unfollowed := true, recurses := true, loops := true, plainKeys := false, apart := false }
def FnExactCoercionIdentitySaid : Prop := fnExactCoercionIdentityRow.holds Try.pinned (OpenSpec.ofChange fnExactCoercionIdentitySpec)

/-- ITS FALSE NEIGHBOUR: 'it returns false'. Refute it at one input. -/
def fnExactCoercionIdentityWrong : ChangeSpec := { name := "fnExactCoercionIdentity", fn := fun _ => fun
  | [d] => { results := [.lit (.bool false)], args := [d] }
  | _ => none }
def FnExactCoercionIdentityWrongFalsely : Prop := fnExactCoercionIdentityRow.holds Try.pinned (OpenSpec.ofChange fnExactCoercionIdentityWrong)

/- THE SECOND FORM. 'bulk': how many values and letters a reading holds, each counted each time it is reached (what is shared counts as often as it is met; a slice's spare places count too). A statement '..UptoSaid' is the law's where the arguments, and the package variables that the reading takes, are together of bulk at most 1048576: NARROWER than '..Said'. Prove '..Said' where nothing that the law and all that it calls make is longer than what came in: it says more and counts as full. Else prove '..UptoSaid'. A law counts once. -/
mutual
def uptoBulk {H : Type} : DataW H → Nat
  | .lit (.string bytes) => bytes.length + 1
  | .lit _ => 1
  | .nil => 1
  | .ptr d => uptoBulk d + 1
  | .slice elems spare => uptoBulkAll elems + uptoBulkAll spare + 1
  | .agg parts => uptoBulkAll parts + 1
  | .iface _ d => uptoBulk d + 1
  | .map entries => uptoBulkEntries entries + 1
  | .held _ => 1
def uptoBulkAll {H : Type} : List (DataW H) → Nat
  | [] => 0
  | d :: r => uptoBulk d + uptoBulkAll r
def uptoBulkEntries {H : Type} : List (Lit × DataW H) → Nat
  | [] => 0
  | x :: r => uptoBulkEntry x + uptoBulkEntries r
def uptoBulkEntry {H : Type} : Lit × DataW H → Nat
  | (.string bytes, d) => bytes.length + uptoBulk d + 1
  | (_, d) => uptoBulk d + 1
 end
def uptoSmall : (H : Type) → List (DataW H) → Bool := fun _ ds => decide (uptoBulkAll ds ≤ 1048576)
def OpenSpec.upto (s : _root_.Go.ChangeSpec) : _root_.Go.OpenSpec := { _root_.Go.OpenSpec.ofChange s with cond := some uptoSmall }

/-- 'laws.FnExactGroundOf', WHERE WHAT IT READS IS OF BULK AT MOST 1048576: true; the input reads as it did. -/
def fnExactGroundOfUptoRow : OpenClaim := { program := "ytephhhnoobkbhaa", sum := "a83bc29c7abb3fdcde2b2ff52be7261e59b60ebe3ae61efb8fdb77851d1ed454", func := "loop.example/gradual/laws.FnExactGroundOf", spec := "fnExactGroundOf", recurses := true, loops := true, plainKeys := false, apart := false, narrowed := true }
def FnExactGroundOfUptoSaid : Prop := fnExactGroundOfUptoRow.holds Try.pinned (OpenSpec.upto fnExactGroundOfSpec)

/-- 'laws.FnExactTermSame', WHERE WHAT IT READS IS OF BULK AT MOST 1048576: true; the input reads as it did. -/
def fnExactTermSameUptoRow : OpenClaim := { program := "ytephhhnoobkbhaa", sum := "a83bc29c7abb3fdcde2b2ff52be7261e59b60ebe3ae61efb8fdb77851d1ed454", func := "loop.example/gradual/laws.FnExactTermSame", spec := "fnExactTermSame", unfollowed := true, recurses := true, loops := true, plainKeys := false, apart := false, narrowed := true }
def FnExactTermSameUptoSaid : Prop := fnExactTermSameUptoRow.holds Try.pinned (OpenSpec.upto fnExactTermSameSpec)

/-- 'laws.FnExactCoercionValid', WHERE WHAT IT READS IS OF BULK AT MOST 1048576: true; the input reads as it did. -/
def fnExactCoercionValidUptoRow : OpenClaim := { program := "ytephhhnoobkbhaa", sum := "a83bc29c7abb3fdcde2b2ff52be7261e59b60ebe3ae61efb8fdb77851d1ed454", func := "loop.example/gradual/laws.FnExactCoercionValid", spec := "fnExactCoercionValid", recurses := true, loops := true, plainKeys := false, apart := false, narrowed := true }
def FnExactCoercionValidUptoSaid : Prop := fnExactCoercionValidUptoRow.holds Try.pinned (OpenSpec.upto fnExactCoercionValidSpec)

/-- 'laws.FnExactCoercionSame', WHERE WHAT IT READS IS OF BULK AT MOST 1048576: true; the input reads as it did. -/
def fnExactCoercionSameUptoRow : OpenClaim := { program := "ytephhhnoobkbhaa", sum := "a83bc29c7abb3fdcde2b2ff52be7261e59b60ebe3ae61efb8fdb77851d1ed454", func := "loop.example/gradual/laws.FnExactCoercionSame", spec := "fnExactCoercionSame", unfollowed := true, recurses := true, loops := true, plainKeys := false, apart := false, narrowed := true }
def FnExactCoercionSameUptoSaid : Prop := fnExactCoercionSameUptoRow.holds Try.pinned (OpenSpec.upto fnExactCoercionSameSpec)

/-- 'laws.FnExactParseCoercion', WHERE WHAT IT READS IS OF BULK AT MOST 1048576: true; the input reads as it did. -/
def fnExactParseCoercionUptoRow : OpenClaim := { program := "ytephhhnoobkbhaa", sum := "a83bc29c7abb3fdcde2b2ff52be7261e59b60ebe3ae61efb8fdb77851d1ed454", func := "loop.example/gradual/laws.FnExactParseCoercion", spec := "fnExactParseCoercion", inPlace := ["internal/bytealg.IndexByteString"], recurses := true, plainKeys := false, apart := false, narrowed := true }
def FnExactParseCoercionUptoSaid : Prop := fnExactParseCoercionUptoRow.holds Try.pinned (OpenSpec.upto fnExactParseCoercionSpec)

/-- 'laws.FnExactCoerceOf', WHERE WHAT IT READS IS OF BULK AT MOST 1048576: true; the input reads as it did. -/
def fnExactCoerceOfUptoRow : OpenClaim := { program := "ytephhhnoobkbhaa", sum := "a83bc29c7abb3fdcde2b2ff52be7261e59b60ebe3ae61efb8fdb77851d1ed454", func := "loop.example/gradual/laws.FnExactCoerceOf", spec := "fnExactCoerceOf", unfollowed := true, recurses := true, loops := true, plainKeys := false, apart := false, narrowed := true }
def FnExactCoerceOfUptoSaid : Prop := fnExactCoerceOfUptoRow.holds Try.pinned (OpenSpec.upto fnExactCoerceOfSpec)

/-- 'laws.FnExactComposeCoercions', WHERE WHAT IT READS IS OF BULK AT MOST 1048576: true; the input reads as it did. -/
def fnExactComposeCoercionsUptoRow : OpenClaim := { program := "ytephhhnoobkbhaa", sum := "a83bc29c7abb3fdcde2b2ff52be7261e59b60ebe3ae61efb8fdb77851d1ed454", func := "loop.example/gradual/laws.FnExactComposeCoercions", spec := "fnExactComposeCoercions", recurses := true, loops := true, plainKeys := false, apart := false, narrowed := true }
def FnExactComposeCoercionsUptoSaid : Prop := fnExactComposeCoercionsUptoRow.holds Try.pinned (OpenSpec.upto fnExactComposeCoercionsSpec)

/-- 'laws.FnExactCoercionTyped', WHERE WHAT IT READS IS OF BULK AT MOST 1048576: true; the input reads as it did. -/
def fnExactCoercionTypedUptoRow : OpenClaim := { program := "ytephhhnoobkbhaa", sum := "a83bc29c7abb3fdcde2b2ff52be7261e59b60ebe3ae61efb8fdb77851d1ed454", func := "loop.example/gradual/laws.FnExactCoercionTyped", spec := "fnExactCoercionTyped", recurses := true, loops := true, plainKeys := false, apart := false, narrowed := true }
def FnExactCoercionTypedUptoSaid : Prop := fnExactCoercionTypedUptoRow.holds Try.pinned (OpenSpec.upto fnExactCoercionTypedSpec)

/-- 'laws.FnExactCoercionHeight', WHERE WHAT IT READS IS OF BULK AT MOST 1048576: true; the input reads as it did. -/
def fnExactCoercionHeightUptoRow : OpenClaim := { program := "ytephhhnoobkbhaa", sum := "a83bc29c7abb3fdcde2b2ff52be7261e59b60ebe3ae61efb8fdb77851d1ed454", func := "loop.example/gradual/laws.FnExactCoercionHeight", spec := "fnExactCoercionHeight", recurses := true, loops := true, plainKeys := false, apart := false, narrowed := true }
def FnExactCoercionHeightUptoSaid : Prop := fnExactCoercionHeightUptoRow.holds Try.pinned (OpenSpec.upto fnExactCoercionHeightSpec)

/-- 'laws.FnExactCoercionLabels', WHERE WHAT IT READS IS OF BULK AT MOST 1048576: true; the input reads as it did. -/
def fnExactCoercionLabelsUptoRow : OpenClaim := { program := "ytephhhnoobkbhaa", sum := "a83bc29c7abb3fdcde2b2ff52be7261e59b60ebe3ae61efb8fdb77851d1ed454", func := "loop.example/gradual/laws.FnExactCoercionLabels", spec := "fnExactCoercionLabels", unfollowed := true, recurses := true, loops := true, plainKeys := false, apart := false, narrowed := true }
def FnExactCoercionLabelsUptoSaid : Prop := fnExactCoercionLabelsUptoRow.holds Try.pinned (OpenSpec.upto fnExactCoercionLabelsSpec)

/-- 'laws.FnExactCoercionIdentity', WHERE WHAT IT READS IS OF BULK AT MOST 1048576: true; the input reads as it did. -/
def fnExactCoercionIdentityUptoRow : OpenClaim := { program := "ytephhhnoobkbhaa", sum := "a83bc29c7abb3fdcde2b2ff52be7261e59b60ebe3ae61efb8fdb77851d1ed454", func := "loop.example/gradual/laws.FnExactCoercionIdentity", spec := "fnExactCoercionIdentity", unfollowed := true, recurses := true, loops := true, plainKeys := false, apart := false, narrowed := true }
def FnExactCoercionIdentityUptoSaid : Prop := fnExactCoercionIdentityUptoRow.holds Try.pinned (OpenSpec.upto fnExactCoercionIdentitySpec)

end Rows
end Go.Proofs.Ytephhhnoobkbhaa
