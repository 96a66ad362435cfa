/-
  NARROWER THAN 'FOR EVERY INPUT', by the rows' own cells (each row's printed sentence says how): FnExactTypeValid: loops · FnExactTypeSame: loops · FnExactFormatType: loops · FnExactConsistent: loops · FnExactPrecise: loops · FnExactMeetTypes: loops · FnExactJoinTypes: loops · FnExactGroundOf: loops · FnExactIsStatic: loops · FnExactTypeDepth: loops.
  DERIVED. THE GIVEN ROWS OF THIS SEAT. 12 by the template 'for every input the law returns true; each argument reads behind the call as it read before'; 0 by the template 'total and deterministic' (their statements: YtoeenodhddechaaTotals.lean).
  GIVEN WITH THE SEED: the statements are not yours to turn. If you find one false, say at which input.
  Laid BY PROGRAM, IN A SANDBOX (cutbox-rows.mjs): the forced cells as the released guide's own fill.sh prints them over the translation c395152980abe483… (all of the seat's roots in one cut). By AI agents, Wed Nov 11 2026. No macro, syntax, notation, axiom, sorry.
-/
import Derived.Test.YtoeenodhddechaaChecked
import GoSem.Claim
import GoSem.ClaimJoined
import GoSem.ClaimMapViews
import Derived.JoinedTies
import Derived.KernelRfl
namespace Go.Proofs.Ytoeenodhddechaa
/- THE CELL 'sum', in the pinned program and in every row, IS THE sha256 OF THE DUMP (.gsa) THAT YtoeenodhddechaaProg.lean LOADS. Nothing in Lean hashes anything: it is a label: what it is worth is what the hold of that sum in a sandbox is worth. -/
noncomputable def Try.pinned : Pinned := { name := "ytoeenodhddechaa", sum := "c395152980abe4833aeaad35024dbb40437ff745d669306999da4243895e8158", checked := Try.checked }
namespace Rows
def none {H : Type} : Left H := { results := [], args := [] }

/-- 'laws.FnConsistentPrecise': WHATEVER THE INPUT: true; the input reads as it did. -/
def fnConsistentPreciseSpec : ChangeSpec := { name := "fnConsistentPrecise", fn := fun _ => fun
  | [d1, d2] => { results := [.lit (.bool true)], args := [d1, d2] }
  | _ => none }
def fnConsistentPreciseRow : OpenClaim := { program := "ytoeenodhddechaa", sum := "c395152980abe4833aeaad35024dbb40437ff745d669306999da4243895e8158", func := "loop.example/gradual/laws.FnConsistentPrecise", spec := "fnConsistentPrecise", unfollowed := true, recurses := true, plainKeys := false, apart := false }
def FnConsistentPreciseSaid : Prop := fnConsistentPreciseRow.holds Try.pinned (OpenSpec.ofChange fnConsistentPreciseSpec)

/-- ITS FALSE NEIGHBOUR: 'it returns false'. Refute it at one input. -/
def fnConsistentPreciseWrong : ChangeSpec := { name := "fnConsistentPrecise", fn := fun _ => fun
  | [d1, d2] => { results := [.lit (.bool false)], args := [d1, d2] }
  | _ => none }
def FnConsistentPreciseWrongFalsely : Prop := fnConsistentPreciseRow.holds Try.pinned (OpenSpec.ofChange fnConsistentPreciseWrong)

/-- 'laws.FnExactTypeValid': WHATEVER THE INPUT: true; the input reads as it did. -/
def fnExactTypeValidSpec : ChangeSpec := { name := "fnExactTypeValid", fn := fun _ => fun
  | [d] => { results := [.lit (.bool true)], args := [d] }
  | _ => none }
def fnExactTypeValidRow : OpenClaim := { program := "ytoeenodhddechaa", sum := "c395152980abe4833aeaad35024dbb40437ff745d669306999da4243895e8158", func := "loop.example/gradual/laws.FnExactTypeValid", spec := "fnExactTypeValid", recurses := true, loops := true, plainKeys := false, apart := false }
def FnExactTypeValidSaid : Prop := fnExactTypeValidRow.holds Try.pinned (OpenSpec.ofChange fnExactTypeValidSpec)

/-- ITS FALSE NEIGHBOUR: 'it returns false'. Refute it at one input. -/
def fnExactTypeValidWrong : ChangeSpec := { name := "fnExactTypeValid", fn := fun _ => fun
  | [d] => { results := [.lit (.bool false)], args := [d] }
  | _ => none }
def FnExactTypeValidWrongFalsely : Prop := fnExactTypeValidRow.holds Try.pinned (OpenSpec.ofChange fnExactTypeValidWrong)

/-- 'laws.FnExactTypeSame': WHATEVER THE INPUT: true; the input reads as it did. -/
def fnExactTypeSameSpec : ChangeSpec := { name := "fnExactTypeSame", fn := fun _ => fun
  | [d1, d2] => { results := [.lit (.bool true)], args := [d1, d2] }
  | _ => none }
def fnExactTypeSameRow : OpenClaim := { program := "ytoeenodhddechaa", sum := "c395152980abe4833aeaad35024dbb40437ff745d669306999da4243895e8158", func := "loop.example/gradual/laws.FnExactTypeSame", spec := "fnExactTypeSame", recurses := true, loops := true, plainKeys := false, apart := false }
def FnExactTypeSameSaid : Prop := fnExactTypeSameRow.holds Try.pinned (OpenSpec.ofChange fnExactTypeSameSpec)

/-- ITS FALSE NEIGHBOUR: 'it returns false'. Refute it at one input. -/
def fnExactTypeSameWrong : ChangeSpec := { name := "fnExactTypeSame", fn := fun _ => fun
  | [d1, d2] => { results := [.lit (.bool false)], args := [d1, d2] }
  | _ => none }
def FnExactTypeSameWrongFalsely : Prop := fnExactTypeSameRow.holds Try.pinned (OpenSpec.ofChange fnExactTypeSameWrong)

/-- 'laws.FnExactFormatType': WHATEVER THE INPUT: true; the input reads as it did. -/
def fnExactFormatTypeSpec : ChangeSpec := { name := "fnExactFormatType", fn := fun _ => fun
  | [d] => { results := [.lit (.bool true)], args := [d] }
  | _ => none }
def fnExactFormatTypeRow : OpenClaim := { program := "ytoeenodhddechaa", sum := "c395152980abe4833aeaad35024dbb40437ff745d669306999da4243895e8158", func := "loop.example/gradual/laws.FnExactFormatType", spec := "fnExactFormatType", inPlace := ["internal/abi.NoEscape"], recurses := true, loops := true, plainKeys := false, apart := false }
def FnExactFormatTypeSaid : Prop := fnExactFormatTypeRow.holds Try.pinned (OpenSpec.ofChange fnExactFormatTypeSpec)

/-- ITS FALSE NEIGHBOUR: 'it returns false'. Refute it at one input. -/
def fnExactFormatTypeWrong : ChangeSpec := { name := "fnExactFormatType", fn := fun _ => fun
  | [d] => { results := [.lit (.bool false)], args := [d] }
  | _ => none }
def FnExactFormatTypeWrongFalsely : Prop := fnExactFormatTypeRow.holds Try.pinned (OpenSpec.ofChange fnExactFormatTypeWrong)

/-- 'laws.FnExactParseType': WHATEVER THE INPUT: true; the input reads as it did. -/
def fnExactParseTypeSpec : ChangeSpec := { name := "fnExactParseType", fn := fun _ => fun
  | [d] => { results := [.lit (.bool true)], args := [d] }
  | _ => none }
def fnExactParseTypeRow : OpenClaim := { program := "ytoeenodhddechaa", sum := "c395152980abe4833aeaad35024dbb40437ff745d669306999da4243895e8158", func := "loop.example/gradual/laws.FnExactParseType", spec := "fnExactParseType", inPlace := ["internal/bytealg.IndexByteString"], recurses := true, plainKeys := false, apart := false }
def FnExactParseTypeSaid : Prop := fnExactParseTypeRow.holds Try.pinned (OpenSpec.ofChange fnExactParseTypeSpec)

/-- ITS FALSE NEIGHBOUR: 'it returns false'. Refute it at one input. -/
def fnExactParseTypeWrong : ChangeSpec := { name := "fnExactParseType", fn := fun _ => fun
  | [d] => { results := [.lit (.bool false)], args := [d] }
  | _ => none }
def FnExactParseTypeWrongFalsely : Prop := fnExactParseTypeRow.holds Try.pinned (OpenSpec.ofChange fnExactParseTypeWrong)

/-- 'laws.FnExactConsistent': WHATEVER THE INPUT: true; the input reads as it did. -/
def fnExactConsistentSpec : ChangeSpec := { name := "fnExactConsistent", fn := fun _ => fun
  | [d1, d2] => { results := [.lit (.bool true)], args := [d1, d2] }
  | _ => none }
def fnExactConsistentRow : OpenClaim := { program := "ytoeenodhddechaa", sum := "c395152980abe4833aeaad35024dbb40437ff745d669306999da4243895e8158", func := "loop.example/gradual/laws.FnExactConsistent", spec := "fnExactConsistent", unfollowed := true, recurses := true, loops := true, plainKeys := false, apart := false }
def FnExactConsistentSaid : Prop := fnExactConsistentRow.holds Try.pinned (OpenSpec.ofChange fnExactConsistentSpec)

/-- ITS FALSE NEIGHBOUR: 'it returns false'. Refute it at one input. -/
def fnExactConsistentWrong : ChangeSpec := { name := "fnExactConsistent", fn := fun _ => fun
  | [d1, d2] => { results := [.lit (.bool false)], args := [d1, d2] }
  | _ => none }
def FnExactConsistentWrongFalsely : Prop := fnExactConsistentRow.holds Try.pinned (OpenSpec.ofChange fnExactConsistentWrong)

/-- 'laws.FnExactPrecise': WHATEVER THE INPUT: true; the input reads as it did. -/
def fnExactPreciseSpec : ChangeSpec := { name := "fnExactPrecise", fn := fun _ => fun
  | [d1, d2] => { results := [.lit (.bool true)], args := [d1, d2] }
  | _ => none }
def fnExactPreciseRow : OpenClaim := { program := "ytoeenodhddechaa", sum := "c395152980abe4833aeaad35024dbb40437ff745d669306999da4243895e8158", func := "loop.example/gradual/laws.FnExactPrecise", spec := "fnExactPrecise", unfollowed := true, recurses := true, loops := true, plainKeys := false, apart := false }
def FnExactPreciseSaid : Prop := fnExactPreciseRow.holds Try.pinned (OpenSpec.ofChange fnExactPreciseSpec)

/-- ITS FALSE NEIGHBOUR: 'it returns false'. Refute it at one input. -/
def fnExactPreciseWrong : ChangeSpec := { name := "fnExactPrecise", fn := fun _ => fun
  | [d1, d2] => { results := [.lit (.bool false)], args := [d1, d2] }
  | _ => none }
def FnExactPreciseWrongFalsely : Prop := fnExactPreciseRow.holds Try.pinned (OpenSpec.ofChange fnExactPreciseWrong)

/-- 'laws.FnExactMeetTypes': WHATEVER THE INPUT: true; the input reads as it did. -/
def fnExactMeetTypesSpec : ChangeSpec := { name := "fnExactMeetTypes", fn := fun _ => fun
  | [d1, d2] => { results := [.lit (.bool true)], args := [d1, d2] }
  | _ => none }
def fnExactMeetTypesRow : OpenClaim := { program := "ytoeenodhddechaa", sum := "c395152980abe4833aeaad35024dbb40437ff745d669306999da4243895e8158", func := "loop.example/gradual/laws.FnExactMeetTypes", spec := "fnExactMeetTypes", unfollowed := true, recurses := true, loops := true, plainKeys := false, apart := false }
def FnExactMeetTypesSaid : Prop := fnExactMeetTypesRow.holds Try.pinned (OpenSpec.ofChange fnExactMeetTypesSpec)

/-- ITS FALSE NEIGHBOUR: 'it returns false'. Refute it at one input. -/
def fnExactMeetTypesWrong : ChangeSpec := { name := "fnExactMeetTypes", fn := fun _ => fun
  | [d1, d2] => { results := [.lit (.bool false)], args := [d1, d2] }
  | _ => none }
def FnExactMeetTypesWrongFalsely : Prop := fnExactMeetTypesRow.holds Try.pinned (OpenSpec.ofChange fnExactMeetTypesWrong)

/-- 'laws.FnExactJoinTypes': WHATEVER THE INPUT: true; the input reads as it did. -/
def fnExactJoinTypesSpec : ChangeSpec := { name := "fnExactJoinTypes", fn := fun _ => fun
  | [d1, d2] => { results := [.lit (.bool true)], args := [d1, d2] }
  | _ => none }
def fnExactJoinTypesRow : OpenClaim := { program := "ytoeenodhddechaa", sum := "c395152980abe4833aeaad35024dbb40437ff745d669306999da4243895e8158", func := "loop.example/gradual/laws.FnExactJoinTypes", spec := "fnExactJoinTypes", unfollowed := true, recurses := true, loops := true, plainKeys := false, apart := false }
def FnExactJoinTypesSaid : Prop := fnExactJoinTypesRow.holds Try.pinned (OpenSpec.ofChange fnExactJoinTypesSpec)

/-- ITS FALSE NEIGHBOUR: 'it returns false'. Refute it at one input. -/
def fnExactJoinTypesWrong : ChangeSpec := { name := "fnExactJoinTypes", fn := fun _ => fun
  | [d1, d2] => { results := [.lit (.bool false)], args := [d1, d2] }
  | _ => none }
def FnExactJoinTypesWrongFalsely : Prop := fnExactJoinTypesRow.holds Try.pinned (OpenSpec.ofChange fnExactJoinTypesWrong)

/-- 'laws.FnExactGroundOf': WHATEVER THE INPUT: true; the input reads as it did. -/
def fnExactGroundOfSpec : ChangeSpec := { name := "fnExactGroundOf", fn := fun _ => fun
  | [d] => { results := [.lit (.bool true)], args := [d] }
  | _ => none }
def fnExactGroundOfRow : OpenClaim := { program := "ytoeenodhddechaa", sum := "c395152980abe4833aeaad35024dbb40437ff745d669306999da4243895e8158", func := "loop.example/gradual/laws.FnExactGroundOf", spec := "fnExactGroundOf", recurses := true, loops := true, plainKeys := false, apart := false }
def FnExactGroundOfSaid : Prop := fnExactGroundOfRow.holds Try.pinned (OpenSpec.ofChange fnExactGroundOfSpec)

/-- ITS FALSE NEIGHBOUR: 'it returns false'. Refute it at one input. -/
def fnExactGroundOfWrong : ChangeSpec := { name := "fnExactGroundOf", fn := fun _ => fun
  | [d] => { results := [.lit (.bool false)], args := [d] }
  | _ => none }
def FnExactGroundOfWrongFalsely : Prop := fnExactGroundOfRow.holds Try.pinned (OpenSpec.ofChange fnExactGroundOfWrong)

/-- 'laws.FnExactIsStatic': WHATEVER THE INPUT: true; the input reads as it did. -/
def fnExactIsStaticSpec : ChangeSpec := { name := "fnExactIsStatic", fn := fun _ => fun
  | [d] => { results := [.lit (.bool true)], args := [d] }
  | _ => none }
def fnExactIsStaticRow : OpenClaim := { program := "ytoeenodhddechaa", sum := "c395152980abe4833aeaad35024dbb40437ff745d669306999da4243895e8158", func := "loop.example/gradual/laws.FnExactIsStatic", spec := "fnExactIsStatic", recurses := true, loops := true, plainKeys := false, apart := false }
def FnExactIsStaticSaid : Prop := fnExactIsStaticRow.holds Try.pinned (OpenSpec.ofChange fnExactIsStaticSpec)

/-- ITS FALSE NEIGHBOUR: 'it returns false'. Refute it at one input. -/
def fnExactIsStaticWrong : ChangeSpec := { name := "fnExactIsStatic", fn := fun _ => fun
  | [d] => { results := [.lit (.bool false)], args := [d] }
  | _ => none }
def FnExactIsStaticWrongFalsely : Prop := fnExactIsStaticRow.holds Try.pinned (OpenSpec.ofChange fnExactIsStaticWrong)

/-- 'laws.FnExactTypeDepth': WHATEVER THE INPUT: true; the input reads as it did. -/
def fnExactTypeDepthSpec : ChangeSpec := { name := "fnExactTypeDepth", fn := fun _ => fun
  | [d] => { results := [.lit (.bool true)], args := [d] }
  | _ => none }
def fnExactTypeDepthRow : OpenClaim := { program := "ytoeenodhddechaa", sum := "c395152980abe4833aeaad35024dbb40437ff745d669306999da4243895e8158", func := "loop.example/gradual/laws.FnExactTypeDepth", spec := "fnExactTypeDepth", recurses := true, loops := true, plainKeys := false, apart := false }
def FnExactTypeDepthSaid : Prop := fnExactTypeDepthRow.holds Try.pinned (OpenSpec.ofChange fnExactTypeDepthSpec)

/-- ITS FALSE NEIGHBOUR: 'it returns false'. Refute it at one input. -/
def fnExactTypeDepthWrong : ChangeSpec := { name := "fnExactTypeDepth", fn := fun _ => fun
  | [d] => { results := [.lit (.bool false)], args := [d] }
  | _ => none }
def FnExactTypeDepthWrongFalsely : Prop := fnExactTypeDepthRow.holds Try.pinned (OpenSpec.ofChange fnExactTypeDepthWrong)

/- THE SECOND FORM. 'bulk': how many values and letters a reading holds, each counted each time it is reached (what is shared counts as often as it is met; a slice's spare places count too). A statement '..UptoSaid' is the law's where the arguments, and the package variables that the reading takes, are together of bulk at most 1048576: NARROWER than '..Said'. Prove '..Said' where nothing that the law and all that it calls make is longer than what came in: it says more and counts as full. Else prove '..UptoSaid'. A law counts once. -/
mutual
def uptoBulk {H : Type} : DataW H → Nat
  | .lit (.string bytes) => bytes.length + 1
  | .lit _ => 1
  | .nil => 1
  | .ptr d => uptoBulk d + 1
  | .slice elems spare => uptoBulkAll elems + uptoBulkAll spare + 1
  | .agg parts => uptoBulkAll parts + 1
  | .iface _ d => uptoBulk d + 1
  | .map entries => uptoBulkEntries entries + 1
  | .held _ => 1
def uptoBulkAll {H : Type} : List (DataW H) → Nat
  | [] => 0
  | d :: r => uptoBulk d + uptoBulkAll r
def uptoBulkEntries {H : Type} : List (Lit × DataW H) → Nat
  | [] => 0
  | x :: r => uptoBulkEntry x + uptoBulkEntries r
def uptoBulkEntry {H : Type} : Lit × DataW H → Nat
  | (.string bytes, d) => bytes.length + uptoBulk d + 1
  | (_, d) => uptoBulk d + 1
 end
def uptoSmall : (H : Type) → List (DataW H) → Bool := fun _ ds => decide (uptoBulkAll ds ≤ 1048576)
def OpenSpec.upto (s : _root_.Go.ChangeSpec) : _root_.Go.OpenSpec := { _root_.Go.OpenSpec.ofChange s with cond := some uptoSmall }

/-- 'laws.FnConsistentPrecise', WHERE WHAT IT READS IS OF BULK AT MOST 1048576: true; the input reads as it did. -/
def fnConsistentPreciseUptoRow : OpenClaim := { program := "ytoeenodhddechaa", sum := "c395152980abe4833aeaad35024dbb40437ff745d669306999da4243895e8158", func := "loop.example/gradual/laws.FnConsistentPrecise", spec := "fnConsistentPrecise", unfollowed := true, recurses := true, plainKeys := false, apart := false, narrowed := true }
def FnConsistentPreciseUptoSaid : Prop := fnConsistentPreciseUptoRow.holds Try.pinned (OpenSpec.upto fnConsistentPreciseSpec)

/-- 'laws.FnExactTypeValid', WHERE WHAT IT READS IS OF BULK AT MOST 1048576: true; the input reads as it did. -/
def fnExactTypeValidUptoRow : OpenClaim := { program := "ytoeenodhddechaa", sum := "c395152980abe4833aeaad35024dbb40437ff745d669306999da4243895e8158", func := "loop.example/gradual/laws.FnExactTypeValid", spec := "fnExactTypeValid", recurses := true, loops := true, plainKeys := false, apart := false, narrowed := true }
def FnExactTypeValidUptoSaid : Prop := fnExactTypeValidUptoRow.holds Try.pinned (OpenSpec.upto fnExactTypeValidSpec)

/-- 'laws.FnExactTypeSame', WHERE WHAT IT READS IS OF BULK AT MOST 1048576: true; the input reads as it did. -/
def fnExactTypeSameUptoRow : OpenClaim := { program := "ytoeenodhddechaa", sum := "c395152980abe4833aeaad35024dbb40437ff745d669306999da4243895e8158", func := "loop.example/gradual/laws.FnExactTypeSame", spec := "fnExactTypeSame", recurses := true, loops := true, plainKeys := false, apart := false, narrowed := true }
def FnExactTypeSameUptoSaid : Prop := fnExactTypeSameUptoRow.holds Try.pinned (OpenSpec.upto fnExactTypeSameSpec)

/-- 'laws.FnExactFormatType', WHERE WHAT IT READS IS OF BULK AT MOST 1048576: true; the input reads as it did. -/
def fnExactFormatTypeUptoRow : OpenClaim := { program := "ytoeenodhddechaa", sum := "c395152980abe4833aeaad35024dbb40437ff745d669306999da4243895e8158", func := "loop.example/gradual/laws.FnExactFormatType", spec := "fnExactFormatType", inPlace := ["internal/abi.NoEscape"], recurses := true, loops := true, plainKeys := false, apart := false, narrowed := true }
def FnExactFormatTypeUptoSaid : Prop := fnExactFormatTypeUptoRow.holds Try.pinned (OpenSpec.upto fnExactFormatTypeSpec)

/-- 'laws.FnExactParseType', WHERE WHAT IT READS IS OF BULK AT MOST 1048576: true; the input reads as it did. -/
def fnExactParseTypeUptoRow : OpenClaim := { program := "ytoeenodhddechaa", sum := "c395152980abe4833aeaad35024dbb40437ff745d669306999da4243895e8158", func := "loop.example/gradual/laws.FnExactParseType", spec := "fnExactParseType", inPlace := ["internal/bytealg.IndexByteString"], recurses := true, plainKeys := false, apart := false, narrowed := true }
def FnExactParseTypeUptoSaid : Prop := fnExactParseTypeUptoRow.holds Try.pinned (OpenSpec.upto fnExactParseTypeSpec)

/-- 'laws.FnExactConsistent', WHERE WHAT IT READS IS OF BULK AT MOST 1048576: true; the input reads as it did. -/
def fnExactConsistentUptoRow : OpenClaim := { program := "ytoeenodhddechaa", sum := "c395152980abe4833aeaad35024dbb40437ff745d669306999da4243895e8158", func := "loop.example/gradual/laws.FnExactConsistent", spec := "fnExactConsistent", unfollowed := true, recurses := true, loops := true, plainKeys := false, apart := false, narrowed := true }
def FnExactConsistentUptoSaid : Prop := fnExactConsistentUptoRow.holds Try.pinned (OpenSpec.upto fnExactConsistentSpec)

/-- 'laws.FnExactPrecise', WHERE WHAT IT READS IS OF BULK AT MOST 1048576: true; the input reads as it did. -/
def fnExactPreciseUptoRow : OpenClaim := { program := "ytoeenodhddechaa", sum := "c395152980abe4833aeaad35024dbb40437ff745d669306999da4243895e8158", func := "loop.example/gradual/laws.FnExactPrecise", spec := "fnExactPrecise", unfollowed := true, recurses := true, loops := true, plainKeys := false, apart := false, narrowed := true }
def FnExactPreciseUptoSaid : Prop := fnExactPreciseUptoRow.holds Try.pinned (OpenSpec.upto fnExactPreciseSpec)

/-- 'laws.FnExactMeetTypes', WHERE WHAT IT READS IS OF BULK AT MOST 1048576: true; the input reads as it did. -/
def fnExactMeetTypesUptoRow : OpenClaim := { program := "ytoeenodhddechaa", sum := "c395152980abe4833aeaad35024dbb40437ff745d669306999da4243895e8158", func := "loop.example/gradual/laws.FnExactMeetTypes", spec := "fnExactMeetTypes", unfollowed := true, recurses := true, loops := true, plainKeys := false, apart := false, narrowed := true }
def FnExactMeetTypesUptoSaid : Prop := fnExactMeetTypesUptoRow.holds Try.pinned (OpenSpec.upto fnExactMeetTypesSpec)

/-- 'laws.FnExactJoinTypes', WHERE WHAT IT READS IS OF BULK AT MOST 1048576: true; the input reads as it did. -/
def fnExactJoinTypesUptoRow : OpenClaim := { program := "ytoeenodhddechaa", sum := "c395152980abe4833aeaad35024dbb40437ff745d669306999da4243895e8158", func := "loop.example/gradual/laws.FnExactJoinTypes", spec := "fnExactJoinTypes", unfollowed := true, recurses := true, loops := true, plainKeys := false, apart := false, narrowed := true }
def FnExactJoinTypesUptoSaid : Prop := fnExactJoinTypesUptoRow.holds Try.pinned (OpenSpec.upto fnExactJoinTypesSpec)

/-- 'laws.FnExactGroundOf', WHERE WHAT IT READS IS OF BULK AT MOST 1048576: true; the input reads as it did. -/
def fnExactGroundOfUptoRow : OpenClaim := { program := "ytoeenodhddechaa", sum := "c395152980abe4833aeaad35024dbb40437ff745d669306999da4243895e8158", func := "loop.example/gradual/laws.FnExactGroundOf", spec := "fnExactGroundOf", recurses := true, loops := true, plainKeys := false, apart := false, narrowed := true }
def FnExactGroundOfUptoSaid : Prop := fnExactGroundOfUptoRow.holds Try.pinned (OpenSpec.upto fnExactGroundOfSpec)

/-- 'laws.FnExactIsStatic', WHERE WHAT IT READS IS OF BULK AT MOST 1048576: true; the input reads as it did. -/
def fnExactIsStaticUptoRow : OpenClaim := { program := "ytoeenodhddechaa", sum := "c395152980abe4833aeaad35024dbb40437ff745d669306999da4243895e8158", func := "loop.example/gradual/laws.FnExactIsStatic", spec := "fnExactIsStatic", recurses := true, loops := true, plainKeys := false, apart := false, narrowed := true }
def FnExactIsStaticUptoSaid : Prop := fnExactIsStaticUptoRow.holds Try.pinned (OpenSpec.upto fnExactIsStaticSpec)

/-- 'laws.FnExactTypeDepth', WHERE WHAT IT READS IS OF BULK AT MOST 1048576: true; the input reads as it did. -/
def fnExactTypeDepthUptoRow : OpenClaim := { program := "ytoeenodhddechaa", sum := "c395152980abe4833aeaad35024dbb40437ff745d669306999da4243895e8158", func := "loop.example/gradual/laws.FnExactTypeDepth", spec := "fnExactTypeDepth", recurses := true, loops := true, plainKeys := false, apart := false, narrowed := true }
def FnExactTypeDepthUptoSaid : Prop := fnExactTypeDepthUptoRow.holds Try.pinned (OpenSpec.upto fnExactTypeDepthSpec)

end Rows
end Go.Proofs.Ytoeenodhddechaa
