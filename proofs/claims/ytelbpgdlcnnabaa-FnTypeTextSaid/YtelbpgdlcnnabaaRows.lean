/-
  No cell of these rows narrows 'for every input' (looked for: loops, veiled, ifaces, maps, wideKeys, modest, calm, conditions, laid).
  DERIVED. THE GIVEN ROWS OF THIS SEAT. 11 by the template 'for every input the law returns true; each argument reads behind the call as it read before'; 0 by the template 'total and deterministic' (their statements: YtelbpgdlcnnabaaTotals.lean).
  GIVEN WITH THE SEED: the statements are not yours to turn. If you find one false, say at which input.
  Laid BY PROGRAM, IN A SANDBOX (cutbox-rows.mjs): the forced cells as the released guide's own fill.sh prints them over the translation 81958e6120404df6… (all of the seat's roots in one cut). By AI agents, Wed Nov 11 2026. No macro, syntax, notation, axiom, sorry.
-/
import Derived.Test.YtelbpgdlcnnabaaChecked
import GoSem.Claim
import GoSem.ClaimJoined
import GoSem.ClaimMapViews
import Derived.JoinedTies
import Derived.KernelRfl
namespace Go.Proofs.Ytelbpgdlcnnabaa
/- THE CELL 'sum', in the pinned program and in every row, IS THE sha256 OF THE DUMP (.gsa) THAT YtelbpgdlcnnabaaProg.lean LOADS. Nothing in Lean hashes anything: it is a label: what it is worth is what the hold of that sum in a sandbox is worth. -/
noncomputable def Try.pinned : Pinned := { name := "ytelbpgdlcnnabaa", sum := "81958e6120404df693988fdf88518092f5bb05f77b9e4e9ef5fdcb15ecc2cb52", checked := Try.checked }
namespace Rows
def none {H : Type} : Left H := { results := [], args := [] }

/-- 'laws.FnMeetTypes': WHATEVER THE INPUT: true; the input reads as it did. -/
def fnMeetTypesSpec : ChangeSpec := { name := "fnMeetTypes", fn := fun _ => fun
  | [d1, d2] => { results := [.lit (.bool true)], args := [d1, d2] }
  | _ => none }
def fnMeetTypesRow : OpenClaim := { program := "ytelbpgdlcnnabaa", sum := "81958e6120404df693988fdf88518092f5bb05f77b9e4e9ef5fdcb15ecc2cb52", func := "loop.example/gradual/laws.FnMeetTypes", spec := "fnMeetTypes", unfollowed := true, recurses := true, plainKeys := false, apart := false }
def FnMeetTypesSaid : Prop := fnMeetTypesRow.holds Try.pinned (OpenSpec.ofChange fnMeetTypesSpec)

/-- ITS FALSE NEIGHBOUR: 'it returns false'. Refute it at one input. -/
def fnMeetTypesWrong : ChangeSpec := { name := "fnMeetTypes", fn := fun _ => fun
  | [d1, d2] => { results := [.lit (.bool false)], args := [d1, d2] }
  | _ => none }
def FnMeetTypesWrongFalsely : Prop := fnMeetTypesRow.holds Try.pinned (OpenSpec.ofChange fnMeetTypesWrong)

/-- 'laws.FnMeetLaws': WHATEVER THE INPUT: true; the input reads as it did. -/
def fnMeetLawsSpec : ChangeSpec := { name := "fnMeetLaws", fn := fun _ => fun
  | [d1, d2] => { results := [.lit (.bool true)], args := [d1, d2] }
  | _ => none }
def fnMeetLawsRow : OpenClaim := { program := "ytelbpgdlcnnabaa", sum := "81958e6120404df693988fdf88518092f5bb05f77b9e4e9ef5fdcb15ecc2cb52", func := "loop.example/gradual/laws.FnMeetLaws", spec := "fnMeetLaws", unfollowed := true, recurses := true, plainKeys := false, apart := false }
def FnMeetLawsSaid : Prop := fnMeetLawsRow.holds Try.pinned (OpenSpec.ofChange fnMeetLawsSpec)

/-- ITS FALSE NEIGHBOUR: 'it returns false'. Refute it at one input. -/
def fnMeetLawsWrong : ChangeSpec := { name := "fnMeetLaws", fn := fun _ => fun
  | [d1, d2] => { results := [.lit (.bool false)], args := [d1, d2] }
  | _ => none }
def FnMeetLawsWrongFalsely : Prop := fnMeetLawsRow.holds Try.pinned (OpenSpec.ofChange fnMeetLawsWrong)

/-- 'laws.FnJoinTypes': WHATEVER THE INPUT: true; the input reads as it did. -/
def fnJoinTypesSpec : ChangeSpec := { name := "fnJoinTypes", fn := fun _ => fun
  | [d1, d2] => { results := [.lit (.bool true)], args := [d1, d2] }
  | _ => none }
def fnJoinTypesRow : OpenClaim := { program := "ytelbpgdlcnnabaa", sum := "81958e6120404df693988fdf88518092f5bb05f77b9e4e9ef5fdcb15ecc2cb52", func := "loop.example/gradual/laws.FnJoinTypes", spec := "fnJoinTypes", unfollowed := true, recurses := true, plainKeys := false, apart := false }
def FnJoinTypesSaid : Prop := fnJoinTypesRow.holds Try.pinned (OpenSpec.ofChange fnJoinTypesSpec)

/-- ITS FALSE NEIGHBOUR: 'it returns false'. Refute it at one input. -/
def fnJoinTypesWrong : ChangeSpec := { name := "fnJoinTypes", fn := fun _ => fun
  | [d1, d2] => { results := [.lit (.bool false)], args := [d1, d2] }
  | _ => none }
def FnJoinTypesWrongFalsely : Prop := fnJoinTypesRow.holds Try.pinned (OpenSpec.ofChange fnJoinTypesWrong)

/-- 'laws.FnGroundOf': WHATEVER THE INPUT: true; the input reads as it did. -/
def fnGroundOfSpec : ChangeSpec := { name := "fnGroundOf", fn := fun _ => fun
  | [d1, d2] => { results := [.lit (.bool true)], args := [d1, d2] }
  | _ => none }
def fnGroundOfRow : OpenClaim := { program := "ytelbpgdlcnnabaa", sum := "81958e6120404df693988fdf88518092f5bb05f77b9e4e9ef5fdcb15ecc2cb52", func := "loop.example/gradual/laws.FnGroundOf", spec := "fnGroundOf", unfollowed := true, recurses := true, plainKeys := false, apart := false }
def FnGroundOfSaid : Prop := fnGroundOfRow.holds Try.pinned (OpenSpec.ofChange fnGroundOfSpec)

/-- ITS FALSE NEIGHBOUR: 'it returns false'. Refute it at one input. -/
def fnGroundOfWrong : ChangeSpec := { name := "fnGroundOf", fn := fun _ => fun
  | [d1, d2] => { results := [.lit (.bool false)], args := [d1, d2] }
  | _ => none }
def FnGroundOfWrongFalsely : Prop := fnGroundOfRow.holds Try.pinned (OpenSpec.ofChange fnGroundOfWrong)

/-- 'laws.FnIsStatic': WHATEVER THE INPUT: true; the input reads as it did. -/
def fnIsStaticSpec : ChangeSpec := { name := "fnIsStatic", fn := fun _ => fun
  | [d1, d2] => { results := [.lit (.bool true)], args := [d1, d2] }
  | _ => none }
def fnIsStaticRow : OpenClaim := { program := "ytelbpgdlcnnabaa", sum := "81958e6120404df693988fdf88518092f5bb05f77b9e4e9ef5fdcb15ecc2cb52", func := "loop.example/gradual/laws.FnIsStatic", spec := "fnIsStatic", unfollowed := true, recurses := true, plainKeys := false, apart := false }
def FnIsStaticSaid : Prop := fnIsStaticRow.holds Try.pinned (OpenSpec.ofChange fnIsStaticSpec)

/-- ITS FALSE NEIGHBOUR: 'it returns false'. Refute it at one input. -/
def fnIsStaticWrong : ChangeSpec := { name := "fnIsStatic", fn := fun _ => fun
  | [d1, d2] => { results := [.lit (.bool false)], args := [d1, d2] }
  | _ => none }
def FnIsStaticWrongFalsely : Prop := fnIsStaticRow.holds Try.pinned (OpenSpec.ofChange fnIsStaticWrong)

/-- 'laws.FnTypeParts': WHATEVER THE INPUT: true; the input reads as it did. -/
def fnTypePartsSpec : ChangeSpec := { name := "fnTypeParts", fn := fun _ => fun
  | [d1, d2] => { results := [.lit (.bool true)], args := [d1, d2] }
  | _ => none }
def fnTypePartsRow : OpenClaim := { program := "ytelbpgdlcnnabaa", sum := "81958e6120404df693988fdf88518092f5bb05f77b9e4e9ef5fdcb15ecc2cb52", func := "loop.example/gradual/laws.FnTypeParts", spec := "fnTypeParts", recurses := true, plainKeys := false, apart := false }
def FnTypePartsSaid : Prop := fnTypePartsRow.holds Try.pinned (OpenSpec.ofChange fnTypePartsSpec)

/-- ITS FALSE NEIGHBOUR: 'it returns false'. Refute it at one input. -/
def fnTypePartsWrong : ChangeSpec := { name := "fnTypeParts", fn := fun _ => fun
  | [d1, d2] => { results := [.lit (.bool false)], args := [d1, d2] }
  | _ => none }
def FnTypePartsWrongFalsely : Prop := fnTypePartsRow.holds Try.pinned (OpenSpec.ofChange fnTypePartsWrong)

/-- 'laws.FnTypeSame': WHATEVER THE INPUT: true; the input reads as it did. -/
def fnTypeSameSpec : ChangeSpec := { name := "fnTypeSame", fn := fun _ => fun
  | [d] => { results := [.lit (.bool true)], args := [d] }
  | _ => none }
def fnTypeSameRow : OpenClaim := { program := "ytelbpgdlcnnabaa", sum := "81958e6120404df693988fdf88518092f5bb05f77b9e4e9ef5fdcb15ecc2cb52", func := "loop.example/gradual/laws.FnTypeSame", spec := "fnTypeSame", inPlace := ["internal/abi.NoEscape"], unfollowed := true, recurses := true, plainKeys := false, apart := false }
def FnTypeSameSaid : Prop := fnTypeSameRow.holds Try.pinned (OpenSpec.ofChange fnTypeSameSpec)

/-- ITS FALSE NEIGHBOUR: 'it returns false'. Refute it at one input. -/
def fnTypeSameWrong : ChangeSpec := { name := "fnTypeSame", fn := fun _ => fun
  | [d] => { results := [.lit (.bool false)], args := [d] }
  | _ => none }
def FnTypeSameWrongFalsely : Prop := fnTypeSameRow.holds Try.pinned (OpenSpec.ofChange fnTypeSameWrong)

/-- 'laws.FnTypeText': WHATEVER THE INPUT: true; the input reads as it did. -/
def fnTypeTextSpec : ChangeSpec := { name := "fnTypeText", fn := fun _ => fun
  | [d1, d2] => { results := [.lit (.bool true)], args := [d1, d2] }
  | _ => none }
def fnTypeTextRow : OpenClaim := { program := "ytelbpgdlcnnabaa", sum := "81958e6120404df693988fdf88518092f5bb05f77b9e4e9ef5fdcb15ecc2cb52", func := "loop.example/gradual/laws.FnTypeText", spec := "fnTypeText", inPlace := ["internal/abi.NoEscape", "internal/bytealg.IndexByteString"], unfollowed := true, recurses := true, plainKeys := false, apart := false }
def FnTypeTextSaid : Prop := fnTypeTextRow.holds Try.pinned (OpenSpec.ofChange fnTypeTextSpec)

/-- ITS FALSE NEIGHBOUR: 'it returns false'. Refute it at one input. -/
def fnTypeTextWrong : ChangeSpec := { name := "fnTypeText", fn := fun _ => fun
  | [d1, d2] => { results := [.lit (.bool false)], args := [d1, d2] }
  | _ => none }
def FnTypeTextWrongFalsely : Prop := fnTypeTextRow.holds Try.pinned (OpenSpec.ofChange fnTypeTextWrong)

/-- 'laws.FnSubtype': WHATEVER THE INPUT: true; the input reads as it did. -/
def fnSubtypeSpec : ChangeSpec := { name := "fnSubtype", fn := fun _ => fun
  | [d] => { results := [.lit (.bool true)], args := [d] }
  | _ => none }
def fnSubtypeRow : OpenClaim := { program := "ytelbpgdlcnnabaa", sum := "81958e6120404df693988fdf88518092f5bb05f77b9e4e9ef5fdcb15ecc2cb52", func := "loop.example/gradual/laws.FnSubtype", spec := "fnSubtype", recurses := true, plainKeys := false, apart := false }
def FnSubtypeSaid : Prop := fnSubtypeRow.holds Try.pinned (OpenSpec.ofChange fnSubtypeSpec)

/-- ITS FALSE NEIGHBOUR: 'it returns false'. Refute it at one input. -/
def fnSubtypeWrong : ChangeSpec := { name := "fnSubtype", fn := fun _ => fun
  | [d] => { results := [.lit (.bool false)], args := [d] }
  | _ => none }
def FnSubtypeWrongFalsely : Prop := fnSubtypeRow.holds Try.pinned (OpenSpec.ofChange fnSubtypeWrong)

/-- 'laws.FnSubtypeBounds': WHATEVER THE INPUT: true; the input reads as it did. -/
def fnSubtypeBoundsSpec : ChangeSpec := { name := "fnSubtypeBounds", fn := fun _ => fun
  | [d] => { results := [.lit (.bool true)], args := [d] }
  | _ => none }
def fnSubtypeBoundsRow : OpenClaim := { program := "ytelbpgdlcnnabaa", sum := "81958e6120404df693988fdf88518092f5bb05f77b9e4e9ef5fdcb15ecc2cb52", func := "loop.example/gradual/laws.FnSubtypeBounds", spec := "fnSubtypeBounds", unfollowed := true, recurses := true, plainKeys := false, apart := false }
def FnSubtypeBoundsSaid : Prop := fnSubtypeBoundsRow.holds Try.pinned (OpenSpec.ofChange fnSubtypeBoundsSpec)

/-- ITS FALSE NEIGHBOUR: 'it returns false'. Refute it at one input. -/
def fnSubtypeBoundsWrong : ChangeSpec := { name := "fnSubtypeBounds", fn := fun _ => fun
  | [d] => { results := [.lit (.bool false)], args := [d] }
  | _ => none }
def FnSubtypeBoundsWrongFalsely : Prop := fnSubtypeBoundsRow.holds Try.pinned (OpenSpec.ofChange fnSubtypeBoundsWrong)

/-- 'laws.FnMatchTypes': WHATEVER THE INPUT: true; the input reads as it did. -/
def fnMatchTypesSpec : ChangeSpec := { name := "fnMatchTypes", fn := fun _ => fun
  | [d] => { results := [.lit (.bool true)], args := [d] }
  | _ => none }
def fnMatchTypesRow : OpenClaim := { program := "ytelbpgdlcnnabaa", sum := "81958e6120404df693988fdf88518092f5bb05f77b9e4e9ef5fdcb15ecc2cb52", func := "loop.example/gradual/laws.FnMatchTypes", spec := "fnMatchTypes", unfollowed := true, recurses := true, plainKeys := false, apart := false }
def FnMatchTypesSaid : Prop := fnMatchTypesRow.holds Try.pinned (OpenSpec.ofChange fnMatchTypesSpec)

/-- ITS FALSE NEIGHBOUR: 'it returns false'. Refute it at one input. -/
def fnMatchTypesWrong : ChangeSpec := { name := "fnMatchTypes", fn := fun _ => fun
  | [d] => { results := [.lit (.bool false)], args := [d] }
  | _ => none }
def FnMatchTypesWrongFalsely : Prop := fnMatchTypesRow.holds Try.pinned (OpenSpec.ofChange fnMatchTypesWrong)

/- THE SECOND FORM. 'bulk': how many values and letters a reading holds, each counted each time it is reached (what is shared counts as often as it is met; a slice's spare places count too). A statement '..UptoSaid' is the law's where the arguments, and the package variables that the reading takes, are together of bulk at most 1048576: NARROWER than '..Said'. Prove '..Said' where nothing that the law and all that it calls make is longer than what came in: it says more and counts as full. Else prove '..UptoSaid'. A law counts once. -/
mutual
def uptoBulk {H : Type} : DataW H → Nat
  | .lit (.string bytes) => bytes.length + 1
  | .lit _ => 1
  | .nil => 1
  | .ptr d => uptoBulk d + 1
  | .slice elems spare => uptoBulkAll elems + uptoBulkAll spare + 1
  | .agg parts => uptoBulkAll parts + 1
  | .iface _ d => uptoBulk d + 1
  | .map entries => uptoBulkEntries entries + 1
  | .held _ => 1
def uptoBulkAll {H : Type} : List (DataW H) → Nat
  | [] => 0
  | d :: r => uptoBulk d + uptoBulkAll r
def uptoBulkEntries {H : Type} : List (Lit × DataW H) → Nat
  | [] => 0
  | x :: r => uptoBulkEntry x + uptoBulkEntries r
def uptoBulkEntry {H : Type} : Lit × DataW H → Nat
  | (.string bytes, d) => bytes.length + uptoBulk d + 1
  | (_, d) => uptoBulk d + 1
 end
def uptoSmall : (H : Type) → List (DataW H) → Bool := fun _ ds => decide (uptoBulkAll ds ≤ 1048576)
def OpenSpec.upto (s : _root_.Go.ChangeSpec) : _root_.Go.OpenSpec := { _root_.Go.OpenSpec.ofChange s with cond := some uptoSmall }

/-- 'laws.FnMeetTypes', WHERE WHAT IT READS IS OF BULK AT MOST 1048576: true; the input reads as it did. -/
def fnMeetTypesUptoRow : OpenClaim := { program := "ytelbpgdlcnnabaa", sum := "81958e6120404df693988fdf88518092f5bb05f77b9e4e9ef5fdcb15ecc2cb52", func := "loop.example/gradual/laws.FnMeetTypes", spec := "fnMeetTypes", unfollowed := true, recurses := true, plainKeys := false, apart := false, narrowed := true }
def FnMeetTypesUptoSaid : Prop := fnMeetTypesUptoRow.holds Try.pinned (OpenSpec.upto fnMeetTypesSpec)

/-- 'laws.FnMeetLaws', WHERE WHAT IT READS IS OF BULK AT MOST 1048576: true; the input reads as it did. -/
def fnMeetLawsUptoRow : OpenClaim := { program := "ytelbpgdlcnnabaa", sum := "81958e6120404df693988fdf88518092f5bb05f77b9e4e9ef5fdcb15ecc2cb52", func := "loop.example/gradual/laws.FnMeetLaws", spec := "fnMeetLaws", unfollowed := true, recurses := true, plainKeys := false, apart := false, narrowed := true }
def FnMeetLawsUptoSaid : Prop := fnMeetLawsUptoRow.holds Try.pinned (OpenSpec.upto fnMeetLawsSpec)

/-- 'laws.FnJoinTypes', WHERE WHAT IT READS IS OF BULK AT MOST 1048576: true; the input reads as it did. -/
def fnJoinTypesUptoRow : OpenClaim := { program := "ytelbpgdlcnnabaa", sum := "81958e6120404df693988fdf88518092f5bb05f77b9e4e9ef5fdcb15ecc2cb52", func := "loop.example/gradual/laws.FnJoinTypes", spec := "fnJoinTypes", unfollowed := true, recurses := true, plainKeys := false, apart := false, narrowed := true }
def FnJoinTypesUptoSaid : Prop := fnJoinTypesUptoRow.holds Try.pinned (OpenSpec.upto fnJoinTypesSpec)

/-- 'laws.FnGroundOf', WHERE WHAT IT READS IS OF BULK AT MOST 1048576: true; the input reads as it did. -/
def fnGroundOfUptoRow : OpenClaim := { program := "ytelbpgdlcnnabaa", sum := "81958e6120404df693988fdf88518092f5bb05f77b9e4e9ef5fdcb15ecc2cb52", func := "loop.example/gradual/laws.FnGroundOf", spec := "fnGroundOf", unfollowed := true, recurses := true, plainKeys := false, apart := false, narrowed := true }
def FnGroundOfUptoSaid : Prop := fnGroundOfUptoRow.holds Try.pinned (OpenSpec.upto fnGroundOfSpec)

/-- 'laws.FnIsStatic', WHERE WHAT IT READS IS OF BULK AT MOST 1048576: true; the input reads as it did. -/
def fnIsStaticUptoRow : OpenClaim := { program := "ytelbpgdlcnnabaa", sum := "81958e6120404df693988fdf88518092f5bb05f77b9e4e9ef5fdcb15ecc2cb52", func := "loop.example/gradual/laws.FnIsStatic", spec := "fnIsStatic", unfollowed := true, recurses := true, plainKeys := false, apart := false, narrowed := true }
def FnIsStaticUptoSaid : Prop := fnIsStaticUptoRow.holds Try.pinned (OpenSpec.upto fnIsStaticSpec)

/-- 'laws.FnTypeParts', WHERE WHAT IT READS IS OF BULK AT MOST 1048576: true; the input reads as it did. -/
def fnTypePartsUptoRow : OpenClaim := { program := "ytelbpgdlcnnabaa", sum := "81958e6120404df693988fdf88518092f5bb05f77b9e4e9ef5fdcb15ecc2cb52", func := "loop.example/gradual/laws.FnTypeParts", spec := "fnTypeParts", recurses := true, plainKeys := false, apart := false, narrowed := true }
def FnTypePartsUptoSaid : Prop := fnTypePartsUptoRow.holds Try.pinned (OpenSpec.upto fnTypePartsSpec)

/-- 'laws.FnTypeSame', WHERE WHAT IT READS IS OF BULK AT MOST 1048576: true; the input reads as it did. -/
def fnTypeSameUptoRow : OpenClaim := { program := "ytelbpgdlcnnabaa", sum := "81958e6120404df693988fdf88518092f5bb05f77b9e4e9ef5fdcb15ecc2cb52", func := "loop.example/gradual/laws.FnTypeSame", spec := "fnTypeSame", inPlace := ["internal/abi.NoEscape"], unfollowed := true, recurses := true, plainKeys := false, apart := false, narrowed := true }
def FnTypeSameUptoSaid : Prop := fnTypeSameUptoRow.holds Try.pinned (OpenSpec.upto fnTypeSameSpec)

/-- 'laws.FnTypeText', WHERE WHAT IT READS IS OF BULK AT MOST 1048576: true; the input reads as it did. -/
def fnTypeTextUptoRow : OpenClaim := { program := "ytelbpgdlcnnabaa", sum := "81958e6120404df693988fdf88518092f5bb05f77b9e4e9ef5fdcb15ecc2cb52", func := "loop.example/gradual/laws.FnTypeText", spec := "fnTypeText", inPlace := ["internal/abi.NoEscape", "internal/bytealg.IndexByteString"], unfollowed := true, recurses := true, plainKeys := false, apart := false, narrowed := true }
def FnTypeTextUptoSaid : Prop := fnTypeTextUptoRow.holds Try.pinned (OpenSpec.upto fnTypeTextSpec)

/-- 'laws.FnSubtype', WHERE WHAT IT READS IS OF BULK AT MOST 1048576: true; the input reads as it did. -/
def fnSubtypeUptoRow : OpenClaim := { program := "ytelbpgdlcnnabaa", sum := "81958e6120404df693988fdf88518092f5bb05f77b9e4e9ef5fdcb15ecc2cb52", func := "loop.example/gradual/laws.FnSubtype", spec := "fnSubtype", recurses := true, plainKeys := false, apart := false, narrowed := true }
def FnSubtypeUptoSaid : Prop := fnSubtypeUptoRow.holds Try.pinned (OpenSpec.upto fnSubtypeSpec)

/-- 'laws.FnSubtypeBounds', WHERE WHAT IT READS IS OF BULK AT MOST 1048576: true; the input reads as it did. -/
def fnSubtypeBoundsUptoRow : OpenClaim := { program := "ytelbpgdlcnnabaa", sum := "81958e6120404df693988fdf88518092f5bb05f77b9e4e9ef5fdcb15ecc2cb52", func := "loop.example/gradual/laws.FnSubtypeBounds", spec := "fnSubtypeBounds", unfollowed := true, recurses := true, plainKeys := false, apart := false, narrowed := true }
def FnSubtypeBoundsUptoSaid : Prop := fnSubtypeBoundsUptoRow.holds Try.pinned (OpenSpec.upto fnSubtypeBoundsSpec)

/-- 'laws.FnMatchTypes', WHERE WHAT IT READS IS OF BULK AT MOST 1048576: true; the input reads as it did. -/
def fnMatchTypesUptoRow : OpenClaim := { program := "ytelbpgdlcnnabaa", sum := "81958e6120404df693988fdf88518092f5bb05f77b9e4e9ef5fdcb15ecc2cb52", func := "loop.example/gradual/laws.FnMatchTypes", spec := "fnMatchTypes", unfollowed := true, recurses := true, plainKeys := false, apart := false, narrowed := true }
def FnMatchTypesUptoSaid : Prop := fnMatchTypesUptoRow.holds Try.pinned (OpenSpec.upto fnMatchTypesSpec)

end Rows
end Go.Proofs.Ytelbpgdlcnnabaa
