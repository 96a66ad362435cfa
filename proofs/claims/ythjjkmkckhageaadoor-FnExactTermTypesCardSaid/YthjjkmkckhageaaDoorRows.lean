/-
  NARROWER THAN 'FOR EVERY INPUT', by the rows' own cells (each row's printed sentence says how): FnSubstTwice: laid · FnEraseTerm: laid · FnExactTermValid: loops, laid · FnExactFormatTerm: loops, laid · FnExactParseTerm: laid · FnExactFreeNames: loops, laid · FnExactSubstTerm: loops, laid · FnExactEraseTerm: loops, laid · FnExactCountNodes: loops, laid · FnExactTermTypes: loops, laid · FnExactWithTypes: loops, laid.
  DERIVED. THE GIVEN ROWS OF THIS SEAT. 11 by the template 'for every input the law returns true; each argument reads behind the call as it read before'; 0 by the template 'total and deterministic' (their statements: YthjjkmkckhageaaDoorTotals.lean).
  GIVEN WITH THE SEED: the statements are not yours to turn. If you find one false, say at which input.
  Laid BY PROGRAM, IN A SANDBOX (cutbox-rows.mjs): the forced cells as the released guide's own fill.sh prints them over the translation d43338452012350d… (all of the seat's roots in one cut). By AI agents, Wed Nov 11 2026. No macro, syntax, notation, axiom, sorry.
-/
import Derived.Test.YthjjkmkckhageaaDoorChecked
import GoSem.Claim
import GoSem.ClaimJoined
import GoSem.ClaimMapViews
import Derived.JoinedTies
import Derived.KernelRfl
namespace Go.Proofs.YthjjkmkckhageaaDoor
/- THE CELL 'sum', in the pinned program and in every row, IS THE sha256 OF THE DUMP (.gsa) THAT YthjjkmkckhageaaDoorProg.lean LOADS. Nothing in Lean hashes anything: it is a label: what it is worth is what the hold of that sum in a sandbox is worth. -/
noncomputable def Tryd.pinned : Pinned := { name := "ythjjkmkckhageaadoor", sum := "d43338452012350d52e9b2fc0a1c8f7db696193b31e6c44941e80673f9967a93", checked := Tryd.checked }
namespace Rows
def none {H : Type} : Left H := { results := [], args := [] }

/- WHAT THE LISTED PACKAGE-LEVEL VARIABLES READ AS WHEN THE CALL BEGINS. Each datum BY PROGRAM (the guide's laid-datum.mjs) off the statement by which the dump's own 'gosem.cut.vars' lays the variable. In a bare row this is a premise. The card (YthjjkmkckhageaaDoorCards.lean) ties it to the program's text. -/
def laid_loop_example_gradual_impl_termForms {H : Type} : DataW H := .agg [.lit (.string []), .lit (.string [110]), .lit (.string [100]), .lit (.string [84]), .lit (.string [70]), .lit (.string [33, 110, 58, 116, 46, 65]), .lit (.string [40, 65, 32, 66, 41]), .lit (.string [40, 65, 43, 66, 41]), .lit (.string [40, 65, 60, 66, 41]), .lit (.string [123, 65, 63, 66, 58, 67, 125]), .lit (.string [91, 65, 44, 66, 93]), .lit (.string [36, 65]), .lit (.string [37, 65]), .lit (.string [40, 65, 58, 116, 41])]
def laid_math_bits_deBruijn32tab {H : Type} : DataW H := .agg [.lit (.int .u8 0), .lit (.int .u8 1), .lit (.int .u8 28), .lit (.int .u8 2), .lit (.int .u8 29), .lit (.int .u8 14), .lit (.int .u8 24), .lit (.int .u8 3), .lit (.int .u8 30), .lit (.int .u8 22), .lit (.int .u8 20), .lit (.int .u8 15), .lit (.int .u8 25), .lit (.int .u8 17), .lit (.int .u8 4), .lit (.int .u8 8), .lit (.int .u8 31), .lit (.int .u8 27), .lit (.int .u8 13), .lit (.int .u8 23), .lit (.int .u8 21), .lit (.int .u8 19), .lit (.int .u8 16), .lit (.int .u8 7), .lit (.int .u8 26), .lit (.int .u8 12), .lit (.int .u8 18), .lit (.int .u8 6), .lit (.int .u8 11), .lit (.int .u8 5), .lit (.int .u8 10), .lit (.int .u8 9)]
def laid_math_bits_deBruijn64tab {H : Type} : DataW H := .agg [.lit (.int .u8 0), .lit (.int .u8 1), .lit (.int .u8 56), .lit (.int .u8 2), .lit (.int .u8 57), .lit (.int .u8 49), .lit (.int .u8 28), .lit (.int .u8 3), .lit (.int .u8 61), .lit (.int .u8 58), .lit (.int .u8 42), .lit (.int .u8 50), .lit (.int .u8 38), .lit (.int .u8 29), .lit (.int .u8 17), .lit (.int .u8 4), .lit (.int .u8 62), .lit (.int .u8 47), .lit (.int .u8 59), .lit (.int .u8 36), .lit (.int .u8 45), .lit (.int .u8 43), .lit (.int .u8 51), .lit (.int .u8 22), .lit (.int .u8 53), .lit (.int .u8 39), .lit (.int .u8 33), .lit (.int .u8 30), .lit (.int .u8 24), .lit (.int .u8 18), .lit (.int .u8 12), .lit (.int .u8 5), .lit (.int .u8 63), .lit (.int .u8 55), .lit (.int .u8 48), .lit (.int .u8 27), .lit (.int .u8 60), .lit (.int .u8 41), .lit (.int .u8 37), .lit (.int .u8 16), .lit (.int .u8 46), .lit (.int .u8 35), .lit (.int .u8 44), .lit (.int .u8 21), .lit (.int .u8 52), .lit (.int .u8 32), .lit (.int .u8 23), .lit (.int .u8 11), .lit (.int .u8 54), .lit (.int .u8 26), .lit (.int .u8 40), .lit (.int .u8 15), .lit (.int .u8 34), .lit (.int .u8 20), .lit (.int .u8 31), .lit (.int .u8 10), .lit (.int .u8 25), .lit (.int .u8 14), .lit (.int .u8 19), .lit (.int .u8 9), .lit (.int .u8 13), .lit (.int .u8 8), .lit (.int .u8 7), .lit (.int .u8 6)]
def laid_internal_strconv_uint64pow10 {H : Type} : DataW H := .agg [.lit (.int .u64 1), .lit (.int .u64 10), .lit (.int .u64 100), .lit (.int .u64 1000), .lit (.int .u64 10000), .lit (.int .u64 100000), .lit (.int .u64 1000000), .lit (.int .u64 10000000), .lit (.int .u64 100000000), .lit (.int .u64 1000000000), .lit (.int .u64 10000000000), .lit (.int .u64 100000000000), .lit (.int .u64 1000000000000), .lit (.int .u64 10000000000000), .lit (.int .u64 100000000000000), .lit (.int .u64 1000000000000000), .lit (.int .u64 10000000000000000), .lit (.int .u64 100000000000000000), .lit (.int .u64 1000000000000000000), .lit (.int .u64 10000000000000000000)]

/-- 'laws.FnSubstTwice': WHATEVER THE INPUT: true; the input reads as it did. -/
def fnSubstTwiceSpec : ChangeSpec := { name := "fnSubstTwice", vars := ["loop.example/gradual/impl.termForms"], fn := fun _ => fun
  | [d1, d2, g1] => { results := [.lit (.bool true)], args := [d1, d2], vars := [g1] }
  | _ => none }
def fnSubstTwiceRow : OpenClaim := { program := "ythjjkmkckhageaadoor", sum := "d43338452012350d52e9b2fc0a1c8f7db696193b31e6c44941e80673f9967a93", func := "loop.example/gradual/laws.FnSubstTwice", spec := "fnSubstTwice", inPlace := ["internal/bytealg.IndexByteString", "internal/abi.NoEscape"], unfollowed := true, recurses := true, named := ["loop.example/gradual/impl.termForms"], plainKeys := false, apart := false, laid := [("loop.example/gradual/impl.termForms", laid_loop_example_gradual_impl_termForms)] }
def FnSubstTwiceSaid : Prop := fnSubstTwiceRow.holds Tryd.pinned (OpenSpec.ofChange fnSubstTwiceSpec)

/-- ITS FALSE NEIGHBOUR: 'it returns false'. Refute it at one input. -/
def fnSubstTwiceWrong : ChangeSpec := { name := "fnSubstTwice", vars := ["loop.example/gradual/impl.termForms"], fn := fun _ => fun
  | [d1, d2, g1] => { results := [.lit (.bool false)], args := [d1, d2], vars := [g1] }
  | _ => none }
def FnSubstTwiceWrongFalsely : Prop := fnSubstTwiceRow.holds Tryd.pinned (OpenSpec.ofChange fnSubstTwiceWrong)

/-- 'laws.FnEraseTerm': WHATEVER THE INPUT: true; the input reads as it did. -/
def fnEraseTermSpec : ChangeSpec := { name := "fnEraseTerm", vars := ["loop.example/gradual/impl.termForms"], fn := fun _ => fun
  | [d, g1] => { results := [.lit (.bool true)], args := [d], vars := [g1] }
  | _ => none }
def fnEraseTermRow : OpenClaim := { program := "ythjjkmkckhageaadoor", sum := "d43338452012350d52e9b2fc0a1c8f7db696193b31e6c44941e80673f9967a93", func := "loop.example/gradual/laws.FnEraseTerm", spec := "fnEraseTerm", inPlace := ["internal/bytealg.IndexByteString", "internal/abi.NoEscape"], unfollowed := true, recurses := true, named := ["loop.example/gradual/impl.termForms"], plainKeys := false, apart := false, laid := [("loop.example/gradual/impl.termForms", laid_loop_example_gradual_impl_termForms)] }
def FnEraseTermSaid : Prop := fnEraseTermRow.holds Tryd.pinned (OpenSpec.ofChange fnEraseTermSpec)

/-- ITS FALSE NEIGHBOUR: 'it returns false'. Refute it at one input. -/
def fnEraseTermWrong : ChangeSpec := { name := "fnEraseTerm", vars := ["loop.example/gradual/impl.termForms"], fn := fun _ => fun
  | [d, g1] => { results := [.lit (.bool false)], args := [d], vars := [g1] }
  | _ => none }
def FnEraseTermWrongFalsely : Prop := fnEraseTermRow.holds Tryd.pinned (OpenSpec.ofChange fnEraseTermWrong)

/-- 'laws.FnExactTermValid': WHATEVER THE INPUT: true; the input reads as it did. -/
def fnExactTermValidSpec : ChangeSpec := { name := "fnExactTermValid", vars := ["loop.example/gradual/impl.termForms"], fn := fun _ => fun
  | [d, g1] => { results := [.lit (.bool true)], args := [d], vars := [g1] }
  | _ => none }
def fnExactTermValidRow : OpenClaim := { program := "ythjjkmkckhageaadoor", sum := "d43338452012350d52e9b2fc0a1c8f7db696193b31e6c44941e80673f9967a93", func := "loop.example/gradual/laws.FnExactTermValid", spec := "fnExactTermValid", inPlace := ["internal/bytealg.IndexByteString"], recurses := true, named := ["loop.example/gradual/impl.termForms"], loops := true, plainKeys := false, apart := false, laid := [("loop.example/gradual/impl.termForms", laid_loop_example_gradual_impl_termForms)] }
def FnExactTermValidSaid : Prop := fnExactTermValidRow.holds Tryd.pinned (OpenSpec.ofChange fnExactTermValidSpec)

/-- ITS FALSE NEIGHBOUR: 'it returns false'. Refute it at one input. -/
def fnExactTermValidWrong : ChangeSpec := { name := "fnExactTermValid", vars := ["loop.example/gradual/impl.termForms"], fn := fun _ => fun
  | [d, g1] => { results := [.lit (.bool false)], args := [d], vars := [g1] }
  | _ => none }
def FnExactTermValidWrongFalsely : Prop := fnExactTermValidRow.holds Tryd.pinned (OpenSpec.ofChange fnExactTermValidWrong)

/-- 'laws.FnExactFormatTerm': WHATEVER THE INPUT: true; the input reads as it did. -/
def fnExactFormatTermSpec : ChangeSpec := { name := "fnExactFormatTerm", vars := ["loop.example/gradual/impl.termForms"], fn := fun _ => fun
  | [d, g1] => { results := [.lit (.bool true)], args := [d], vars := [g1] }
  | _ => none }
def fnExactFormatTermRow : OpenClaim := { program := "ythjjkmkckhageaadoor", sum := "d43338452012350d52e9b2fc0a1c8f7db696193b31e6c44941e80673f9967a93", func := "loop.example/gradual/laws.FnExactFormatTerm", spec := "fnExactFormatTerm", inPlace := ["internal/bytealg.IndexByteString", "internal/abi.NoEscape"], recurses := true, named := ["loop.example/gradual/impl.termForms", "internal/strconv.uint64pow10", "math/bits.deBruijn32tab", "math/bits.deBruijn64tab"], loops := true, plainKeys := false, apart := false, laid := [("math/bits.deBruijn32tab", laid_math_bits_deBruijn32tab), ("math/bits.deBruijn64tab", laid_math_bits_deBruijn64tab), ("internal/strconv.uint64pow10", laid_internal_strconv_uint64pow10), ("loop.example/gradual/impl.termForms", laid_loop_example_gradual_impl_termForms)] }
def FnExactFormatTermSaid : Prop := fnExactFormatTermRow.holds Tryd.pinned (OpenSpec.ofChange fnExactFormatTermSpec)

/-- ITS FALSE NEIGHBOUR: 'it returns false'. Refute it at one input. -/
def fnExactFormatTermWrong : ChangeSpec := { name := "fnExactFormatTerm", vars := ["loop.example/gradual/impl.termForms"], fn := fun _ => fun
  | [d, g1] => { results := [.lit (.bool false)], args := [d], vars := [g1] }
  | _ => none }
def FnExactFormatTermWrongFalsely : Prop := fnExactFormatTermRow.holds Tryd.pinned (OpenSpec.ofChange fnExactFormatTermWrong)

/-- 'laws.FnExactParseTerm': WHATEVER THE INPUT: true; the input reads as it did. -/
def fnExactParseTermSpec : ChangeSpec := { name := "fnExactParseTerm", vars := ["loop.example/gradual/impl.termForms"], fn := fun _ => fun
  | [d, g1] => { results := [.lit (.bool true)], args := [d], vars := [g1] }
  | _ => none }
def fnExactParseTermRow : OpenClaim := { program := "ythjjkmkckhageaadoor", sum := "d43338452012350d52e9b2fc0a1c8f7db696193b31e6c44941e80673f9967a93", func := "loop.example/gradual/laws.FnExactParseTerm", spec := "fnExactParseTerm", inPlace := ["internal/bytealg.IndexByteString"], recurses := true, named := ["loop.example/gradual/impl.termForms"], plainKeys := false, apart := false, laid := [("loop.example/gradual/impl.termForms", laid_loop_example_gradual_impl_termForms)] }
def FnExactParseTermSaid : Prop := fnExactParseTermRow.holds Tryd.pinned (OpenSpec.ofChange fnExactParseTermSpec)

/-- ITS FALSE NEIGHBOUR: 'it returns false'. Refute it at one input. -/
def fnExactParseTermWrong : ChangeSpec := { name := "fnExactParseTerm", vars := ["loop.example/gradual/impl.termForms"], fn := fun _ => fun
  | [d, g1] => { results := [.lit (.bool false)], args := [d], vars := [g1] }
  | _ => none }
def FnExactParseTermWrongFalsely : Prop := fnExactParseTermRow.holds Tryd.pinned (OpenSpec.ofChange fnExactParseTermWrong)

/-- 'laws.FnExactFreeNames': WHATEVER THE INPUT: true; the input reads as it did. -/
def fnExactFreeNamesSpec : ChangeSpec := { name := "fnExactFreeNames", vars := ["loop.example/gradual/impl.termForms"], fn := fun _ => fun
  | [d, g1] => { results := [.lit (.bool true)], args := [d], vars := [g1] }
  | _ => none }
def fnExactFreeNamesRow : OpenClaim := { program := "ythjjkmkckhageaadoor", sum := "d43338452012350d52e9b2fc0a1c8f7db696193b31e6c44941e80673f9967a93", func := "loop.example/gradual/laws.FnExactFreeNames", spec := "fnExactFreeNames", inPlace := ["internal/bytealg.IndexByteString", "internal/abi.NoEscape"], unfollowed := true, recurses := true, named := ["loop.example/gradual/impl.termForms"], loops := true, plainKeys := false, apart := false, laid := [("loop.example/gradual/impl.termForms", laid_loop_example_gradual_impl_termForms)] }
def FnExactFreeNamesSaid : Prop := fnExactFreeNamesRow.holds Tryd.pinned (OpenSpec.ofChange fnExactFreeNamesSpec)

/-- ITS FALSE NEIGHBOUR: 'it returns false'. Refute it at one input. -/
def fnExactFreeNamesWrong : ChangeSpec := { name := "fnExactFreeNames", vars := ["loop.example/gradual/impl.termForms"], fn := fun _ => fun
  | [d, g1] => { results := [.lit (.bool false)], args := [d], vars := [g1] }
  | _ => none }
def FnExactFreeNamesWrongFalsely : Prop := fnExactFreeNamesRow.holds Tryd.pinned (OpenSpec.ofChange fnExactFreeNamesWrong)

/-- 'laws.FnExactSubstTerm': WHATEVER THE INPUT: true; the input reads as it did. -/
def fnExactSubstTermSpec : ChangeSpec := { name := "fnExactSubstTerm", vars := ["loop.example/gradual/impl.termForms"], fn := fun _ => fun
  | [d1, d2, d3, g1] => { results := [.lit (.bool true)], args := [d1, d2, d3], vars := [g1] }
  | _ => none }
def fnExactSubstTermRow : OpenClaim := { program := "ythjjkmkckhageaadoor", sum := "d43338452012350d52e9b2fc0a1c8f7db696193b31e6c44941e80673f9967a93", func := "loop.example/gradual/laws.FnExactSubstTerm", spec := "fnExactSubstTerm", inPlace := ["internal/bytealg.IndexByteString", "internal/abi.NoEscape"], unfollowed := true, recurses := true, named := ["loop.example/gradual/impl.termForms"], loops := true, plainKeys := false, apart := false, laid := [("loop.example/gradual/impl.termForms", laid_loop_example_gradual_impl_termForms)] }
def FnExactSubstTermSaid : Prop := fnExactSubstTermRow.holds Tryd.pinned (OpenSpec.ofChange fnExactSubstTermSpec)

/-- ITS FALSE NEIGHBOUR: 'it returns false'. Refute it at one input. -/
def fnExactSubstTermWrong : ChangeSpec := { name := "fnExactSubstTerm", vars := ["loop.example/gradual/impl.termForms"], fn := fun _ => fun
  | [d1, d2, d3, g1] => { results := [.lit (.bool false)], args := [d1, d2, d3], vars := [g1] }
  | _ => none }
def FnExactSubstTermWrongFalsely : Prop := fnExactSubstTermRow.holds Tryd.pinned (OpenSpec.ofChange fnExactSubstTermWrong)

/-- 'laws.FnExactEraseTerm': WHATEVER THE INPUT: true; the input reads as it did. -/
def fnExactEraseTermSpec : ChangeSpec := { name := "fnExactEraseTerm", vars := ["loop.example/gradual/impl.termForms"], fn := fun _ => fun
  | [d, g1] => { results := [.lit (.bool true)], args := [d], vars := [g1] }
  | _ => none }
def fnExactEraseTermRow : OpenClaim := { program := "ythjjkmkckhageaadoor", sum := "d43338452012350d52e9b2fc0a1c8f7db696193b31e6c44941e80673f9967a93", func := "loop.example/gradual/laws.FnExactEraseTerm", spec := "fnExactEraseTerm", inPlace := ["internal/bytealg.IndexByteString"], unfollowed := true, recurses := true, named := ["loop.example/gradual/impl.termForms"], loops := true, plainKeys := false, apart := false, laid := [("loop.example/gradual/impl.termForms", laid_loop_example_gradual_impl_termForms)] }
def FnExactEraseTermSaid : Prop := fnExactEraseTermRow.holds Tryd.pinned (OpenSpec.ofChange fnExactEraseTermSpec)

/-- ITS FALSE NEIGHBOUR: 'it returns false'. Refute it at one input. -/
def fnExactEraseTermWrong : ChangeSpec := { name := "fnExactEraseTerm", vars := ["loop.example/gradual/impl.termForms"], fn := fun _ => fun
  | [d, g1] => { results := [.lit (.bool false)], args := [d], vars := [g1] }
  | _ => none }
def FnExactEraseTermWrongFalsely : Prop := fnExactEraseTermRow.holds Tryd.pinned (OpenSpec.ofChange fnExactEraseTermWrong)

/-- 'laws.FnExactCountNodes': WHATEVER THE INPUT: true; the input reads as it did. -/
def fnExactCountNodesSpec : ChangeSpec := { name := "fnExactCountNodes", vars := ["loop.example/gradual/impl.termForms"], fn := fun _ => fun
  | [d, g1] => { results := [.lit (.bool true)], args := [d], vars := [g1] }
  | _ => none }
def fnExactCountNodesRow : OpenClaim := { program := "ythjjkmkckhageaadoor", sum := "d43338452012350d52e9b2fc0a1c8f7db696193b31e6c44941e80673f9967a93", func := "loop.example/gradual/laws.FnExactCountNodes", spec := "fnExactCountNodes", inPlace := ["internal/bytealg.IndexByteString"], recurses := true, named := ["loop.example/gradual/impl.termForms"], loops := true, plainKeys := false, apart := false, laid := [("loop.example/gradual/impl.termForms", laid_loop_example_gradual_impl_termForms)] }
def FnExactCountNodesSaid : Prop := fnExactCountNodesRow.holds Tryd.pinned (OpenSpec.ofChange fnExactCountNodesSpec)

/-- ITS FALSE NEIGHBOUR: 'it returns false'. Refute it at one input. -/
def fnExactCountNodesWrong : ChangeSpec := { name := "fnExactCountNodes", vars := ["loop.example/gradual/impl.termForms"], fn := fun _ => fun
  | [d, g1] => { results := [.lit (.bool false)], args := [d], vars := [g1] }
  | _ => none }
def FnExactCountNodesWrongFalsely : Prop := fnExactCountNodesRow.holds Tryd.pinned (OpenSpec.ofChange fnExactCountNodesWrong)

/-- 'laws.FnExactTermTypes': WHATEVER THE INPUT: true; the input reads as it did. -/
def fnExactTermTypesSpec : ChangeSpec := { name := "fnExactTermTypes", vars := ["loop.example/gradual/impl.termForms"], fn := fun _ => fun
  | [d, g1] => { results := [.lit (.bool true)], args := [d], vars := [g1] }
  | _ => none }
def fnExactTermTypesRow : OpenClaim := { program := "ythjjkmkckhageaadoor", sum := "d43338452012350d52e9b2fc0a1c8f7db696193b31e6c44941e80673f9967a93", func := "loop.example/gradual/laws.FnExactTermTypes", spec := "fnExactTermTypes", inPlace := ["internal/bytealg.IndexByteString"], unfollowed := true, recurses := true, named := ["loop.example/gradual/impl.termForms"], loops := true, plainKeys := false, apart := false, laid := [("loop.example/gradual/impl.termForms", laid_loop_example_gradual_impl_termForms)] }
def FnExactTermTypesSaid : Prop := fnExactTermTypesRow.holds Tryd.pinned (OpenSpec.ofChange fnExactTermTypesSpec)

/-- ITS FALSE NEIGHBOUR: 'it returns false'. Refute it at one input. -/
def fnExactTermTypesWrong : ChangeSpec := { name := "fnExactTermTypes", vars := ["loop.example/gradual/impl.termForms"], fn := fun _ => fun
  | [d, g1] => { results := [.lit (.bool false)], args := [d], vars := [g1] }
  | _ => none }
def FnExactTermTypesWrongFalsely : Prop := fnExactTermTypesRow.holds Tryd.pinned (OpenSpec.ofChange fnExactTermTypesWrong)

/-- 'laws.FnExactWithTypes': WHATEVER THE INPUT: true; the input reads as it did. -/
def fnExactWithTypesSpec : ChangeSpec := { name := "fnExactWithTypes", vars := ["loop.example/gradual/impl.termForms"], fn := fun _ => fun
  | [d1, d2, g1] => { results := [.lit (.bool true)], args := [d1, d2], vars := [g1] }
  | _ => none }
def fnExactWithTypesRow : OpenClaim := { program := "ythjjkmkckhageaadoor", sum := "d43338452012350d52e9b2fc0a1c8f7db696193b31e6c44941e80673f9967a93", func := "loop.example/gradual/laws.FnExactWithTypes", spec := "fnExactWithTypes", inPlace := ["internal/bytealg.IndexByteString"], unfollowed := true, recurses := true, named := ["loop.example/gradual/impl.termForms"], loops := true, plainKeys := false, apart := false, laid := [("loop.example/gradual/impl.termForms", laid_loop_example_gradual_impl_termForms)] }
def FnExactWithTypesSaid : Prop := fnExactWithTypesRow.holds Tryd.pinned (OpenSpec.ofChange fnExactWithTypesSpec)

/-- ITS FALSE NEIGHBOUR: 'it returns false'. Refute it at one input. -/
def fnExactWithTypesWrong : ChangeSpec := { name := "fnExactWithTypes", vars := ["loop.example/gradual/impl.termForms"], fn := fun _ => fun
  | [d1, d2, g1] => { results := [.lit (.bool false)], args := [d1, d2], vars := [g1] }
  | _ => none }
def FnExactWithTypesWrongFalsely : Prop := fnExactWithTypesRow.holds Tryd.pinned (OpenSpec.ofChange fnExactWithTypesWrong)

/- THE SECOND FORM. 'bulk': how many values and letters a reading holds, each counted each time it is reached (what is shared counts as often as it is met; a slice's spare places count too). A statement '..UptoSaid' is the law's where the arguments, and the package variables that the reading takes, are together of bulk at most 1048576: NARROWER than '..Said'. Prove '..Said' where nothing that the law and all that it calls make is longer than what came in: it says more and counts as full. Else prove '..UptoSaid'. A law counts once. -/
mutual
def uptoBulk {H : Type} : DataW H → Nat
  | .lit (.string bytes) => bytes.length + 1
  | .lit _ => 1
  | .nil => 1
  | .ptr d => uptoBulk d + 1
  | .slice elems spare => uptoBulkAll elems + uptoBulkAll spare + 1
  | .agg parts => uptoBulkAll parts + 1
  | .iface _ d => uptoBulk d + 1
  | .map entries => uptoBulkEntries entries + 1
  | .held _ => 1
def uptoBulkAll {H : Type} : List (DataW H) → Nat
  | [] => 0
  | d :: r => uptoBulk d + uptoBulkAll r
def uptoBulkEntries {H : Type} : List (Lit × DataW H) → Nat
  | [] => 0
  | x :: r => uptoBulkEntry x + uptoBulkEntries r
def uptoBulkEntry {H : Type} : Lit × DataW H → Nat
  | (.string bytes, d) => bytes.length + uptoBulk d + 1
  | (_, d) => uptoBulk d + 1
 end
def uptoSmall : (H : Type) → List (DataW H) → Bool := fun _ ds => decide (uptoBulkAll ds ≤ 1048576)
def OpenSpec.upto (s : _root_.Go.ChangeSpec) : _root_.Go.OpenSpec := { _root_.Go.OpenSpec.ofChange s with cond := some uptoSmall }

/-- 'laws.FnSubstTwice', WHERE WHAT IT READS IS OF BULK AT MOST 1048576: true; the input reads as it did. -/
def fnSubstTwiceUptoRow : OpenClaim := { program := "ythjjkmkckhageaadoor", sum := "d43338452012350d52e9b2fc0a1c8f7db696193b31e6c44941e80673f9967a93", func := "loop.example/gradual/laws.FnSubstTwice", spec := "fnSubstTwice", inPlace := ["internal/bytealg.IndexByteString", "internal/abi.NoEscape"], unfollowed := true, recurses := true, named := ["loop.example/gradual/impl.termForms"], plainKeys := false, apart := false, laid := [("loop.example/gradual/impl.termForms", laid_loop_example_gradual_impl_termForms)], narrowed := true }
def FnSubstTwiceUptoSaid : Prop := fnSubstTwiceUptoRow.holds Tryd.pinned (OpenSpec.upto fnSubstTwiceSpec)

/-- 'laws.FnEraseTerm', WHERE WHAT IT READS IS OF BULK AT MOST 1048576: true; the input reads as it did. -/
def fnEraseTermUptoRow : OpenClaim := { program := "ythjjkmkckhageaadoor", sum := "d43338452012350d52e9b2fc0a1c8f7db696193b31e6c44941e80673f9967a93", func := "loop.example/gradual/laws.FnEraseTerm", spec := "fnEraseTerm", inPlace := ["internal/bytealg.IndexByteString", "internal/abi.NoEscape"], unfollowed := true, recurses := true, named := ["loop.example/gradual/impl.termForms"], plainKeys := false, apart := false, laid := [("loop.example/gradual/impl.termForms", laid_loop_example_gradual_impl_termForms)], narrowed := true }
def FnEraseTermUptoSaid : Prop := fnEraseTermUptoRow.holds Tryd.pinned (OpenSpec.upto fnEraseTermSpec)

/-- 'laws.FnExactTermValid', WHERE WHAT IT READS IS OF BULK AT MOST 1048576: true; the input reads as it did. -/
def fnExactTermValidUptoRow : OpenClaim := { program := "ythjjkmkckhageaadoor", sum := "d43338452012350d52e9b2fc0a1c8f7db696193b31e6c44941e80673f9967a93", func := "loop.example/gradual/laws.FnExactTermValid", spec := "fnExactTermValid", inPlace := ["internal/bytealg.IndexByteString"], recurses := true, named := ["loop.example/gradual/impl.termForms"], loops := true, plainKeys := false, apart := false, laid := [("loop.example/gradual/impl.termForms", laid_loop_example_gradual_impl_termForms)], narrowed := true }
def FnExactTermValidUptoSaid : Prop := fnExactTermValidUptoRow.holds Tryd.pinned (OpenSpec.upto fnExactTermValidSpec)

/-- 'laws.FnExactFormatTerm', WHERE WHAT IT READS IS OF BULK AT MOST 1048576: true; the input reads as it did. -/
def fnExactFormatTermUptoRow : OpenClaim := { program := "ythjjkmkckhageaadoor", sum := "d43338452012350d52e9b2fc0a1c8f7db696193b31e6c44941e80673f9967a93", func := "loop.example/gradual/laws.FnExactFormatTerm", spec := "fnExactFormatTerm", inPlace := ["internal/bytealg.IndexByteString", "internal/abi.NoEscape"], recurses := true, named := ["loop.example/gradual/impl.termForms", "internal/strconv.uint64pow10", "math/bits.deBruijn32tab", "math/bits.deBruijn64tab"], loops := true, plainKeys := false, apart := false, laid := [("math/bits.deBruijn32tab", laid_math_bits_deBruijn32tab), ("math/bits.deBruijn64tab", laid_math_bits_deBruijn64tab), ("internal/strconv.uint64pow10", laid_internal_strconv_uint64pow10), ("loop.example/gradual/impl.termForms", laid_loop_example_gradual_impl_termForms)], narrowed := true }
def FnExactFormatTermUptoSaid : Prop := fnExactFormatTermUptoRow.holds Tryd.pinned (OpenSpec.upto fnExactFormatTermSpec)

/-- 'laws.FnExactParseTerm', WHERE WHAT IT READS IS OF BULK AT MOST 1048576: true; the input reads as it did. -/
def fnExactParseTermUptoRow : OpenClaim := { program := "ythjjkmkckhageaadoor", sum := "d43338452012350d52e9b2fc0a1c8f7db696193b31e6c44941e80673f9967a93", func := "loop.example/gradual/laws.FnExactParseTerm", spec := "fnExactParseTerm", inPlace := ["internal/bytealg.IndexByteString"], recurses := true, named := ["loop.example/gradual/impl.termForms"], plainKeys := false, apart := false, laid := [("loop.example/gradual/impl.termForms", laid_loop_example_gradual_impl_termForms)], narrowed := true }
def FnExactParseTermUptoSaid : Prop := fnExactParseTermUptoRow.holds Tryd.pinned (OpenSpec.upto fnExactParseTermSpec)

/-- 'laws.FnExactFreeNames', WHERE WHAT IT READS IS OF BULK AT MOST 1048576: true; the input reads as it did. -/
def fnExactFreeNamesUptoRow : OpenClaim := { program := "ythjjkmkckhageaadoor", sum := "d43338452012350d52e9b2fc0a1c8f7db696193b31e6c44941e80673f9967a93", func := "loop.example/gradual/laws.FnExactFreeNames", spec := "fnExactFreeNames", inPlace := ["internal/bytealg.IndexByteString", "internal/abi.NoEscape"], unfollowed := true, recurses := true, named := ["loop.example/gradual/impl.termForms"], loops := true, plainKeys := false, apart := false, laid := [("loop.example/gradual/impl.termForms", laid_loop_example_gradual_impl_termForms)], narrowed := true }
def FnExactFreeNamesUptoSaid : Prop := fnExactFreeNamesUptoRow.holds Tryd.pinned (OpenSpec.upto fnExactFreeNamesSpec)

/-- 'laws.FnExactSubstTerm', WHERE WHAT IT READS IS OF BULK AT MOST 1048576: true; the input reads as it did. -/
def fnExactSubstTermUptoRow : OpenClaim := { program := "ythjjkmkckhageaadoor", sum := "d43338452012350d52e9b2fc0a1c8f7db696193b31e6c44941e80673f9967a93", func := "loop.example/gradual/laws.FnExactSubstTerm", spec := "fnExactSubstTerm", inPlace := ["internal/bytealg.IndexByteString", "internal/abi.NoEscape"], unfollowed := true, recurses := true, named := ["loop.example/gradual/impl.termForms"], loops := true, plainKeys := false, apart := false, laid := [("loop.example/gradual/impl.termForms", laid_loop_example_gradual_impl_termForms)], narrowed := true }
def FnExactSubstTermUptoSaid : Prop := fnExactSubstTermUptoRow.holds Tryd.pinned (OpenSpec.upto fnExactSubstTermSpec)

/-- 'laws.FnExactEraseTerm', WHERE WHAT IT READS IS OF BULK AT MOST 1048576: true; the input reads as it did. -/
def fnExactEraseTermUptoRow : OpenClaim := { program := "ythjjkmkckhageaadoor", sum := "d43338452012350d52e9b2fc0a1c8f7db696193b31e6c44941e80673f9967a93", func := "loop.example/gradual/laws.FnExactEraseTerm", spec := "fnExactEraseTerm", inPlace := ["internal/bytealg.IndexByteString"], unfollowed := true, recurses := true, named := ["loop.example/gradual/impl.termForms"], loops := true, plainKeys := false, apart := false, laid := [("loop.example/gradual/impl.termForms", laid_loop_example_gradual_impl_termForms)], narrowed := true }
def FnExactEraseTermUptoSaid : Prop := fnExactEraseTermUptoRow.holds Tryd.pinned (OpenSpec.upto fnExactEraseTermSpec)

/-- 'laws.FnExactCountNodes', WHERE WHAT IT READS IS OF BULK AT MOST 1048576: true; the input reads as it did. -/
def fnExactCountNodesUptoRow : OpenClaim := { program := "ythjjkmkckhageaadoor", sum := "d43338452012350d52e9b2fc0a1c8f7db696193b31e6c44941e80673f9967a93", func := "loop.example/gradual/laws.FnExactCountNodes", spec := "fnExactCountNodes", inPlace := ["internal/bytealg.IndexByteString"], recurses := true, named := ["loop.example/gradual/impl.termForms"], loops := true, plainKeys := false, apart := false, laid := [("loop.example/gradual/impl.termForms", laid_loop_example_gradual_impl_termForms)], narrowed := true }
def FnExactCountNodesUptoSaid : Prop := fnExactCountNodesUptoRow.holds Tryd.pinned (OpenSpec.upto fnExactCountNodesSpec)

/-- 'laws.FnExactTermTypes', WHERE WHAT IT READS IS OF BULK AT MOST 1048576: true; the input reads as it did. -/
def fnExactTermTypesUptoRow : OpenClaim := { program := "ythjjkmkckhageaadoor", sum := "d43338452012350d52e9b2fc0a1c8f7db696193b31e6c44941e80673f9967a93", func := "loop.example/gradual/laws.FnExactTermTypes", spec := "fnExactTermTypes", inPlace := ["internal/bytealg.IndexByteString"], unfollowed := true, recurses := true, named := ["loop.example/gradual/impl.termForms"], loops := true, plainKeys := false, apart := false, laid := [("loop.example/gradual/impl.termForms", laid_loop_example_gradual_impl_termForms)], narrowed := true }
def FnExactTermTypesUptoSaid : Prop := fnExactTermTypesUptoRow.holds Tryd.pinned (OpenSpec.upto fnExactTermTypesSpec)

/-- 'laws.FnExactWithTypes', WHERE WHAT IT READS IS OF BULK AT MOST 1048576: true; the input reads as it did. -/
def fnExactWithTypesUptoRow : OpenClaim := { program := "ythjjkmkckhageaadoor", sum := "d43338452012350d52e9b2fc0a1c8f7db696193b31e6c44941e80673f9967a93", func := "loop.example/gradual/laws.FnExactWithTypes", spec := "fnExactWithTypes", inPlace := ["internal/bytealg.IndexByteString"], unfollowed := true, recurses := true, named := ["loop.example/gradual/impl.termForms"], loops := true, plainKeys := false, apart := false, laid := [("loop.example/gradual/impl.termForms", laid_loop_example_gradual_impl_termForms)], narrowed := true }
def FnExactWithTypesUptoSaid : Prop := fnExactWithTypesUptoRow.holds Tryd.pinned (OpenSpec.upto fnExactWithTypesSpec)

end Rows
end Go.Proofs.YthjjkmkckhageaaDoor
