/-
  NARROWER THAN 'FOR EVERY INPUT', by the rows' own cells (each row's printed sentence says how): FnTermSame: laid · FnSubstTerm: laid · FnSubstTwice: laid · FnWithTypes: laid · FnEraseTerm: laid · FnFreeNames: laid · FnCountNodes: laid · FnSubstClosed: laid · FnTermParts: laid.
  DERIVED. THE GIVEN ROWS OF THIS SEAT. 9 by the template 'for every input the law returns true; each argument reads behind the call as it read before'; 0 by the template 'total and deterministic' (their statements: YtlkiiphnibideaaDoorTotals.lean).
  GIVEN WITH THE SEED: the statements are not yours to turn. If you find one false, say at which input.
  Laid BY PROGRAM, IN A SANDBOX (cutbox-rows.mjs): the forced cells as the released guide's own fill.sh prints them over the translation 46fdd76b399f51a5… (all of the seat's roots in one cut). By AI agents, Wed Nov 11 2026. No macro, syntax, notation, axiom, sorry.
-/
import Derived.Test.YtlkiiphnibideaaDoorChecked
import GoSem.Claim
import GoSem.ClaimJoined
import GoSem.ClaimMapViews
import Derived.JoinedTies
import Derived.KernelRfl
namespace Go.Proofs.YtlkiiphnibideaaDoor
/- THE CELL 'sum', in the pinned program and in every row, IS THE sha256 OF THE DUMP (.gsa) THAT YtlkiiphnibideaaDoorProg.lean LOADS. Nothing in Lean hashes anything: it is a label: what it is worth is what the hold of that sum in a sandbox is worth. -/
noncomputable def Tryd.pinned : Pinned := { name := "ytlkiiphnibideaadoor", sum := "46fdd76b399f51a5d4d67ebd3afcb418825dd176b88055968f0ecf2c781896ec", checked := Tryd.checked }
namespace Rows
def none {H : Type} : Left H := { results := [], args := [] }

/- WHAT THE LISTED PACKAGE-LEVEL VARIABLES READ AS WHEN THE CALL BEGINS. Each datum BY PROGRAM (the guide's laid-datum.mjs) off the statement by which the dump's own 'gosem.cut.vars' lays the variable. In a bare row this is a premise. The card (YtlkiiphnibideaaDoorCards.lean) ties it to the program's text. -/
def laid_math_bits_deBruijn32tab {H : Type} : DataW H := .agg [.lit (.int .u8 0), .lit (.int .u8 1), .lit (.int .u8 28), .lit (.int .u8 2), .lit (.int .u8 29), .lit (.int .u8 14), .lit (.int .u8 24), .lit (.int .u8 3), .lit (.int .u8 30), .lit (.int .u8 22), .lit (.int .u8 20), .lit (.int .u8 15), .lit (.int .u8 25), .lit (.int .u8 17), .lit (.int .u8 4), .lit (.int .u8 8), .lit (.int .u8 31), .lit (.int .u8 27), .lit (.int .u8 13), .lit (.int .u8 23), .lit (.int .u8 21), .lit (.int .u8 19), .lit (.int .u8 16), .lit (.int .u8 7), .lit (.int .u8 26), .lit (.int .u8 12), .lit (.int .u8 18), .lit (.int .u8 6), .lit (.int .u8 11), .lit (.int .u8 5), .lit (.int .u8 10), .lit (.int .u8 9)]
def laid_math_bits_deBruijn64tab {H : Type} : DataW H := .agg [.lit (.int .u8 0), .lit (.int .u8 1), .lit (.int .u8 56), .lit (.int .u8 2), .lit (.int .u8 57), .lit (.int .u8 49), .lit (.int .u8 28), .lit (.int .u8 3), .lit (.int .u8 61), .lit (.int .u8 58), .lit (.int .u8 42), .lit (.int .u8 50), .lit (.int .u8 38), .lit (.int .u8 29), .lit (.int .u8 17), .lit (.int .u8 4), .lit (.int .u8 62), .lit (.int .u8 47), .lit (.int .u8 59), .lit (.int .u8 36), .lit (.int .u8 45), .lit (.int .u8 43), .lit (.int .u8 51), .lit (.int .u8 22), .lit (.int .u8 53), .lit (.int .u8 39), .lit (.int .u8 33), .lit (.int .u8 30), .lit (.int .u8 24), .lit (.int .u8 18), .lit (.int .u8 12), .lit (.int .u8 5), .lit (.int .u8 63), .lit (.int .u8 55), .lit (.int .u8 48), .lit (.int .u8 27), .lit (.int .u8 60), .lit (.int .u8 41), .lit (.int .u8 37), .lit (.int .u8 16), .lit (.int .u8 46), .lit (.int .u8 35), .lit (.int .u8 44), .lit (.int .u8 21), .lit (.int .u8 52), .lit (.int .u8 32), .lit (.int .u8 23), .lit (.int .u8 11), .lit (.int .u8 54), .lit (.int .u8 26), .lit (.int .u8 40), .lit (.int .u8 15), .lit (.int .u8 34), .lit (.int .u8 20), .lit (.int .u8 31), .lit (.int .u8 10), .lit (.int .u8 25), .lit (.int .u8 14), .lit (.int .u8 19), .lit (.int .u8 9), .lit (.int .u8 13), .lit (.int .u8 8), .lit (.int .u8 7), .lit (.int .u8 6)]
def laid_internal_strconv_uint64pow10 {H : Type} : DataW H := .agg [.lit (.int .u64 1), .lit (.int .u64 10), .lit (.int .u64 100), .lit (.int .u64 1000), .lit (.int .u64 10000), .lit (.int .u64 100000), .lit (.int .u64 1000000), .lit (.int .u64 10000000), .lit (.int .u64 100000000), .lit (.int .u64 1000000000), .lit (.int .u64 10000000000), .lit (.int .u64 100000000000), .lit (.int .u64 1000000000000), .lit (.int .u64 10000000000000), .lit (.int .u64 100000000000000), .lit (.int .u64 1000000000000000), .lit (.int .u64 10000000000000000), .lit (.int .u64 100000000000000000), .lit (.int .u64 1000000000000000000), .lit (.int .u64 10000000000000000000)]
def laid_loop_example_gradual_impl_termForms {H : Type} : DataW H := .agg [.lit (.string []), .lit (.string [110]), .lit (.string [100]), .lit (.string [84]), .lit (.string [70]), .lit (.string [33, 110, 58, 116, 46, 65]), .lit (.string [40, 65, 32, 66, 41]), .lit (.string [40, 65, 43, 66, 41]), .lit (.string [40, 65, 60, 66, 41]), .lit (.string [123, 65, 63, 66, 58, 67, 125]), .lit (.string [91, 65, 44, 66, 93]), .lit (.string [36, 65]), .lit (.string [37, 65]), .lit (.string [40, 65, 58, 116, 41]), .lit (.string [40, 65, 58, 115, 126, 116, 35, 108, 41])]

/-- 'laws.FnTermSame': WHATEVER THE INPUT: true; the input reads as it did. -/
def fnTermSameSpec : ChangeSpec := { name := "fnTermSame", vars := ["loop.example/gradual/impl.termForms"], fn := fun _ => fun
  | [d, g1] => { results := [.lit (.bool true)], args := [d], vars := [g1] }
  | _ => none }
def fnTermSameRow : OpenClaim := { program := "ytlkiiphnibideaadoor", sum := "46fdd76b399f51a5d4d67ebd3afcb418825dd176b88055968f0ecf2c781896ec", func := "loop.example/gradual/laws.FnTermSame", spec := "fnTermSame", inPlace := ["internal/bytealg.IndexByteString", "internal/abi.NoEscape"], unfollowed := true, recurses := true, named := ["loop.example/gradual/impl.termForms", "internal/strconv.uint64pow10", "math/bits.deBruijn32tab", "math/bits.deBruijn64tab"], plainKeys := false, apart := false, laid := [("math/bits.deBruijn32tab", laid_math_bits_deBruijn32tab), ("math/bits.deBruijn64tab", laid_math_bits_deBruijn64tab), ("internal/strconv.uint64pow10", laid_internal_strconv_uint64pow10), ("loop.example/gradual/impl.termForms", laid_loop_example_gradual_impl_termForms)] }
def FnTermSameSaid : Prop := fnTermSameRow.holds Tryd.pinned (OpenSpec.ofChange fnTermSameSpec)

/-- ITS FALSE NEIGHBOUR: 'it returns false'. Refute it at one input. -/
def fnTermSameWrong : ChangeSpec := { name := "fnTermSame", vars := ["loop.example/gradual/impl.termForms"], fn := fun _ => fun
  | [d, g1] => { results := [.lit (.bool false)], args := [d], vars := [g1] }
  | _ => none }
def FnTermSameWrongFalsely : Prop := fnTermSameRow.holds Tryd.pinned (OpenSpec.ofChange fnTermSameWrong)

/-- 'laws.FnSubstTerm': WHATEVER THE INPUT: true; the input reads as it did. -/
def fnSubstTermSpec : ChangeSpec := { name := "fnSubstTerm", vars := ["loop.example/gradual/impl.termForms"], fn := fun _ => fun
  | [d, g1] => { results := [.lit (.bool true)], args := [d], vars := [g1] }
  | _ => none }
def fnSubstTermRow : OpenClaim := { program := "ytlkiiphnibideaadoor", sum := "46fdd76b399f51a5d4d67ebd3afcb418825dd176b88055968f0ecf2c781896ec", func := "loop.example/gradual/laws.FnSubstTerm", spec := "fnSubstTerm", inPlace := ["internal/bytealg.IndexByteString", "internal/abi.NoEscape"], unfollowed := true, recurses := true, named := ["loop.example/gradual/impl.termForms"], plainKeys := false, apart := false, laid := [("loop.example/gradual/impl.termForms", laid_loop_example_gradual_impl_termForms)] }
def FnSubstTermSaid : Prop := fnSubstTermRow.holds Tryd.pinned (OpenSpec.ofChange fnSubstTermSpec)

/-- ITS FALSE NEIGHBOUR: 'it returns false'. Refute it at one input. -/
def fnSubstTermWrong : ChangeSpec := { name := "fnSubstTerm", vars := ["loop.example/gradual/impl.termForms"], fn := fun _ => fun
  | [d, g1] => { results := [.lit (.bool false)], args := [d], vars := [g1] }
  | _ => none }
def FnSubstTermWrongFalsely : Prop := fnSubstTermRow.holds Tryd.pinned (OpenSpec.ofChange fnSubstTermWrong)

/-- 'laws.FnSubstTwice': WHATEVER THE INPUT: true; the input reads as it did. -/
def fnSubstTwiceSpec : ChangeSpec := { name := "fnSubstTwice", vars := ["loop.example/gradual/impl.termForms"], fn := fun _ => fun
  | [d1, d2, g1] => { results := [.lit (.bool true)], args := [d1, d2], vars := [g1] }
  | _ => none }
def fnSubstTwiceRow : OpenClaim := { program := "ytlkiiphnibideaadoor", sum := "46fdd76b399f51a5d4d67ebd3afcb418825dd176b88055968f0ecf2c781896ec", func := "loop.example/gradual/laws.FnSubstTwice", spec := "fnSubstTwice", inPlace := ["internal/bytealg.IndexByteString", "internal/abi.NoEscape"], unfollowed := true, recurses := true, named := ["loop.example/gradual/impl.termForms"], plainKeys := false, apart := false, laid := [("loop.example/gradual/impl.termForms", laid_loop_example_gradual_impl_termForms)] }
def FnSubstTwiceSaid : Prop := fnSubstTwiceRow.holds Tryd.pinned (OpenSpec.ofChange fnSubstTwiceSpec)

/-- ITS FALSE NEIGHBOUR: 'it returns false'. Refute it at one input. -/
def fnSubstTwiceWrong : ChangeSpec := { name := "fnSubstTwice", vars := ["loop.example/gradual/impl.termForms"], fn := fun _ => fun
  | [d1, d2, g1] => { results := [.lit (.bool false)], args := [d1, d2], vars := [g1] }
  | _ => none }
def FnSubstTwiceWrongFalsely : Prop := fnSubstTwiceRow.holds Tryd.pinned (OpenSpec.ofChange fnSubstTwiceWrong)

/-- 'laws.FnWithTypes': WHATEVER THE INPUT: true; the input reads as it did. -/
def fnWithTypesSpec : ChangeSpec := { name := "fnWithTypes", vars := ["loop.example/gradual/impl.termForms"], fn := fun _ => fun
  | [d, g1] => { results := [.lit (.bool true)], args := [d], vars := [g1] }
  | _ => none }
def fnWithTypesRow : OpenClaim := { program := "ytlkiiphnibideaadoor", sum := "46fdd76b399f51a5d4d67ebd3afcb418825dd176b88055968f0ecf2c781896ec", func := "loop.example/gradual/laws.FnWithTypes", spec := "fnWithTypes", inPlace := ["internal/bytealg.IndexByteString"], unfollowed := true, recurses := true, named := ["loop.example/gradual/impl.termForms"], plainKeys := false, apart := false, laid := [("loop.example/gradual/impl.termForms", laid_loop_example_gradual_impl_termForms)] }
def FnWithTypesSaid : Prop := fnWithTypesRow.holds Tryd.pinned (OpenSpec.ofChange fnWithTypesSpec)

/-- ITS FALSE NEIGHBOUR: 'it returns false'. Refute it at one input. -/
def fnWithTypesWrong : ChangeSpec := { name := "fnWithTypes", vars := ["loop.example/gradual/impl.termForms"], fn := fun _ => fun
  | [d, g1] => { results := [.lit (.bool false)], args := [d], vars := [g1] }
  | _ => none }
def FnWithTypesWrongFalsely : Prop := fnWithTypesRow.holds Tryd.pinned (OpenSpec.ofChange fnWithTypesWrong)

/-- 'laws.FnEraseTerm': WHATEVER THE INPUT: true; the input reads as it did. -/
def fnEraseTermSpec : ChangeSpec := { name := "fnEraseTerm", vars := ["loop.example/gradual/impl.termForms"], fn := fun _ => fun
  | [d, g1] => { results := [.lit (.bool true)], args := [d], vars := [g1] }
  | _ => none }
def fnEraseTermRow : OpenClaim := { program := "ytlkiiphnibideaadoor", sum := "46fdd76b399f51a5d4d67ebd3afcb418825dd176b88055968f0ecf2c781896ec", func := "loop.example/gradual/laws.FnEraseTerm", spec := "fnEraseTerm", inPlace := ["internal/bytealg.IndexByteString", "internal/abi.NoEscape"], unfollowed := true, recurses := true, named := ["loop.example/gradual/impl.termForms"], plainKeys := false, apart := false, laid := [("loop.example/gradual/impl.termForms", laid_loop_example_gradual_impl_termForms)] }
def FnEraseTermSaid : Prop := fnEraseTermRow.holds Tryd.pinned (OpenSpec.ofChange fnEraseTermSpec)

/-- ITS FALSE NEIGHBOUR: 'it returns false'. Refute it at one input. -/
def fnEraseTermWrong : ChangeSpec := { name := "fnEraseTerm", vars := ["loop.example/gradual/impl.termForms"], fn := fun _ => fun
  | [d, g1] => { results := [.lit (.bool false)], args := [d], vars := [g1] }
  | _ => none }
def FnEraseTermWrongFalsely : Prop := fnEraseTermRow.holds Tryd.pinned (OpenSpec.ofChange fnEraseTermWrong)

/-- 'laws.FnFreeNames': WHATEVER THE INPUT: true; the input reads as it did. -/
def fnFreeNamesSpec : ChangeSpec := { name := "fnFreeNames", vars := ["loop.example/gradual/impl.termForms"], fn := fun _ => fun
  | [d, g1] => { results := [.lit (.bool true)], args := [d], vars := [g1] }
  | _ => none }
def fnFreeNamesRow : OpenClaim := { program := "ytlkiiphnibideaadoor", sum := "46fdd76b399f51a5d4d67ebd3afcb418825dd176b88055968f0ecf2c781896ec", func := "loop.example/gradual/laws.FnFreeNames", spec := "fnFreeNames", inPlace := ["internal/bytealg.IndexByteString", "internal/abi.NoEscape"], unfollowed := true, recurses := true, named := ["loop.example/gradual/impl.termForms"], plainKeys := false, apart := false, laid := [("loop.example/gradual/impl.termForms", laid_loop_example_gradual_impl_termForms)] }
def FnFreeNamesSaid : Prop := fnFreeNamesRow.holds Tryd.pinned (OpenSpec.ofChange fnFreeNamesSpec)

/-- ITS FALSE NEIGHBOUR: 'it returns false'. Refute it at one input. -/
def fnFreeNamesWrong : ChangeSpec := { name := "fnFreeNames", vars := ["loop.example/gradual/impl.termForms"], fn := fun _ => fun
  | [d, g1] => { results := [.lit (.bool false)], args := [d], vars := [g1] }
  | _ => none }
def FnFreeNamesWrongFalsely : Prop := fnFreeNamesRow.holds Tryd.pinned (OpenSpec.ofChange fnFreeNamesWrong)

/-- 'laws.FnCountNodes': WHATEVER THE INPUT: true; the input reads as it did. -/
def fnCountNodesSpec : ChangeSpec := { name := "fnCountNodes", vars := ["loop.example/gradual/impl.termForms"], fn := fun _ => fun
  | [d, g1] => { results := [.lit (.bool true)], args := [d], vars := [g1] }
  | _ => none }
def fnCountNodesRow : OpenClaim := { program := "ytlkiiphnibideaadoor", sum := "46fdd76b399f51a5d4d67ebd3afcb418825dd176b88055968f0ecf2c781896ec", func := "loop.example/gradual/laws.FnCountNodes", spec := "fnCountNodes", inPlace := ["internal/bytealg.IndexByteString"], unfollowed := true, recurses := true, named := ["loop.example/gradual/impl.termForms"], plainKeys := false, apart := false, laid := [("loop.example/gradual/impl.termForms", laid_loop_example_gradual_impl_termForms)] }
def FnCountNodesSaid : Prop := fnCountNodesRow.holds Tryd.pinned (OpenSpec.ofChange fnCountNodesSpec)

/-- ITS FALSE NEIGHBOUR: 'it returns false'. Refute it at one input. -/
def fnCountNodesWrong : ChangeSpec := { name := "fnCountNodes", vars := ["loop.example/gradual/impl.termForms"], fn := fun _ => fun
  | [d, g1] => { results := [.lit (.bool false)], args := [d], vars := [g1] }
  | _ => none }
def FnCountNodesWrongFalsely : Prop := fnCountNodesRow.holds Tryd.pinned (OpenSpec.ofChange fnCountNodesWrong)

/-- 'laws.FnSubstClosed': WHATEVER THE INPUT: true; the input reads as it did. -/
def fnSubstClosedSpec : ChangeSpec := { name := "fnSubstClosed", vars := ["loop.example/gradual/impl.termForms"], fn := fun _ => fun
  | [d1, d2, g1] => { results := [.lit (.bool true)], args := [d1, d2], vars := [g1] }
  | _ => none }
def fnSubstClosedRow : OpenClaim := { program := "ytlkiiphnibideaadoor", sum := "46fdd76b399f51a5d4d67ebd3afcb418825dd176b88055968f0ecf2c781896ec", func := "loop.example/gradual/laws.FnSubstClosed", spec := "fnSubstClosed", inPlace := ["internal/bytealg.IndexByteString", "internal/abi.NoEscape"], unfollowed := true, recurses := true, named := ["loop.example/gradual/impl.termForms"], plainKeys := false, apart := false, laid := [("loop.example/gradual/impl.termForms", laid_loop_example_gradual_impl_termForms)] }
def FnSubstClosedSaid : Prop := fnSubstClosedRow.holds Tryd.pinned (OpenSpec.ofChange fnSubstClosedSpec)

/-- ITS FALSE NEIGHBOUR: 'it returns false'. Refute it at one input. -/
def fnSubstClosedWrong : ChangeSpec := { name := "fnSubstClosed", vars := ["loop.example/gradual/impl.termForms"], fn := fun _ => fun
  | [d1, d2, g1] => { results := [.lit (.bool false)], args := [d1, d2], vars := [g1] }
  | _ => none }
def FnSubstClosedWrongFalsely : Prop := fnSubstClosedRow.holds Tryd.pinned (OpenSpec.ofChange fnSubstClosedWrong)

/-- 'laws.FnTermParts': WHATEVER THE INPUT: true; the input reads as it did. -/
def fnTermPartsSpec : ChangeSpec := { name := "fnTermParts", vars := ["loop.example/gradual/impl.termForms"], fn := fun _ => fun
  | [d, g1] => { results := [.lit (.bool true)], args := [d], vars := [g1] }
  | _ => none }
def fnTermPartsRow : OpenClaim := { program := "ytlkiiphnibideaadoor", sum := "46fdd76b399f51a5d4d67ebd3afcb418825dd176b88055968f0ecf2c781896ec", func := "loop.example/gradual/laws.FnTermParts", spec := "fnTermParts", inPlace := ["internal/bytealg.IndexByteString"], unfollowed := true, recurses := true, named := ["loop.example/gradual/impl.termForms"], plainKeys := false, apart := false, laid := [("loop.example/gradual/impl.termForms", laid_loop_example_gradual_impl_termForms)] }
def FnTermPartsSaid : Prop := fnTermPartsRow.holds Tryd.pinned (OpenSpec.ofChange fnTermPartsSpec)

/-- ITS FALSE NEIGHBOUR: 'it returns false'. Refute it at one input. -/
def fnTermPartsWrong : ChangeSpec := { name := "fnTermParts", vars := ["loop.example/gradual/impl.termForms"], fn := fun _ => fun
  | [d, g1] => { results := [.lit (.bool false)], args := [d], vars := [g1] }
  | _ => none }
def FnTermPartsWrongFalsely : Prop := fnTermPartsRow.holds Tryd.pinned (OpenSpec.ofChange fnTermPartsWrong)

/- THE SECOND FORM. 'bulk': how many values and letters a reading holds, each counted each time it is reached (what is shared counts as often as it is met; a slice's spare places count too). A statement '..UptoSaid' is the law's where the arguments, and the package variables that the reading takes, are together of bulk at most 1048576: NARROWER than '..Said'. Prove '..Said' where nothing that the law and all that it calls make is longer than what came in: it says more and counts as full. Else prove '..UptoSaid'. A law counts once. -/
mutual
def uptoBulk {H : Type} : DataW H → Nat
  | .lit (.string bytes) => bytes.length + 1
  | .lit _ => 1
  | .nil => 1
  | .ptr d => uptoBulk d + 1
  | .slice elems spare => uptoBulkAll elems + uptoBulkAll spare + 1
  | .agg parts => uptoBulkAll parts + 1
  | .iface _ d => uptoBulk d + 1
  | .map entries => uptoBulkEntries entries + 1
  | .held _ => 1
def uptoBulkAll {H : Type} : List (DataW H) → Nat
  | [] => 0
  | d :: r => uptoBulk d + uptoBulkAll r
def uptoBulkEntries {H : Type} : List (Lit × DataW H) → Nat
  | [] => 0
  | x :: r => uptoBulkEntry x + uptoBulkEntries r
def uptoBulkEntry {H : Type} : Lit × DataW H → Nat
  | (.string bytes, d) => bytes.length + uptoBulk d + 1
  | (_, d) => uptoBulk d + 1
 end
def uptoSmall : (H : Type) → List (DataW H) → Bool := fun _ ds => decide (uptoBulkAll ds ≤ 1048576)
def OpenSpec.upto (s : _root_.Go.ChangeSpec) : _root_.Go.OpenSpec := { _root_.Go.OpenSpec.ofChange s with cond := some uptoSmall }

/-- 'laws.FnTermSame', WHERE WHAT IT READS IS OF BULK AT MOST 1048576: true; the input reads as it did. -/
def fnTermSameUptoRow : OpenClaim := { program := "ytlkiiphnibideaadoor", sum := "46fdd76b399f51a5d4d67ebd3afcb418825dd176b88055968f0ecf2c781896ec", func := "loop.example/gradual/laws.FnTermSame", spec := "fnTermSame", inPlace := ["internal/bytealg.IndexByteString", "internal/abi.NoEscape"], unfollowed := true, recurses := true, named := ["loop.example/gradual/impl.termForms", "internal/strconv.uint64pow10", "math/bits.deBruijn32tab", "math/bits.deBruijn64tab"], plainKeys := false, apart := false, laid := [("math/bits.deBruijn32tab", laid_math_bits_deBruijn32tab), ("math/bits.deBruijn64tab", laid_math_bits_deBruijn64tab), ("internal/strconv.uint64pow10", laid_internal_strconv_uint64pow10), ("loop.example/gradual/impl.termForms", laid_loop_example_gradual_impl_termForms)], narrowed := true }
def FnTermSameUptoSaid : Prop := fnTermSameUptoRow.holds Tryd.pinned (OpenSpec.upto fnTermSameSpec)

/-- 'laws.FnSubstTerm', WHERE WHAT IT READS IS OF BULK AT MOST 1048576: true; the input reads as it did. -/
def fnSubstTermUptoRow : OpenClaim := { program := "ytlkiiphnibideaadoor", sum := "46fdd76b399f51a5d4d67ebd3afcb418825dd176b88055968f0ecf2c781896ec", func := "loop.example/gradual/laws.FnSubstTerm", spec := "fnSubstTerm", inPlace := ["internal/bytealg.IndexByteString", "internal/abi.NoEscape"], unfollowed := true, recurses := true, named := ["loop.example/gradual/impl.termForms"], plainKeys := false, apart := false, laid := [("loop.example/gradual/impl.termForms", laid_loop_example_gradual_impl_termForms)], narrowed := true }
def FnSubstTermUptoSaid : Prop := fnSubstTermUptoRow.holds Tryd.pinned (OpenSpec.upto fnSubstTermSpec)

/-- 'laws.FnSubstTwice', WHERE WHAT IT READS IS OF BULK AT MOST 1048576: true; the input reads as it did. -/
def fnSubstTwiceUptoRow : OpenClaim := { program := "ytlkiiphnibideaadoor", sum := "46fdd76b399f51a5d4d67ebd3afcb418825dd176b88055968f0ecf2c781896ec", func := "loop.example/gradual/laws.FnSubstTwice", spec := "fnSubstTwice", inPlace := ["internal/bytealg.IndexByteString", "internal/abi.NoEscape"], unfollowed := true, recurses := true, named := ["loop.example/gradual/impl.termForms"], plainKeys := false, apart := false, laid := [("loop.example/gradual/impl.termForms", laid_loop_example_gradual_impl_termForms)], narrowed := true }
def FnSubstTwiceUptoSaid : Prop := fnSubstTwiceUptoRow.holds Tryd.pinned (OpenSpec.upto fnSubstTwiceSpec)

/-- 'laws.FnWithTypes', WHERE WHAT IT READS IS OF BULK AT MOST 1048576: true; the input reads as it did. -/
def fnWithTypesUptoRow : OpenClaim := { program := "ytlkiiphnibideaadoor", sum := "46fdd76b399f51a5d4d67ebd3afcb418825dd176b88055968f0ecf2c781896ec", func := "loop.example/gradual/laws.FnWithTypes", spec := "fnWithTypes", inPlace := ["internal/bytealg.IndexByteString"], unfollowed := true, recurses := true, named := ["loop.example/gradual/impl.termForms"], plainKeys := false, apart := false, laid := [("loop.example/gradual/impl.termForms", laid_loop_example_gradual_impl_termForms)], narrowed := true }
def FnWithTypesUptoSaid : Prop := fnWithTypesUptoRow.holds Tryd.pinned (OpenSpec.upto fnWithTypesSpec)

/-- 'laws.FnEraseTerm', WHERE WHAT IT READS IS OF BULK AT MOST 1048576: true; the input reads as it did. -/
def fnEraseTermUptoRow : OpenClaim := { program := "ytlkiiphnibideaadoor", sum := "46fdd76b399f51a5d4d67ebd3afcb418825dd176b88055968f0ecf2c781896ec", func := "loop.example/gradual/laws.FnEraseTerm", spec := "fnEraseTerm", inPlace := ["internal/bytealg.IndexByteString", "internal/abi.NoEscape"], unfollowed := true, recurses := true, named := ["loop.example/gradual/impl.termForms"], plainKeys := false, apart := false, laid := [("loop.example/gradual/impl.termForms", laid_loop_example_gradual_impl_termForms)], narrowed := true }
def FnEraseTermUptoSaid : Prop := fnEraseTermUptoRow.holds Tryd.pinned (OpenSpec.upto fnEraseTermSpec)

/-- 'laws.FnFreeNames', WHERE WHAT IT READS IS OF BULK AT MOST 1048576: true; the input reads as it did. -/
def fnFreeNamesUptoRow : OpenClaim := { program := "ytlkiiphnibideaadoor", sum := "46fdd76b399f51a5d4d67ebd3afcb418825dd176b88055968f0ecf2c781896ec", func := "loop.example/gradual/laws.FnFreeNames", spec := "fnFreeNames", inPlace := ["internal/bytealg.IndexByteString", "internal/abi.NoEscape"], unfollowed := true, recurses := true, named := ["loop.example/gradual/impl.termForms"], plainKeys := false, apart := false, laid := [("loop.example/gradual/impl.termForms", laid_loop_example_gradual_impl_termForms)], narrowed := true }
def FnFreeNamesUptoSaid : Prop := fnFreeNamesUptoRow.holds Tryd.pinned (OpenSpec.upto fnFreeNamesSpec)

/-- 'laws.FnCountNodes', WHERE WHAT IT READS IS OF BULK AT MOST 1048576: true; the input reads as it did. -/
def fnCountNodesUptoRow : OpenClaim := { program := "ytlkiiphnibideaadoor", sum := "46fdd76b399f51a5d4d67ebd3afcb418825dd176b88055968f0ecf2c781896ec", func := "loop.example/gradual/laws.FnCountNodes", spec := "fnCountNodes", inPlace := ["internal/bytealg.IndexByteString"], unfollowed := true, recurses := true, named := ["loop.example/gradual/impl.termForms"], plainKeys := false, apart := false, laid := [("loop.example/gradual/impl.termForms", laid_loop_example_gradual_impl_termForms)], narrowed := true }
def FnCountNodesUptoSaid : Prop := fnCountNodesUptoRow.holds Tryd.pinned (OpenSpec.upto fnCountNodesSpec)

/-- 'laws.FnSubstClosed', WHERE WHAT IT READS IS OF BULK AT MOST 1048576: true; the input reads as it did. -/
def fnSubstClosedUptoRow : OpenClaim := { program := "ytlkiiphnibideaadoor", sum := "46fdd76b399f51a5d4d67ebd3afcb418825dd176b88055968f0ecf2c781896ec", func := "loop.example/gradual/laws.FnSubstClosed", spec := "fnSubstClosed", inPlace := ["internal/bytealg.IndexByteString", "internal/abi.NoEscape"], unfollowed := true, recurses := true, named := ["loop.example/gradual/impl.termForms"], plainKeys := false, apart := false, laid := [("loop.example/gradual/impl.termForms", laid_loop_example_gradual_impl_termForms)], narrowed := true }
def FnSubstClosedUptoSaid : Prop := fnSubstClosedUptoRow.holds Tryd.pinned (OpenSpec.upto fnSubstClosedSpec)

/-- 'laws.FnTermParts', WHERE WHAT IT READS IS OF BULK AT MOST 1048576: true; the input reads as it did. -/
def fnTermPartsUptoRow : OpenClaim := { program := "ytlkiiphnibideaadoor", sum := "46fdd76b399f51a5d4d67ebd3afcb418825dd176b88055968f0ecf2c781896ec", func := "loop.example/gradual/laws.FnTermParts", spec := "fnTermParts", inPlace := ["internal/bytealg.IndexByteString"], unfollowed := true, recurses := true, named := ["loop.example/gradual/impl.termForms"], plainKeys := false, apart := false, laid := [("loop.example/gradual/impl.termForms", laid_loop_example_gradual_impl_termForms)], narrowed := true }
def FnTermPartsUptoSaid : Prop := fnTermPartsUptoRow.holds Tryd.pinned (OpenSpec.upto fnTermPartsSpec)

end Rows
end Go.Proofs.YtlkiiphnibideaaDoor
