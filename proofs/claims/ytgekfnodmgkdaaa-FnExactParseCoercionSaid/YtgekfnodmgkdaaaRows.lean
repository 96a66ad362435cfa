/-
  NARROWER THAN 'FOR EVERY INPUT', by the rows' own cells (each row's printed sentence says how): FnExactTermSame: loops · FnExactComposeCoercions: loops.
  DERIVED. THE GIVEN ROWS OF THIS SEAT. 3 by the template 'for every input the law returns true; each argument reads behind the call as it read before'; 0 by the template 'total and deterministic' (their statements: YtgekfnodmgkdaaaTotals.lean).
  GIVEN WITH THE SEED: the statements are not yours to turn. If you find one false, say at which input.
  Laid BY PROGRAM, IN A SANDBOX (cutbox-rows.mjs): the forced cells as the released guide's own fill.sh prints them over the translation ab74b6a1f46e5f18… (all of the seat's roots in one cut). By AI agents, Wed Nov 11 2026. No macro, syntax, notation, axiom, sorry.
-/
import Derived.Test.YtgekfnodmgkdaaaChecked
import GoSem.Claim
import GoSem.ClaimJoined
import GoSem.ClaimMapViews
import Derived.JoinedTies
import Derived.KernelRfl
namespace Go.Proofs.Ytgekfnodmgkdaaa
/- THE CELL 'sum', in the pinned program and in every row, IS THE sha256 OF THE DUMP (.gsa) THAT YtgekfnodmgkdaaaProg.lean LOADS. Nothing in Lean hashes anything: it is a label: what it is worth is what the hold of that sum in a sandbox is worth. -/
noncomputable def Try.pinned : Pinned := { name := "ytgekfnodmgkdaaa", sum := "ab74b6a1f46e5f180fe13b5124bb6bfc91584ed4bf1bfe1870da67ba375dc368", checked := Try.checked }
namespace Rows
def none {H : Type} : Left H := { results := [], args := [] }

/-- 'laws.FnExactTermSame': WHATEVER THE INPUT: true; the input reads as it did. -/
def fnExactTermSameSpec : ChangeSpec := { name := "fnExactTermSame", fn := fun _ => fun
  | [d1, d2] => { results := [.lit (.bool true)], args := [d1, d2] }
  | _ => none }
def fnExactTermSameRow : OpenClaim := { program := "ytgekfnodmgkdaaa", sum := "ab74b6a1f46e5f180fe13b5124bb6bfc91584ed4bf1bfe1870da67ba375dc368", func := "loop.example/gradual/laws.FnExactTermSame", spec := "fnExactTermSame", unfollowed := true, recurses := true, loops := true, plainKeys := false, apart := false }
def FnExactTermSameSaid : Prop := fnExactTermSameRow.holds Try.pinned (OpenSpec.ofChange fnExactTermSameSpec)

/-- ITS FALSE NEIGHBOUR: 'it returns false'. Refute it at one input. -/
def fnExactTermSameWrong : ChangeSpec := { name := "fnExactTermSame", fn := fun _ => fun
  | [d1, d2] => { results := [.lit (.bool false)], args := [d1, d2] }
  | _ => none }
def FnExactTermSameWrongFalsely : Prop := fnExactTermSameRow.holds Try.pinned (OpenSpec.ofChange fnExactTermSameWrong)

/-- 'laws.FnExactComposeCoercions': WHATEVER THE INPUT: true; the input reads as it did. -/
def fnExactComposeCoercionsSpec : ChangeSpec := { name := "fnExactComposeCoercions", fn := fun _ => fun
  | [d1, d2] => { results := [.lit (.bool true)], args := [d1, d2] }
  | _ => none }
def fnExactComposeCoercionsRow : OpenClaim := { program := "ytgekfnodmgkdaaa", sum := "ab74b6a1f46e5f180fe13b5124bb6bfc91584ed4bf1bfe1870da67ba375dc368", func := "loop.example/gradual/laws.FnExactComposeCoercions", spec := "fnExactComposeCoercions", recurses := true, loops := true, plainKeys := false, apart := false }
def FnExactComposeCoercionsSaid : Prop := fnExactComposeCoercionsRow.holds Try.pinned (OpenSpec.ofChange fnExactComposeCoercionsSpec)

/-- ITS FALSE NEIGHBOUR: 'it returns false'. Refute it at one input. -/
def fnExactComposeCoercionsWrong : ChangeSpec := { name := "fnExactComposeCoercions", fn := fun _ => fun
  | [d1, d2] => { results := [.lit (.bool false)], args := [d1, d2] }
  | _ => none }
def FnExactComposeCoercionsWrongFalsely : Prop := fnExactComposeCoercionsRow.holds Try.pinned (OpenSpec.ofChange fnExactComposeCoercionsWrong)

/-- 'laws.FnExactParseCoercion': WHATEVER THE INPUT: true; the input reads as it did. -/
def fnExactParseCoercionSpec : ChangeSpec := { name := "fnExactParseCoercion", fn := fun _ => fun
  | [d] => { results := [.lit (.bool true)], args := [d] }
  | _ => none }
def fnExactParseCoercionRow : OpenClaim := { program := "ytgekfnodmgkdaaa", sum := "ab74b6a1f46e5f180fe13b5124bb6bfc91584ed4bf1bfe1870da67ba375dc368", func := "loop.example/gradual/laws.FnExactParseCoercion", spec := "fnExactParseCoercion", inPlace := ["internal/bytealg.IndexByteString"], recurses := true, plainKeys := false, apart := false }
def FnExactParseCoercionSaid : Prop := fnExactParseCoercionRow.holds Try.pinned (OpenSpec.ofChange fnExactParseCoercionSpec)

/-- ITS FALSE NEIGHBOUR: 'it returns false'. Refute it at one input. -/
def fnExactParseCoercionWrong : ChangeSpec := { name := "fnExactParseCoercion", fn := fun _ => fun
  | [d] => { results := [.lit (.bool false)], args := [d] }
  | _ => none }
def FnExactParseCoercionWrongFalsely : Prop := fnExactParseCoercionRow.holds Try.pinned (OpenSpec.ofChange fnExactParseCoercionWrong)

/- THE SECOND FORM. 'bulk': how many values and letters a reading holds, each counted each time it is reached (what is shared counts as often as it is met; a slice's spare places count too). A statement '..UptoSaid' is the law's where the arguments, and the package variables that the reading takes, are together of bulk at most 1048576: NARROWER than '..Said'. Prove '..Said' where nothing that the law and all that it calls make is longer than what came in: it says more and counts as full. Else prove '..UptoSaid'. A law counts once. -/
mutual
def uptoBulk {H : Type} : DataW H → Nat
  | .lit (.string bytes) => bytes.length + 1
  | .lit _ => 1
  | .nil => 1
  | .ptr d => uptoBulk d + 1
  | .slice elems spare => uptoBulkAll elems + uptoBulkAll spare + 1
  | .agg parts => uptoBulkAll parts + 1
  | .iface _ d => uptoBulk d + 1
  | .map entries => uptoBulkEntries entries + 1
  | .held _ => 1
def uptoBulkAll {H : Type} : List (DataW H) → Nat
  | [] => 0
  | d :: r => uptoBulk d + uptoBulkAll r
def uptoBulkEntries {H : Type} : List (Lit × DataW H) → Nat
  | [] => 0
  | x :: r => uptoBulkEntry x + uptoBulkEntries r
def uptoBulkEntry {H : Type} : Lit × DataW H → Nat
  | (.string bytes, d) => bytes.length + uptoBulk d + 1
  | (_, d) => uptoBulk d + 1
 end
def uptoSmall : (H : Type) → List (DataW H) → Bool := fun _ ds => decide (uptoBulkAll ds ≤ 1048576)
def OpenSpec.upto (s : _root_.Go.ChangeSpec) : _root_.Go.OpenSpec := { _root_.Go.OpenSpec.ofChange s with cond := some uptoSmall }

/-- 'laws.FnExactTermSame', WHERE WHAT IT READS IS OF BULK AT MOST 1048576: true; the input reads as it did. -/
def fnExactTermSameUptoRow : OpenClaim := { program := "ytgekfnodmgkdaaa", sum := "ab74b6a1f46e5f180fe13b5124bb6bfc91584ed4bf1bfe1870da67ba375dc368", func := "loop.example/gradual/laws.FnExactTermSame", spec := "fnExactTermSame", unfollowed := true, recurses := true, loops := true, plainKeys := false, apart := false, narrowed := true }
def FnExactTermSameUptoSaid : Prop := fnExactTermSameUptoRow.holds Try.pinned (OpenSpec.upto fnExactTermSameSpec)

/-- 'laws.FnExactComposeCoercions', WHERE WHAT IT READS IS OF BULK AT MOST 1048576: true; the input reads as it did. -/
def fnExactComposeCoercionsUptoRow : OpenClaim := { program := "ytgekfnodmgkdaaa", sum := "ab74b6a1f46e5f180fe13b5124bb6bfc91584ed4bf1bfe1870da67ba375dc368", func := "loop.example/gradual/laws.FnExactComposeCoercions", spec := "fnExactComposeCoercions", recurses := true, loops := true, plainKeys := false, apart := false, narrowed := true }
def FnExactComposeCoercionsUptoSaid : Prop := fnExactComposeCoercionsUptoRow.holds Try.pinned (OpenSpec.upto fnExactComposeCoercionsSpec)

/-- 'laws.FnExactParseCoercion', WHERE WHAT IT READS IS OF BULK AT MOST 1048576: true; the input reads as it did. -/
def fnExactParseCoercionUptoRow : OpenClaim := { program := "ytgekfnodmgkdaaa", sum := "ab74b6a1f46e5f180fe13b5124bb6bfc91584ed4bf1bfe1870da67ba375dc368", func := "loop.example/gradual/laws.FnExactParseCoercion", spec := "fnExactParseCoercion", inPlace := ["internal/bytealg.IndexByteString"], recurses := true, plainKeys := false, apart := false, narrowed := true }
def FnExactParseCoercionUptoSaid : Prop := fnExactParseCoercionUptoRow.holds Try.pinned (OpenSpec.upto fnExactParseCoercionSpec)

end Rows
end Go.Proofs.Ytgekfnodmgkdaaa
