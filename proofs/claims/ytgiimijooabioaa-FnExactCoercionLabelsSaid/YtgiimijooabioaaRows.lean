/-
  NARROWER THAN 'FOR EVERY INPUT', by the rows' own cells (each row's printed sentence says how): FnExactSubPositive: loops · FnExactSubNegative: loops · FnExactSubtype: loops · FnExactCoercionLabels: loops.
  DERIVED. THE GIVEN ROWS OF THIS SEAT. 4 by the template 'for every input the law returns true; each argument reads behind the call as it read before'; 0 by the template 'total and deterministic' (their statements: YtgiimijooabioaaTotals.lean).
  GIVEN WITH THE SEED: the statements are not yours to turn. If you find one false, say at which input.
  Laid BY PROGRAM, IN A SANDBOX (cutbox-rows.mjs): the forced cells as the released guide's own fill.sh prints them over the translation 618f00673917b495… (all of the seat's roots in one cut). By AI agents, Wed Nov 11 2026. No macro, syntax, notation, axiom, sorry.
-/
import Derived.Test.YtgiimijooabioaaChecked
import GoSem.Claim
import GoSem.ClaimJoined
import GoSem.ClaimMapViews
import Derived.JoinedTies
import Derived.KernelRfl
namespace Go.Proofs.Ytgiimijooabioaa
/- THE CELL 'sum', in the pinned program and in every row, IS THE sha256 OF THE DUMP (.gsa) THAT YtgiimijooabioaaProg.lean LOADS. Nothing in Lean hashes anything: it is a label: what it is worth is what the hold of that sum in a sandbox is worth. -/
noncomputable def Try.pinned : Pinned := { name := "ytgiimijooabioaa", sum := "618f00673917b495ab27b5cf76960507248b70b80d3a51d6b0bbde77541dea8c", checked := Try.checked }
namespace Rows
def none {H : Type} : Left H := { results := [], args := [] }

/-- 'laws.FnExactSubPositive': WHATEVER THE INPUT: true; the input reads as it did. -/
def fnExactSubPositiveSpec : ChangeSpec := { name := "fnExactSubPositive", fn := fun _ => fun
  | [d1, d2] => { results := [.lit (.bool true)], args := [d1, d2] }
  | _ => none }
def fnExactSubPositiveRow : OpenClaim := { program := "ytgiimijooabioaa", sum := "618f00673917b495ab27b5cf76960507248b70b80d3a51d6b0bbde77541dea8c", func := "loop.example/gradual/laws.FnExactSubPositive", spec := "fnExactSubPositive", recurses := true, loops := true, apart := false }
def FnExactSubPositiveSaid : Prop := fnExactSubPositiveRow.holds Try.pinned (OpenSpec.ofChange fnExactSubPositiveSpec)

/-- ITS FALSE NEIGHBOUR: 'it returns false'. Refute it at one input. -/
def fnExactSubPositiveWrong : ChangeSpec := { name := "fnExactSubPositive", fn := fun _ => fun
  | [d1, d2] => { results := [.lit (.bool false)], args := [d1, d2] }
  | _ => none }
def FnExactSubPositiveWrongFalsely : Prop := fnExactSubPositiveRow.holds Try.pinned (OpenSpec.ofChange fnExactSubPositiveWrong)

/-- 'laws.FnExactSubNegative': WHATEVER THE INPUT: true; the input reads as it did. -/
def fnExactSubNegativeSpec : ChangeSpec := { name := "fnExactSubNegative", fn := fun _ => fun
  | [d1, d2] => { results := [.lit (.bool true)], args := [d1, d2] }
  | _ => none }
def fnExactSubNegativeRow : OpenClaim := { program := "ytgiimijooabioaa", sum := "618f00673917b495ab27b5cf76960507248b70b80d3a51d6b0bbde77541dea8c", func := "loop.example/gradual/laws.FnExactSubNegative", spec := "fnExactSubNegative", recurses := true, loops := true, apart := false }
def FnExactSubNegativeSaid : Prop := fnExactSubNegativeRow.holds Try.pinned (OpenSpec.ofChange fnExactSubNegativeSpec)

/-- ITS FALSE NEIGHBOUR: 'it returns false'. Refute it at one input. -/
def fnExactSubNegativeWrong : ChangeSpec := { name := "fnExactSubNegative", fn := fun _ => fun
  | [d1, d2] => { results := [.lit (.bool false)], args := [d1, d2] }
  | _ => none }
def FnExactSubNegativeWrongFalsely : Prop := fnExactSubNegativeRow.holds Try.pinned (OpenSpec.ofChange fnExactSubNegativeWrong)

/-- 'laws.FnExactSubtype': WHATEVER THE INPUT: true; the input reads as it did. -/
def fnExactSubtypeSpec : ChangeSpec := { name := "fnExactSubtype", fn := fun _ => fun
  | [d1, d2] => { results := [.lit (.bool true)], args := [d1, d2] }
  | _ => none }
def fnExactSubtypeRow : OpenClaim := { program := "ytgiimijooabioaa", sum := "618f00673917b495ab27b5cf76960507248b70b80d3a51d6b0bbde77541dea8c", func := "loop.example/gradual/laws.FnExactSubtype", spec := "fnExactSubtype", recurses := true, loops := true, apart := false }
def FnExactSubtypeSaid : Prop := fnExactSubtypeRow.holds Try.pinned (OpenSpec.ofChange fnExactSubtypeSpec)

/-- ITS FALSE NEIGHBOUR: 'it returns false'. Refute it at one input. -/
def fnExactSubtypeWrong : ChangeSpec := { name := "fnExactSubtype", fn := fun _ => fun
  | [d1, d2] => { results := [.lit (.bool false)], args := [d1, d2] }
  | _ => none }
def FnExactSubtypeWrongFalsely : Prop := fnExactSubtypeRow.holds Try.pinned (OpenSpec.ofChange fnExactSubtypeWrong)

/-- 'laws.FnExactCoercionLabels': WHATEVER THE INPUT: true; the input reads as it did. -/
def fnExactCoercionLabelsSpec : ChangeSpec := { name := "fnExactCoercionLabels", fn := fun _ => fun
  | [d] => { results := [.lit (.bool true)], args := [d] }
  | _ => none }
def fnExactCoercionLabelsRow : OpenClaim := { program := "ytgiimijooabioaa", sum := "618f00673917b495ab27b5cf76960507248b70b80d3a51d6b0bbde77541dea8c", func := "loop.example/gradual/laws.FnExactCoercionLabels", spec := "fnExactCoercionLabels", unfollowed := true, recurses := true, loops := true, apart := false }
def FnExactCoercionLabelsSaid : Prop := fnExactCoercionLabelsRow.holds Try.pinned (OpenSpec.ofChange fnExactCoercionLabelsSpec)

/-- ITS FALSE NEIGHBOUR: 'it returns false'. Refute it at one input. -/
def fnExactCoercionLabelsWrong : ChangeSpec := { name := "fnExactCoercionLabels", fn := fun _ => fun
  | [d] => { results := [.lit (.bool false)], args := [d] }
  | _ => none }
def FnExactCoercionLabelsWrongFalsely : Prop := fnExactCoercionLabelsRow.holds Try.pinned (OpenSpec.ofChange fnExactCoercionLabelsWrong)

/- THE SECOND FORM. 'bulk': how many values and letters a reading holds, each counted each time it is reached (what is shared counts as often as it is met; a slice's spare places count too). A statement '..UptoSaid' is the law's where the arguments, and the package variables that the reading takes, are together of bulk at most 1048576: NARROWER than '..Said'. Prove '..Said' where nothing that the law and all that it calls make is longer than what came in: it says more and counts as full. Else prove '..UptoSaid'. A law counts once. -/
mutual
def uptoBulk {H : Type} : DataW H → Nat
  | .lit (.string bytes) => bytes.length + 1
  | .lit _ => 1
  | .nil => 1
  | .ptr d => uptoBulk d + 1
  | .slice elems spare => uptoBulkAll elems + uptoBulkAll spare + 1
  | .agg parts => uptoBulkAll parts + 1
  | .iface _ d => uptoBulk d + 1
  | .map entries => uptoBulkEntries entries + 1
  | .held _ => 1
def uptoBulkAll {H : Type} : List (DataW H) → Nat
  | [] => 0
  | d :: r => uptoBulk d + uptoBulkAll r
def uptoBulkEntries {H : Type} : List (Lit × DataW H) → Nat
  | [] => 0
  | x :: r => uptoBulkEntry x + uptoBulkEntries r
def uptoBulkEntry {H : Type} : Lit × DataW H → Nat
  | (.string bytes, d) => bytes.length + uptoBulk d + 1
  | (_, d) => uptoBulk d + 1
 end
def uptoSmall : (H : Type) → List (DataW H) → Bool := fun _ ds => decide (uptoBulkAll ds ≤ 1048576)
def OpenSpec.upto (s : _root_.Go.ChangeSpec) : _root_.Go.OpenSpec := { _root_.Go.OpenSpec.ofChange s with cond := some uptoSmall }

/-- 'laws.FnExactSubPositive', WHERE WHAT IT READS IS OF BULK AT MOST 1048576: true; the input reads as it did. -/
def fnExactSubPositiveUptoRow : OpenClaim := { program := "ytgiimijooabioaa", sum := "618f00673917b495ab27b5cf76960507248b70b80d3a51d6b0bbde77541dea8c", func := "loop.example/gradual/laws.FnExactSubPositive", spec := "fnExactSubPositive", recurses := true, loops := true, apart := false, narrowed := true }
def FnExactSubPositiveUptoSaid : Prop := fnExactSubPositiveUptoRow.holds Try.pinned (OpenSpec.upto fnExactSubPositiveSpec)

/-- 'laws.FnExactSubNegative', WHERE WHAT IT READS IS OF BULK AT MOST 1048576: true; the input reads as it did. -/
def fnExactSubNegativeUptoRow : OpenClaim := { program := "ytgiimijooabioaa", sum := "618f00673917b495ab27b5cf76960507248b70b80d3a51d6b0bbde77541dea8c", func := "loop.example/gradual/laws.FnExactSubNegative", spec := "fnExactSubNegative", recurses := true, loops := true, apart := false, narrowed := true }
def FnExactSubNegativeUptoSaid : Prop := fnExactSubNegativeUptoRow.holds Try.pinned (OpenSpec.upto fnExactSubNegativeSpec)

/-- 'laws.FnExactSubtype', WHERE WHAT IT READS IS OF BULK AT MOST 1048576: true; the input reads as it did. -/
def fnExactSubtypeUptoRow : OpenClaim := { program := "ytgiimijooabioaa", sum := "618f00673917b495ab27b5cf76960507248b70b80d3a51d6b0bbde77541dea8c", func := "loop.example/gradual/laws.FnExactSubtype", spec := "fnExactSubtype", recurses := true, loops := true, apart := false, narrowed := true }
def FnExactSubtypeUptoSaid : Prop := fnExactSubtypeUptoRow.holds Try.pinned (OpenSpec.upto fnExactSubtypeSpec)

/-- 'laws.FnExactCoercionLabels', WHERE WHAT IT READS IS OF BULK AT MOST 1048576: true; the input reads as it did. -/
def fnExactCoercionLabelsUptoRow : OpenClaim := { program := "ytgiimijooabioaa", sum := "618f00673917b495ab27b5cf76960507248b70b80d3a51d6b0bbde77541dea8c", func := "loop.example/gradual/laws.FnExactCoercionLabels", spec := "fnExactCoercionLabels", unfollowed := true, recurses := true, loops := true, apart := false, narrowed := true }
def FnExactCoercionLabelsUptoSaid : Prop := fnExactCoercionLabelsUptoRow.holds Try.pinned (OpenSpec.upto fnExactCoercionLabelsSpec)

end Rows
end Go.Proofs.Ytgiimijooabioaa
