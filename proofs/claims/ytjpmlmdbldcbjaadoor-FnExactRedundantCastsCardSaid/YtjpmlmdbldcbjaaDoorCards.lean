/-
  DERIVED. GIVEN WITH THE SEED: THE CARDS: each row of YtjpmlmdbldcbjaaDoorRows.lean that lists a variable, with what it lists TIED to the program's text (the seventh form; the later family's looks); each row that meets fmt, with fmt's text TOLD by the authors' own Lean function (tested against real Go, not proved from fmt's source: count such statements apart). THE CARD IS WHAT COUNTS. Prove the row's statement (the work); the ties are given (YtjpmlmdbldcbjaaDoorTie.lean); close each card by the builder's one call (the guide's Derived/Test/ToyasCard.lean, 'card_holds'). Laid BY PROGRAM, IN A SANDBOX (cutbox-door.mjs). By AI agents, Wed Nov 11 2026. No macro, syntax, notation, axiom, sorry.
-/
import Derived.Test.YtjpmlmdbldcbjaaDoorRows
import GoSem.ClaimSeven
namespace Go.Proofs.YtjpmlmdbldcbjaaDoor
namespace Rows

/-- THE TIED CARD OF 'laws.FnExactSimplifyCasts'. -/
def fnExactSimplifyCastsCard : Claim7 := { stood := { row := fnExactSimplifyCastsRow, standIns := [], harness := (true, "79ad8f7f48c35bd941d46d5bcb22fd96c751811945711a9cb6345fef42273868"), looks := false }, kinds := [], alts := [], laidByText := true, laidKinds := [.data], laidTests := true, laidLooks := .later }
def FnExactSimplifyCastsCardSaid : Prop := Claim7.holds Tryd.pinned (.plain (OpenSpec.ofChange fnExactSimplifyCastsSpec)) fnExactSimplifyCastsCard

/-- THE TIED CARD OF 'laws.FnExactRedundantCasts'. -/
def fnExactRedundantCastsCard : Claim7 := { stood := { row := fnExactRedundantCastsRow, standIns := [], harness := (true, "79ad8f7f48c35bd941d46d5bcb22fd96c751811945711a9cb6345fef42273868"), looks := false }, kinds := [], alts := [], laidByText := true, laidKinds := [.data], laidTests := true, laidLooks := .later }
def FnExactRedundantCastsCardSaid : Prop := Claim7.holds Tryd.pinned (.plain (OpenSpec.ofChange fnExactRedundantCastsSpec)) fnExactRedundantCastsCard

/-- THE TIED CARD OF 'laws.FnExactRelabelCasts'. -/
def fnExactRelabelCastsCard : Claim7 := { stood := { row := fnExactRelabelCastsRow, standIns := [], harness := (true, "79ad8f7f48c35bd941d46d5bcb22fd96c751811945711a9cb6345fef42273868"), looks := false }, kinds := [], alts := [], laidByText := true, laidKinds := [.data], laidTests := true, laidLooks := .later }
def FnExactRelabelCastsCardSaid : Prop := Claim7.holds Tryd.pinned (.plain (OpenSpec.ofChange fnExactRelabelCastsSpec)) fnExactRelabelCastsCard

/-- THE TIED CARD OF 'laws.FnExactDynamicCasts'. -/
def fnExactDynamicCastsCard : Claim7 := { stood := { row := fnExactDynamicCastsRow, standIns := [], harness := (true, "79ad8f7f48c35bd941d46d5bcb22fd96c751811945711a9cb6345fef42273868"), looks := false }, kinds := [], alts := [], laidByText := true, laidKinds := [.data], laidTests := true, laidLooks := .later }
def FnExactDynamicCastsCardSaid : Prop := Claim7.holds Tryd.pinned (.plain (OpenSpec.ofChange fnExactDynamicCastsSpec)) fnExactDynamicCastsCard

/-- THE SECOND FORM's CARD OF 'laws.FnExactSimplifyCasts'. -/
def fnExactSimplifyCastsUptoCard : Claim7 := { stood := { row := fnExactSimplifyCastsUptoRow, standIns := [], harness := (true, "79ad8f7f48c35bd941d46d5bcb22fd96c751811945711a9cb6345fef42273868"), looks := false }, kinds := [], alts := [], laidByText := true, laidKinds := [.data], laidTests := true, laidLooks := .later }
def FnExactSimplifyCastsUptoCardSaid : Prop := Claim7.holds Tryd.pinned (.plain (OpenSpec.upto fnExactSimplifyCastsSpec)) fnExactSimplifyCastsUptoCard

/-- THE SECOND FORM's CARD OF 'laws.FnExactRedundantCasts'. -/
def fnExactRedundantCastsUptoCard : Claim7 := { stood := { row := fnExactRedundantCastsUptoRow, standIns := [], harness := (true, "79ad8f7f48c35bd941d46d5bcb22fd96c751811945711a9cb6345fef42273868"), looks := false }, kinds := [], alts := [], laidByText := true, laidKinds := [.data], laidTests := true, laidLooks := .later }
def FnExactRedundantCastsUptoCardSaid : Prop := Claim7.holds Tryd.pinned (.plain (OpenSpec.upto fnExactRedundantCastsSpec)) fnExactRedundantCastsUptoCard

/-- THE SECOND FORM's CARD OF 'laws.FnExactRelabelCasts'. -/
def fnExactRelabelCastsUptoCard : Claim7 := { stood := { row := fnExactRelabelCastsUptoRow, standIns := [], harness := (true, "79ad8f7f48c35bd941d46d5bcb22fd96c751811945711a9cb6345fef42273868"), looks := false }, kinds := [], alts := [], laidByText := true, laidKinds := [.data], laidTests := true, laidLooks := .later }
def FnExactRelabelCastsUptoCardSaid : Prop := Claim7.holds Tryd.pinned (.plain (OpenSpec.upto fnExactRelabelCastsSpec)) fnExactRelabelCastsUptoCard

/-- THE SECOND FORM's CARD OF 'laws.FnExactDynamicCasts'. -/
def fnExactDynamicCastsUptoCard : Claim7 := { stood := { row := fnExactDynamicCastsUptoRow, standIns := [], harness := (true, "79ad8f7f48c35bd941d46d5bcb22fd96c751811945711a9cb6345fef42273868"), looks := false }, kinds := [], alts := [], laidByText := true, laidKinds := [.data], laidTests := true, laidLooks := .later }
def FnExactDynamicCastsUptoCardSaid : Prop := Claim7.holds Tryd.pinned (.plain (OpenSpec.upto fnExactDynamicCastsSpec)) fnExactDynamicCastsUptoCard
end Rows
end Go.Proofs.YtjpmlmdbldcbjaaDoor
