/-
  DERIVED. GIVEN WITH THE SEED: THE CARDS: each row of YtppjeeklckdlgaaDoorRows.lean that lists a variable, with what it lists TIED to the program's text (the seventh form; the later family's looks); each row that meets fmt, with fmt's text TOLD by the authors' own Lean function (tested against real Go, not proved from fmt's source: count such statements apart). THE CARD IS WHAT COUNTS. Prove the row's statement (the work); the ties are given (YtppjeeklckdlgaaDoorTie.lean); close each card by the builder's one call (the guide's Derived/Test/ToyasCard.lean, 'card_holds'). Laid BY PROGRAM, IN A SANDBOX (cutbox-door.mjs). By AI agents, Wed Nov 11 2026. No macro, syntax, notation, axiom, sorry.
-/
import Derived.Test.YtppjeeklckdlgaaDoorRows
import GoSem.ClaimSeven
namespace Go.Proofs.YtppjeeklckdlgaaDoor
namespace Rows

/-- THE TIED CARD OF 'laws.FnExactTermPrecise'. -/
def fnExactTermPreciseCard : Claim7 := { stood := { row := fnExactTermPreciseRow, standIns := [], harness := (true, "f897a0e5f5dc2657191cbea9c3ceb6ddd545741f73ef67546ff1162a15879ace"), looks := false }, kinds := [], alts := [], laidByText := true, laidKinds := [.data], laidTests := true, laidLooks := .later }
def FnExactTermPreciseCardSaid : Prop := Claim7.holds Tryd.pinned (.plain (OpenSpec.ofChange fnExactTermPreciseSpec)) fnExactTermPreciseCard

/-- THE TIED CARD OF 'laws.FnExactPrecisionOf'. -/
def fnExactPrecisionOfCard : Claim7 := { stood := { row := fnExactPrecisionOfRow, standIns := [], harness := (true, "f897a0e5f5dc2657191cbea9c3ceb6ddd545741f73ef67546ff1162a15879ace"), looks := false }, kinds := [], alts := [], laidByText := true, laidKinds := [.data], laidTests := true, laidLooks := .later }
def FnExactPrecisionOfCardSaid : Prop := Claim7.holds Tryd.pinned (.plain (OpenSpec.ofChange fnExactPrecisionOfSpec)) fnExactPrecisionOfCard

/-- THE TIED CARD OF 'laws.FnExactMergeTerms'. -/
def fnExactMergeTermsCard : Claim7 := { stood := { row := fnExactMergeTermsRow, standIns := [], harness := (true, "f897a0e5f5dc2657191cbea9c3ceb6ddd545741f73ef67546ff1162a15879ace"), looks := false }, kinds := [], alts := [], laidByText := true, laidKinds := [.data], laidTests := true, laidLooks := .later }
def FnExactMergeTermsCardSaid : Prop := Claim7.holds Tryd.pinned (.plain (OpenSpec.ofChange fnExactMergeTermsSpec)) fnExactMergeTermsCard

/-- THE TIED CARD OF 'laws.FnExactTypeIn'. -/
def fnExactTypeInCard : Claim7 := { stood := { row := fnExactTypeInRow, standIns := [], harness := (true, "f897a0e5f5dc2657191cbea9c3ceb6ddd545741f73ef67546ff1162a15879ace"), looks := false }, kinds := [], alts := [], laidByText := true, laidKinds := [.data], laidTests := true, laidLooks := .later }
def FnExactTypeInCardSaid : Prop := Claim7.holds Tryd.pinned (.plain (OpenSpec.ofChange fnExactTypeInSpec)) fnExactTypeInCard

/-- THE TIED CARD OF 'laws.FnExactTypeOf'. -/
def fnExactTypeOfCard : Claim7 := { stood := { row := fnExactTypeOfRow, standIns := [], harness := (true, "f897a0e5f5dc2657191cbea9c3ceb6ddd545741f73ef67546ff1162a15879ace"), looks := false }, kinds := [], alts := [], laidByText := true, laidKinds := [.data], laidTests := true, laidLooks := .later }
def FnExactTypeOfCardSaid : Prop := Claim7.holds Tryd.pinned (.plain (OpenSpec.ofChange fnExactTypeOfSpec)) fnExactTypeOfCard

/-- THE TIED CARD OF 'laws.FnExactCastTypeOf'. -/
def fnExactCastTypeOfCard : Claim7 := { stood := { row := fnExactCastTypeOfRow, standIns := [], harness := (true, "f897a0e5f5dc2657191cbea9c3ceb6ddd545741f73ef67546ff1162a15879ace"), looks := false }, kinds := [], alts := [], laidByText := true, laidKinds := [.data], laidTests := true, laidLooks := .later }
def FnExactCastTypeOfCardSaid : Prop := Claim7.holds Tryd.pinned (.plain (OpenSpec.ofChange fnExactCastTypeOfSpec)) fnExactCastTypeOfCard

/-- THE SECOND FORM's CARD OF 'laws.FnExactTermPrecise'. -/
def fnExactTermPreciseUptoCard : Claim7 := { stood := { row := fnExactTermPreciseUptoRow, standIns := [], harness := (true, "f897a0e5f5dc2657191cbea9c3ceb6ddd545741f73ef67546ff1162a15879ace"), looks := false }, kinds := [], alts := [], laidByText := true, laidKinds := [.data], laidTests := true, laidLooks := .later }
def FnExactTermPreciseUptoCardSaid : Prop := Claim7.holds Tryd.pinned (.plain (OpenSpec.upto fnExactTermPreciseSpec)) fnExactTermPreciseUptoCard

/-- THE SECOND FORM's CARD OF 'laws.FnExactPrecisionOf'. -/
def fnExactPrecisionOfUptoCard : Claim7 := { stood := { row := fnExactPrecisionOfUptoRow, standIns := [], harness := (true, "f897a0e5f5dc2657191cbea9c3ceb6ddd545741f73ef67546ff1162a15879ace"), looks := false }, kinds := [], alts := [], laidByText := true, laidKinds := [.data], laidTests := true, laidLooks := .later }
def FnExactPrecisionOfUptoCardSaid : Prop := Claim7.holds Tryd.pinned (.plain (OpenSpec.upto fnExactPrecisionOfSpec)) fnExactPrecisionOfUptoCard

/-- THE SECOND FORM's CARD OF 'laws.FnExactMergeTerms'. -/
def fnExactMergeTermsUptoCard : Claim7 := { stood := { row := fnExactMergeTermsUptoRow, standIns := [], harness := (true, "f897a0e5f5dc2657191cbea9c3ceb6ddd545741f73ef67546ff1162a15879ace"), looks := false }, kinds := [], alts := [], laidByText := true, laidKinds := [.data], laidTests := true, laidLooks := .later }
def FnExactMergeTermsUptoCardSaid : Prop := Claim7.holds Tryd.pinned (.plain (OpenSpec.upto fnExactMergeTermsSpec)) fnExactMergeTermsUptoCard

/-- THE SECOND FORM's CARD OF 'laws.FnExactTypeIn'. -/
def fnExactTypeInUptoCard : Claim7 := { stood := { row := fnExactTypeInUptoRow, standIns := [], harness := (true, "f897a0e5f5dc2657191cbea9c3ceb6ddd545741f73ef67546ff1162a15879ace"), looks := false }, kinds := [], alts := [], laidByText := true, laidKinds := [.data], laidTests := true, laidLooks := .later }
def FnExactTypeInUptoCardSaid : Prop := Claim7.holds Tryd.pinned (.plain (OpenSpec.upto fnExactTypeInSpec)) fnExactTypeInUptoCard

/-- THE SECOND FORM's CARD OF 'laws.FnExactTypeOf'. -/
def fnExactTypeOfUptoCard : Claim7 := { stood := { row := fnExactTypeOfUptoRow, standIns := [], harness := (true, "f897a0e5f5dc2657191cbea9c3ceb6ddd545741f73ef67546ff1162a15879ace"), looks := false }, kinds := [], alts := [], laidByText := true, laidKinds := [.data], laidTests := true, laidLooks := .later }
def FnExactTypeOfUptoCardSaid : Prop := Claim7.holds Tryd.pinned (.plain (OpenSpec.upto fnExactTypeOfSpec)) fnExactTypeOfUptoCard

/-- THE SECOND FORM's CARD OF 'laws.FnExactCastTypeOf'. -/
def fnExactCastTypeOfUptoCard : Claim7 := { stood := { row := fnExactCastTypeOfUptoRow, standIns := [], harness := (true, "f897a0e5f5dc2657191cbea9c3ceb6ddd545741f73ef67546ff1162a15879ace"), looks := false }, kinds := [], alts := [], laidByText := true, laidKinds := [.data], laidTests := true, laidLooks := .later }
def FnExactCastTypeOfUptoCardSaid : Prop := Claim7.holds Tryd.pinned (.plain (OpenSpec.upto fnExactCastTypeOfSpec)) fnExactCastTypeOfUptoCard
end Rows
end Go.Proofs.YtppjeeklckdlgaaDoor
