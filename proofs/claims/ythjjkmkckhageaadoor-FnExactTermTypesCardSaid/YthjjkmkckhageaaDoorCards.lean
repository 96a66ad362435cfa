/-
  DERIVED. GIVEN WITH THE SEED: THE CARDS: each row of YthjjkmkckhageaaDoorRows.lean that lists a variable, with what it lists TIED to the program's text (the seventh form; the later family's looks); each row that meets fmt, with fmt's text TOLD by the authors' own Lean function (tested against real Go, not proved from fmt's source: count such statements apart). THE CARD IS WHAT COUNTS. Prove the row's statement (the work); the ties are given (YthjjkmkckhageaaDoorTie.lean); close each card by the builder's one call (the guide's Derived/Test/ToyasCard.lean, 'card_holds'). Laid BY PROGRAM, IN A SANDBOX (cutbox-door.mjs). By AI agents, Wed Nov 11 2026. No macro, syntax, notation, axiom, sorry.
-/
import Derived.Test.YthjjkmkckhageaaDoorRows
import GoSem.ClaimSeven
namespace Go.Proofs.YthjjkmkckhageaaDoor
namespace Rows

/-- THE TIED CARD OF 'laws.FnSubstTwice'. -/
def fnSubstTwiceCard : Claim7 := { stood := { row := fnSubstTwiceRow, standIns := [], harness := (true, "9185edc0e9e9200f69ff429849efc959cfe4ea5238c71c95faa4d26b1a5e5641"), looks := false }, kinds := [], alts := [], laidByText := true, laidKinds := [.data], laidTests := true, laidLooks := .later }
def FnSubstTwiceCardSaid : Prop := Claim7.holds Tryd.pinned (.plain (OpenSpec.ofChange fnSubstTwiceSpec)) fnSubstTwiceCard

/-- THE TIED CARD OF 'laws.FnEraseTerm'. -/
def fnEraseTermCard : Claim7 := { stood := { row := fnEraseTermRow, standIns := [], harness := (true, "9185edc0e9e9200f69ff429849efc959cfe4ea5238c71c95faa4d26b1a5e5641"), looks := false }, kinds := [], alts := [], laidByText := true, laidKinds := [.data], laidTests := true, laidLooks := .later }
def FnEraseTermCardSaid : Prop := Claim7.holds Tryd.pinned (.plain (OpenSpec.ofChange fnEraseTermSpec)) fnEraseTermCard

/-- THE TIED CARD OF 'laws.FnExactTermValid'. -/
def fnExactTermValidCard : Claim7 := { stood := { row := fnExactTermValidRow, standIns := [], harness := (true, "9185edc0e9e9200f69ff429849efc959cfe4ea5238c71c95faa4d26b1a5e5641"), looks := false }, kinds := [], alts := [], laidByText := true, laidKinds := [.data], laidTests := true, laidLooks := .later }
def FnExactTermValidCardSaid : Prop := Claim7.holds Tryd.pinned (.plain (OpenSpec.ofChange fnExactTermValidSpec)) fnExactTermValidCard

/-- THE TIED CARD OF 'laws.FnExactFormatTerm'. -/
def fnExactFormatTermCard : Claim7 := { stood := { row := fnExactFormatTermRow, standIns := [], harness := (true, "9185edc0e9e9200f69ff429849efc959cfe4ea5238c71c95faa4d26b1a5e5641"), looks := false }, kinds := [], alts := [], laidByText := true, laidKinds := [.data, .data, .data, .data], laidTests := true, laidLooks := .later }
def FnExactFormatTermCardSaid : Prop := Claim7.holds Tryd.pinned (.plain (OpenSpec.ofChange fnExactFormatTermSpec)) fnExactFormatTermCard

/-- THE TIED CARD OF 'laws.FnExactParseTerm'. -/
def fnExactParseTermCard : Claim7 := { stood := { row := fnExactParseTermRow, standIns := [], harness := (true, "9185edc0e9e9200f69ff429849efc959cfe4ea5238c71c95faa4d26b1a5e5641"), looks := false }, kinds := [], alts := [], laidByText := true, laidKinds := [.data], laidTests := true, laidLooks := .later }
def FnExactParseTermCardSaid : Prop := Claim7.holds Tryd.pinned (.plain (OpenSpec.ofChange fnExactParseTermSpec)) fnExactParseTermCard

/-- THE TIED CARD OF 'laws.FnExactFreeNames'. -/
def fnExactFreeNamesCard : Claim7 := { stood := { row := fnExactFreeNamesRow, standIns := [], harness := (true, "9185edc0e9e9200f69ff429849efc959cfe4ea5238c71c95faa4d26b1a5e5641"), looks := false }, kinds := [], alts := [], laidByText := true, laidKinds := [.data], laidTests := true, laidLooks := .later }
def FnExactFreeNamesCardSaid : Prop := Claim7.holds Tryd.pinned (.plain (OpenSpec.ofChange fnExactFreeNamesSpec)) fnExactFreeNamesCard

/-- THE TIED CARD OF 'laws.FnExactSubstTerm'. -/
def fnExactSubstTermCard : Claim7 := { stood := { row := fnExactSubstTermRow, standIns := [], harness := (true, "9185edc0e9e9200f69ff429849efc959cfe4ea5238c71c95faa4d26b1a5e5641"), looks := false }, kinds := [], alts := [], laidByText := true, laidKinds := [.data], laidTests := true, laidLooks := .later }
def FnExactSubstTermCardSaid : Prop := Claim7.holds Tryd.pinned (.plain (OpenSpec.ofChange fnExactSubstTermSpec)) fnExactSubstTermCard

/-- THE TIED CARD OF 'laws.FnExactEraseTerm'. -/
def fnExactEraseTermCard : Claim7 := { stood := { row := fnExactEraseTermRow, standIns := [], harness := (true, "9185edc0e9e9200f69ff429849efc959cfe4ea5238c71c95faa4d26b1a5e5641"), looks := false }, kinds := [], alts := [], laidByText := true, laidKinds := [.data], laidTests := true, laidLooks := .later }
def FnExactEraseTermCardSaid : Prop := Claim7.holds Tryd.pinned (.plain (OpenSpec.ofChange fnExactEraseTermSpec)) fnExactEraseTermCard

/-- THE TIED CARD OF 'laws.FnExactCountNodes'. -/
def fnExactCountNodesCard : Claim7 := { stood := { row := fnExactCountNodesRow, standIns := [], harness := (true, "9185edc0e9e9200f69ff429849efc959cfe4ea5238c71c95faa4d26b1a5e5641"), looks := false }, kinds := [], alts := [], laidByText := true, laidKinds := [.data], laidTests := true, laidLooks := .later }
def FnExactCountNodesCardSaid : Prop := Claim7.holds Tryd.pinned (.plain (OpenSpec.ofChange fnExactCountNodesSpec)) fnExactCountNodesCard

/-- THE TIED CARD OF 'laws.FnExactTermTypes'. -/
def fnExactTermTypesCard : Claim7 := { stood := { row := fnExactTermTypesRow, standIns := [], harness := (true, "9185edc0e9e9200f69ff429849efc959cfe4ea5238c71c95faa4d26b1a5e5641"), looks := false }, kinds := [], alts := [], laidByText := true, laidKinds := [.data], laidTests := true, laidLooks := .later }
def FnExactTermTypesCardSaid : Prop := Claim7.holds Tryd.pinned (.plain (OpenSpec.ofChange fnExactTermTypesSpec)) fnExactTermTypesCard

/-- THE TIED CARD OF 'laws.FnExactWithTypes'. -/
def fnExactWithTypesCard : Claim7 := { stood := { row := fnExactWithTypesRow, standIns := [], harness := (true, "9185edc0e9e9200f69ff429849efc959cfe4ea5238c71c95faa4d26b1a5e5641"), looks := false }, kinds := [], alts := [], laidByText := true, laidKinds := [.data], laidTests := true, laidLooks := .later }
def FnExactWithTypesCardSaid : Prop := Claim7.holds Tryd.pinned (.plain (OpenSpec.ofChange fnExactWithTypesSpec)) fnExactWithTypesCard

/-- THE SECOND FORM's CARD OF 'laws.FnSubstTwice'. -/
def fnSubstTwiceUptoCard : Claim7 := { stood := { row := fnSubstTwiceUptoRow, standIns := [], harness := (true, "9185edc0e9e9200f69ff429849efc959cfe4ea5238c71c95faa4d26b1a5e5641"), looks := false }, kinds := [], alts := [], laidByText := true, laidKinds := [.data], laidTests := true, laidLooks := .later }
def FnSubstTwiceUptoCardSaid : Prop := Claim7.holds Tryd.pinned (.plain (OpenSpec.upto fnSubstTwiceSpec)) fnSubstTwiceUptoCard

/-- THE SECOND FORM's CARD OF 'laws.FnEraseTerm'. -/
def fnEraseTermUptoCard : Claim7 := { stood := { row := fnEraseTermUptoRow, standIns := [], harness := (true, "9185edc0e9e9200f69ff429849efc959cfe4ea5238c71c95faa4d26b1a5e5641"), looks := false }, kinds := [], alts := [], laidByText := true, laidKinds := [.data], laidTests := true, laidLooks := .later }
def FnEraseTermUptoCardSaid : Prop := Claim7.holds Tryd.pinned (.plain (OpenSpec.upto fnEraseTermSpec)) fnEraseTermUptoCard

/-- THE SECOND FORM's CARD OF 'laws.FnExactTermValid'. -/
def fnExactTermValidUptoCard : Claim7 := { stood := { row := fnExactTermValidUptoRow, standIns := [], harness := (true, "9185edc0e9e9200f69ff429849efc959cfe4ea5238c71c95faa4d26b1a5e5641"), looks := false }, kinds := [], alts := [], laidByText := true, laidKinds := [.data], laidTests := true, laidLooks := .later }
def FnExactTermValidUptoCardSaid : Prop := Claim7.holds Tryd.pinned (.plain (OpenSpec.upto fnExactTermValidSpec)) fnExactTermValidUptoCard

/-- THE SECOND FORM's CARD OF 'laws.FnExactFormatTerm'. -/
def fnExactFormatTermUptoCard : Claim7 := { stood := { row := fnExactFormatTermUptoRow, standIns := [], harness := (true, "9185edc0e9e9200f69ff429849efc959cfe4ea5238c71c95faa4d26b1a5e5641"), looks := false }, kinds := [], alts := [], laidByText := true, laidKinds := [.data, .data, .data, .data], laidTests := true, laidLooks := .later }
def FnExactFormatTermUptoCardSaid : Prop := Claim7.holds Tryd.pinned (.plain (OpenSpec.upto fnExactFormatTermSpec)) fnExactFormatTermUptoCard

/-- THE SECOND FORM's CARD OF 'laws.FnExactParseTerm'. -/
def fnExactParseTermUptoCard : Claim7 := { stood := { row := fnExactParseTermUptoRow, standIns := [], harness := (true, "9185edc0e9e9200f69ff429849efc959cfe4ea5238c71c95faa4d26b1a5e5641"), looks := false }, kinds := [], alts := [], laidByText := true, laidKinds := [.data], laidTests := true, laidLooks := .later }
def FnExactParseTermUptoCardSaid : Prop := Claim7.holds Tryd.pinned (.plain (OpenSpec.upto fnExactParseTermSpec)) fnExactParseTermUptoCard

/-- THE SECOND FORM's CARD OF 'laws.FnExactFreeNames'. -/
def fnExactFreeNamesUptoCard : Claim7 := { stood := { row := fnExactFreeNamesUptoRow, standIns := [], harness := (true, "9185edc0e9e9200f69ff429849efc959cfe4ea5238c71c95faa4d26b1a5e5641"), looks := false }, kinds := [], alts := [], laidByText := true, laidKinds := [.data], laidTests := true, laidLooks := .later }
def FnExactFreeNamesUptoCardSaid : Prop := Claim7.holds Tryd.pinned (.plain (OpenSpec.upto fnExactFreeNamesSpec)) fnExactFreeNamesUptoCard

/-- THE SECOND FORM's CARD OF 'laws.FnExactSubstTerm'. -/
def fnExactSubstTermUptoCard : Claim7 := { stood := { row := fnExactSubstTermUptoRow, standIns := [], harness := (true, "9185edc0e9e9200f69ff429849efc959cfe4ea5238c71c95faa4d26b1a5e5641"), looks := false }, kinds := [], alts := [], laidByText := true, laidKinds := [.data], laidTests := true, laidLooks := .later }
def FnExactSubstTermUptoCardSaid : Prop := Claim7.holds Tryd.pinned (.plain (OpenSpec.upto fnExactSubstTermSpec)) fnExactSubstTermUptoCard

/-- THE SECOND FORM's CARD OF 'laws.FnExactEraseTerm'. -/
def fnExactEraseTermUptoCard : Claim7 := { stood := { row := fnExactEraseTermUptoRow, standIns := [], harness := (true, "9185edc0e9e9200f69ff429849efc959cfe4ea5238c71c95faa4d26b1a5e5641"), looks := false }, kinds := [], alts := [], laidByText := true, laidKinds := [.data], laidTests := true, laidLooks := .later }
def FnExactEraseTermUptoCardSaid : Prop := Claim7.holds Tryd.pinned (.plain (OpenSpec.upto fnExactEraseTermSpec)) fnExactEraseTermUptoCard

/-- THE SECOND FORM's CARD OF 'laws.FnExactCountNodes'. -/
def fnExactCountNodesUptoCard : Claim7 := { stood := { row := fnExactCountNodesUptoRow, standIns := [], harness := (true, "9185edc0e9e9200f69ff429849efc959cfe4ea5238c71c95faa4d26b1a5e5641"), looks := false }, kinds := [], alts := [], laidByText := true, laidKinds := [.data], laidTests := true, laidLooks := .later }
def FnExactCountNodesUptoCardSaid : Prop := Claim7.holds Tryd.pinned (.plain (OpenSpec.upto fnExactCountNodesSpec)) fnExactCountNodesUptoCard

/-- THE SECOND FORM's CARD OF 'laws.FnExactTermTypes'. -/
def fnExactTermTypesUptoCard : Claim7 := { stood := { row := fnExactTermTypesUptoRow, standIns := [], harness := (true, "9185edc0e9e9200f69ff429849efc959cfe4ea5238c71c95faa4d26b1a5e5641"), looks := false }, kinds := [], alts := [], laidByText := true, laidKinds := [.data], laidTests := true, laidLooks := .later }
def FnExactTermTypesUptoCardSaid : Prop := Claim7.holds Tryd.pinned (.plain (OpenSpec.upto fnExactTermTypesSpec)) fnExactTermTypesUptoCard

/-- THE SECOND FORM's CARD OF 'laws.FnExactWithTypes'. -/
def fnExactWithTypesUptoCard : Claim7 := { stood := { row := fnExactWithTypesUptoRow, standIns := [], harness := (true, "9185edc0e9e9200f69ff429849efc959cfe4ea5238c71c95faa4d26b1a5e5641"), looks := false }, kinds := [], alts := [], laidByText := true, laidKinds := [.data], laidTests := true, laidLooks := .later }
def FnExactWithTypesUptoCardSaid : Prop := Claim7.holds Tryd.pinned (.plain (OpenSpec.upto fnExactWithTypesSpec)) fnExactWithTypesUptoCard
end Rows
end Go.Proofs.YthjjkmkckhageaaDoor
