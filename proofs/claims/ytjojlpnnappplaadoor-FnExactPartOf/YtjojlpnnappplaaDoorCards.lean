/-
  DERIVED. GIVEN WITH THE SEED: THE CARDS: each row of YtjojlpnnappplaaDoorRows.lean that lists a variable, with what it lists TIED to the program's text (the seventh form; the later family's looks); each row that meets fmt, with fmt's text TOLD by the authors' own Lean function (tested against real Go, not proved from fmt's source: count such statements apart). THE CARD IS WHAT COUNTS. Prove the row's statement (the work); the ties are given (YtjojlpnnappplaaDoorTie.lean); close each card by the builder's one call (the guide's Derived/Test/ToyasCard.lean, 'card_holds'). Laid BY PROGRAM, IN A SANDBOX (cutbox-door.mjs). By AI agents, Wed Nov 11 2026. No macro, syntax, notation, axiom, sorry.
-/
import Derived.Test.YtjojlpnnappplaaDoorRows
import GoSem.ClaimSeven
namespace Go.Proofs.YtjojlpnnappplaaDoor
namespace Rows

/-- THE TIED CARD OF 'laws.FnExactWordRight'. -/
def fnExactWordRightCard : Claim7 := { stood := { row := fnExactWordRightRow, standIns := [], harness := (true, "b961913c85a3cdffbb970271abcb18680bbb5d95810e9a7cdd0da974a9506f22"), looks := true }, kinds := [], alts := [], laidByText := true, laidKinds := [.data], laidTests := true, laidLooks := .later }
def FnExactWordRightCardSaid : Prop := Claim7.holds Tryd.pinned (.plain (OpenSpec.ofChange fnExactWordRightSpec)) fnExactWordRightCard

/-- THE TIED CARD OF 'laws.FnExactFormulaRight'. -/
def fnExactFormulaRightCard : Claim7 := { stood := { row := fnExactFormulaRightRow, standIns := [], harness := (true, "b961913c85a3cdffbb970271abcb18680bbb5d95810e9a7cdd0da974a9506f22"), looks := true }, kinds := [], alts := [], laidByText := true, laidKinds := [.data, .sentinel], laidTests := true, laidLooks := .later }
def FnExactFormulaRightCardSaid : Prop := Claim7.holds Tryd.pinned (.plain (OpenSpec.ofChange fnExactFormulaRightSpec)) fnExactFormulaRightCard

/-- THE TIED CARD OF 'laws.FnExactFormulaText'. -/
def fnExactFormulaTextCard : Claim7 := { stood := { row := fnExactFormulaTextRow, standIns := [], harness := (true, "b961913c85a3cdffbb970271abcb18680bbb5d95810e9a7cdd0da974a9506f22"), looks := true }, kinds := [], alts := [], laidByText := true, laidKinds := [.data, .data, .data, .data, .sentinel], laidTests := true, laidLooks := .later }
def FnExactFormulaTextCardSaid : Prop := Claim7.holds Tryd.pinned (.plain (OpenSpec.ofChange fnExactFormulaTextSpec)) fnExactFormulaTextCard

/-- THE TIED CARD OF 'laws.FnExactDepthOf'. -/
def fnExactDepthOfCard : Claim7 := { stood := { row := fnExactDepthOfRow, standIns := [], harness := (true, "b961913c85a3cdffbb970271abcb18680bbb5d95810e9a7cdd0da974a9506f22"), looks := true }, kinds := [], alts := [], laidByText := true, laidKinds := [.data, .sentinel], laidTests := true, laidLooks := .later }
def FnExactDepthOfCardSaid : Prop := Claim7.holds Tryd.pinned (.plain (OpenSpec.ofChange fnExactDepthOfSpec)) fnExactDepthOfCard

/-- THE TIED CARD OF 'laws.FnExactAtomsOf'. -/
def fnExactAtomsOfCard : Claim7 := { stood := { row := fnExactAtomsOfRow, standIns := [], harness := (true, "b961913c85a3cdffbb970271abcb18680bbb5d95810e9a7cdd0da974a9506f22"), looks := true }, kinds := [], alts := [], laidByText := true, laidKinds := [.data, .sentinel], laidTests := true, laidLooks := .later }
def FnExactAtomsOfCardSaid : Prop := Claim7.holds Tryd.pinned (.plain (OpenSpec.ofChange fnExactAtomsOfSpec)) fnExactAtomsOfCard

/-- THE TIED CARD OF 'laws.FnExactBoundOf'. -/
def fnExactBoundOfCard : Claim7 := { stood := { row := fnExactBoundOfRow, standIns := [], harness := (true, "b961913c85a3cdffbb970271abcb18680bbb5d95810e9a7cdd0da974a9506f22"), looks := true }, kinds := [], alts := [], laidByText := true, laidKinds := [.data, .sentinel], laidTests := true, laidLooks := .later }
def FnExactBoundOfCardSaid : Prop := Claim7.holds Tryd.pinned (.plain (OpenSpec.ofChange fnExactBoundOfSpec)) fnExactBoundOfCard

/-- THE TIED CARD OF 'laws.FnExactPartOf'. -/
def fnExactPartOfCard : Claim7 := { stood := { row := fnExactPartOfRow, standIns := [], harness := (true, "b961913c85a3cdffbb970271abcb18680bbb5d95810e9a7cdd0da974a9506f22"), looks := true }, kinds := [], alts := [], laidByText := true, laidKinds := [.data, .sentinel], laidTests := true, laidLooks := .later }
def FnExactPartOfCardSaid : Prop := Claim7.holds Tryd.pinned (.plain (OpenSpec.ofChange fnExactPartOfSpec)) fnExactPartOfCard

/-- THE SECOND FORM's CARD OF 'laws.FnExactWordRight'. -/
def fnExactWordRightUptoCard : Claim7 := { stood := { row := fnExactWordRightUptoRow, standIns := [], harness := (true, "b961913c85a3cdffbb970271abcb18680bbb5d95810e9a7cdd0da974a9506f22"), looks := true }, kinds := [], alts := [], laidByText := true, laidKinds := [.data], laidTests := true, laidLooks := .later }
def FnExactWordRightUptoCardSaid : Prop := Claim7.holds Tryd.pinned (.plain (OpenSpec.upto fnExactWordRightSpec)) fnExactWordRightUptoCard

/-- THE SECOND FORM's CARD OF 'laws.FnExactFormulaRight'. -/
def fnExactFormulaRightUptoCard : Claim7 := { stood := { row := fnExactFormulaRightUptoRow, standIns := [], harness := (true, "b961913c85a3cdffbb970271abcb18680bbb5d95810e9a7cdd0da974a9506f22"), looks := true }, kinds := [], alts := [], laidByText := true, laidKinds := [.data, .sentinel], laidTests := true, laidLooks := .later }
def FnExactFormulaRightUptoCardSaid : Prop := Claim7.holds Tryd.pinned (.plain (OpenSpec.upto fnExactFormulaRightSpec)) fnExactFormulaRightUptoCard

/-- THE SECOND FORM's CARD OF 'laws.FnExactFormulaText'. -/
def fnExactFormulaTextUptoCard : Claim7 := { stood := { row := fnExactFormulaTextUptoRow, standIns := [], harness := (true, "b961913c85a3cdffbb970271abcb18680bbb5d95810e9a7cdd0da974a9506f22"), looks := true }, kinds := [], alts := [], laidByText := true, laidKinds := [.data, .data, .data, .data, .sentinel], laidTests := true, laidLooks := .later }
def FnExactFormulaTextUptoCardSaid : Prop := Claim7.holds Tryd.pinned (.plain (OpenSpec.upto fnExactFormulaTextSpec)) fnExactFormulaTextUptoCard

/-- THE SECOND FORM's CARD OF 'laws.FnExactDepthOf'. -/
def fnExactDepthOfUptoCard : Claim7 := { stood := { row := fnExactDepthOfUptoRow, standIns := [], harness := (true, "b961913c85a3cdffbb970271abcb18680bbb5d95810e9a7cdd0da974a9506f22"), looks := true }, kinds := [], alts := [], laidByText := true, laidKinds := [.data, .sentinel], laidTests := true, laidLooks := .later }
def FnExactDepthOfUptoCardSaid : Prop := Claim7.holds Tryd.pinned (.plain (OpenSpec.upto fnExactDepthOfSpec)) fnExactDepthOfUptoCard

/-- THE SECOND FORM's CARD OF 'laws.FnExactAtomsOf'. -/
def fnExactAtomsOfUptoCard : Claim7 := { stood := { row := fnExactAtomsOfUptoRow, standIns := [], harness := (true, "b961913c85a3cdffbb970271abcb18680bbb5d95810e9a7cdd0da974a9506f22"), looks := true }, kinds := [], alts := [], laidByText := true, laidKinds := [.data, .sentinel], laidTests := true, laidLooks := .later }
def FnExactAtomsOfUptoCardSaid : Prop := Claim7.holds Tryd.pinned (.plain (OpenSpec.upto fnExactAtomsOfSpec)) fnExactAtomsOfUptoCard

/-- THE SECOND FORM's CARD OF 'laws.FnExactBoundOf'. -/
def fnExactBoundOfUptoCard : Claim7 := { stood := { row := fnExactBoundOfUptoRow, standIns := [], harness := (true, "b961913c85a3cdffbb970271abcb18680bbb5d95810e9a7cdd0da974a9506f22"), looks := true }, kinds := [], alts := [], laidByText := true, laidKinds := [.data, .sentinel], laidTests := true, laidLooks := .later }
def FnExactBoundOfUptoCardSaid : Prop := Claim7.holds Tryd.pinned (.plain (OpenSpec.upto fnExactBoundOfSpec)) fnExactBoundOfUptoCard

/-- THE SECOND FORM's CARD OF 'laws.FnExactPartOf'. -/
def fnExactPartOfUptoCard : Claim7 := { stood := { row := fnExactPartOfUptoRow, standIns := [], harness := (true, "b961913c85a3cdffbb970271abcb18680bbb5d95810e9a7cdd0da974a9506f22"), looks := true }, kinds := [], alts := [], laidByText := true, laidKinds := [.data, .sentinel], laidTests := true, laidLooks := .later }
def FnExactPartOfUptoCardSaid : Prop := Claim7.holds Tryd.pinned (.plain (OpenSpec.upto fnExactPartOfSpec)) fnExactPartOfUptoCard
end Rows
end Go.Proofs.YtjojlpnnappplaaDoor
