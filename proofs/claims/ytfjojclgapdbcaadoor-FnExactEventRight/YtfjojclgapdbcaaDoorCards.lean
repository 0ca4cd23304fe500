/-
  DERIVED. GIVEN WITH THE SEED: THE CARDS: each row of YtfjojclgapdbcaaDoorRows.lean that lists a variable, with what it lists TIED to the program's text (the seventh form; the later family's looks); each row that meets fmt, with fmt's text TOLD by the authors' own Lean function (tested against real Go, not proved from fmt's source: count such statements apart). THE CARD IS WHAT COUNTS. Prove the row's statement (the work); the ties are given (YtfjojclgapdbcaaDoorTie.lean); close each card by the builder's one call (the guide's Derived/Test/ToyasCard.lean, 'card_holds'). Laid BY PROGRAM, IN A SANDBOX (cutbox-door.mjs). By AI agents, Wed Nov 11 2026. No macro, syntax, notation, axiom, sorry.
-/
import Derived.Test.YtfjojclgapdbcaaDoorRows
import GoSem.ClaimSeven
namespace Go.Proofs.YtfjojclgapdbcaaDoor
namespace Rows

/-- THE TIED CARD OF 'laws.FnExactFormulaText'. -/
def fnExactFormulaTextCard : Claim7 := { stood := { row := fnExactFormulaTextRow, standIns := [], harness := (true, "f291bce42b738794101ff384c39ec0fe2a581287be331d94e8ccec4de42139ec"), looks := true }, kinds := [], alts := [], laidByText := true, laidKinds := [.data, .data, .data, .data, .sentinel], laidTests := true, laidLooks := .later }
def FnExactFormulaTextCardSaid : Prop := Claim7.holds Tryd.pinned (.plain (OpenSpec.ofChange fnExactFormulaTextSpec)) fnExactFormulaTextCard

/-- THE TIED CARD OF 'laws.FnExactAtomsOf'. -/
def fnExactAtomsOfCard : Claim7 := { stood := { row := fnExactAtomsOfRow, standIns := [], harness := (true, "f291bce42b738794101ff384c39ec0fe2a581287be331d94e8ccec4de42139ec"), looks := true }, kinds := [], alts := [], laidByText := true, laidKinds := [.data, .sentinel], laidTests := true, laidLooks := .later }
def FnExactAtomsOfCardSaid : Prop := Claim7.holds Tryd.pinned (.plain (OpenSpec.ofChange fnExactAtomsOfSpec)) fnExactAtomsOfCard

/-- THE TIED CARD OF 'laws.FnExactEventRight'. -/
def fnExactEventRightCard : Claim7 := { stood := { row := fnExactEventRightRow, standIns := [], harness := (true, "f291bce42b738794101ff384c39ec0fe2a581287be331d94e8ccec4de42139ec"), looks := true }, kinds := [], alts := [], laidByText := true, laidKinds := [.data], laidTests := true, laidLooks := .later }
def FnExactEventRightCardSaid : Prop := Claim7.holds Tryd.pinned (.plain (OpenSpec.ofChange fnExactEventRightSpec)) fnExactEventRightCard

/-- THE TIED CARD OF 'laws.FnExactEventHas'. -/
def fnExactEventHasCard : Claim7 := { stood := { row := fnExactEventHasRow, standIns := [], harness := (true, "f291bce42b738794101ff384c39ec0fe2a581287be331d94e8ccec4de42139ec"), looks := true }, kinds := [], alts := [], laidByText := true, laidKinds := [.data], laidTests := true, laidLooks := .later }
def FnExactEventHasCardSaid : Prop := Claim7.holds Tryd.pinned (.plain (OpenSpec.ofChange fnExactEventHasSpec)) fnExactEventHasCard

/-- THE TIED CARD OF 'laws.FnExactEventText'. -/
def fnExactEventTextCard : Claim7 := { stood := { row := fnExactEventTextRow, standIns := [], harness := (true, "f291bce42b738794101ff384c39ec0fe2a581287be331d94e8ccec4de42139ec"), looks := true }, kinds := [], alts := [], laidByText := true, laidKinds := [.data, .data, .data, .data], laidTests := true, laidLooks := .later }
def FnExactEventTextCardSaid : Prop := Claim7.holds Tryd.pinned (.plain (OpenSpec.ofChange fnExactEventTextSpec)) fnExactEventTextCard

/-- THE TIED CARD OF 'laws.FnExactEventRead'. -/
def fnExactEventReadCard : Claim7 := { stood := { row := fnExactEventReadRow, standIns := [], harness := (true, "f291bce42b738794101ff384c39ec0fe2a581287be331d94e8ccec4de42139ec"), looks := true }, kinds := [], alts := [], laidByText := true, laidKinds := [.data, .data, .data, .sentinel, .sentinel, .data], laidTests := true, laidLooks := .later }
def FnExactEventReadCardSaid : Prop := Claim7.holds Tryd.pinned (.plain (OpenSpec.ofChange fnExactEventReadSpec)) fnExactEventReadCard

/-- THE TIED CARD OF 'laws.FnExactTraceRight'. -/
def fnExactTraceRightCard : Claim7 := { stood := { row := fnExactTraceRightRow, standIns := [], harness := (true, "f291bce42b738794101ff384c39ec0fe2a581287be331d94e8ccec4de42139ec"), looks := true }, kinds := [], alts := [], laidByText := true, laidKinds := [.data], laidTests := true, laidLooks := .later }
def FnExactTraceRightCardSaid : Prop := Claim7.holds Tryd.pinned (.plain (OpenSpec.ofChange fnExactTraceRightSpec)) fnExactTraceRightCard

/-- THE TIED CARD OF 'laws.FnExactClamp'. -/
def fnExactClampCard : Claim7 := { stood := { row := fnExactClampRow, standIns := [], harness := (true, "f291bce42b738794101ff384c39ec0fe2a581287be331d94e8ccec4de42139ec"), looks := true }, kinds := [], alts := [], laidByText := true, laidKinds := [.data], laidTests := true, laidLooks := .later }
def FnExactClampCardSaid : Prop := Claim7.holds Tryd.pinned (.plain (OpenSpec.ofChange fnExactClampSpec)) fnExactClampCard

/-- THE SECOND FORM's CARD OF 'laws.FnExactFormulaText'. -/
def fnExactFormulaTextUptoCard : Claim7 := { stood := { row := fnExactFormulaTextUptoRow, standIns := [], harness := (true, "f291bce42b738794101ff384c39ec0fe2a581287be331d94e8ccec4de42139ec"), looks := true }, kinds := [], alts := [], laidByText := true, laidKinds := [.data, .data, .data, .data, .sentinel], laidTests := true, laidLooks := .later }
def FnExactFormulaTextUptoCardSaid : Prop := Claim7.holds Tryd.pinned (.plain (OpenSpec.upto fnExactFormulaTextSpec)) fnExactFormulaTextUptoCard

/-- THE SECOND FORM's CARD OF 'laws.FnExactAtomsOf'. -/
def fnExactAtomsOfUptoCard : Claim7 := { stood := { row := fnExactAtomsOfUptoRow, standIns := [], harness := (true, "f291bce42b738794101ff384c39ec0fe2a581287be331d94e8ccec4de42139ec"), looks := true }, kinds := [], alts := [], laidByText := true, laidKinds := [.data, .sentinel], laidTests := true, laidLooks := .later }
def FnExactAtomsOfUptoCardSaid : Prop := Claim7.holds Tryd.pinned (.plain (OpenSpec.upto fnExactAtomsOfSpec)) fnExactAtomsOfUptoCard

/-- THE SECOND FORM's CARD OF 'laws.FnExactEventRight'. -/
def fnExactEventRightUptoCard : Claim7 := { stood := { row := fnExactEventRightUptoRow, standIns := [], harness := (true, "f291bce42b738794101ff384c39ec0fe2a581287be331d94e8ccec4de42139ec"), looks := true }, kinds := [], alts := [], laidByText := true, laidKinds := [.data], laidTests := true, laidLooks := .later }
def FnExactEventRightUptoCardSaid : Prop := Claim7.holds Tryd.pinned (.plain (OpenSpec.upto fnExactEventRightSpec)) fnExactEventRightUptoCard

/-- THE SECOND FORM's CARD OF 'laws.FnExactEventHas'. -/
def fnExactEventHasUptoCard : Claim7 := { stood := { row := fnExactEventHasUptoRow, standIns := [], harness := (true, "f291bce42b738794101ff384c39ec0fe2a581287be331d94e8ccec4de42139ec"), looks := true }, kinds := [], alts := [], laidByText := true, laidKinds := [.data], laidTests := true, laidLooks := .later }
def FnExactEventHasUptoCardSaid : Prop := Claim7.holds Tryd.pinned (.plain (OpenSpec.upto fnExactEventHasSpec)) fnExactEventHasUptoCard

/-- THE SECOND FORM's CARD OF 'laws.FnExactEventText'. -/
def fnExactEventTextUptoCard : Claim7 := { stood := { row := fnExactEventTextUptoRow, standIns := [], harness := (true, "f291bce42b738794101ff384c39ec0fe2a581287be331d94e8ccec4de42139ec"), looks := true }, kinds := [], alts := [], laidByText := true, laidKinds := [.data, .data, .data, .data], laidTests := true, laidLooks := .later }
def FnExactEventTextUptoCardSaid : Prop := Claim7.holds Tryd.pinned (.plain (OpenSpec.upto fnExactEventTextSpec)) fnExactEventTextUptoCard

/-- THE SECOND FORM's CARD OF 'laws.FnExactEventRead'. -/
def fnExactEventReadUptoCard : Claim7 := { stood := { row := fnExactEventReadUptoRow, standIns := [], harness := (true, "f291bce42b738794101ff384c39ec0fe2a581287be331d94e8ccec4de42139ec"), looks := true }, kinds := [], alts := [], laidByText := true, laidKinds := [.data, .data, .data, .sentinel, .sentinel, .data], laidTests := true, laidLooks := .later }
def FnExactEventReadUptoCardSaid : Prop := Claim7.holds Tryd.pinned (.plain (OpenSpec.upto fnExactEventReadSpec)) fnExactEventReadUptoCard

/-- THE SECOND FORM's CARD OF 'laws.FnExactTraceRight'. -/
def fnExactTraceRightUptoCard : Claim7 := { stood := { row := fnExactTraceRightUptoRow, standIns := [], harness := (true, "f291bce42b738794101ff384c39ec0fe2a581287be331d94e8ccec4de42139ec"), looks := true }, kinds := [], alts := [], laidByText := true, laidKinds := [.data], laidTests := true, laidLooks := .later }
def FnExactTraceRightUptoCardSaid : Prop := Claim7.holds Tryd.pinned (.plain (OpenSpec.upto fnExactTraceRightSpec)) fnExactTraceRightUptoCard

/-- THE SECOND FORM's CARD OF 'laws.FnExactClamp'. -/
def fnExactClampUptoCard : Claim7 := { stood := { row := fnExactClampUptoRow, standIns := [], harness := (true, "f291bce42b738794101ff384c39ec0fe2a581287be331d94e8ccec4de42139ec"), looks := true }, kinds := [], alts := [], laidByText := true, laidKinds := [.data], laidTests := true, laidLooks := .later }
def FnExactClampUptoCardSaid : Prop := Claim7.holds Tryd.pinned (.plain (OpenSpec.upto fnExactClampSpec)) fnExactClampUptoCard
end Rows
end Go.Proofs.YtfjojclgapdbcaaDoor
