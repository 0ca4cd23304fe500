/-
  DERIVED. GIVEN WITH THE SEED: THE CARDS: each row of YthjnlcjjhklfpaaDoorRows.lean that lists a variable, with what it lists TIED to the program's text (the seventh form; the later family's looks); each row that meets fmt, with fmt's text TOLD by the authors' own Lean function (tested against real Go, not proved from fmt's source: count such statements apart). THE CARD IS WHAT COUNTS. Prove the row's statement (the work); the ties are given (YthjnlcjjhklfpaaDoorTie.lean); close each card by the builder's one call (the guide's Derived/Test/ToyasCard.lean, 'card_holds'). Laid BY PROGRAM, IN A SANDBOX (cutbox-door.mjs). By AI agents, Wed Nov 11 2026. No macro, syntax, notation, axiom, sorry.
-/
import Derived.Test.YthjnlcjjhklfpaaDoorRows
import GoSem.ClaimSeven
namespace Go.Proofs.YthjnlcjjhklfpaaDoor
namespace Rows

/-- THE TIED CARD OF 'laws.FnExactFormulaText'. -/
def fnExactFormulaTextCard : Claim7 := { stood := { row := fnExactFormulaTextRow, standIns := [], harness := (true, "3725d5463cf77dfc8941c5949c975d38a0730781ae2d13fb719a4da879b17de0"), looks := true }, kinds := [], alts := [], laidByText := true, laidKinds := [.data, .data, .data, .data, .sentinel], laidTests := true, laidLooks := .later }
def FnExactFormulaTextCardSaid : Prop := Claim7.holds Tryd.pinned (.plain (OpenSpec.ofChange fnExactFormulaTextSpec)) fnExactFormulaTextCard

/-- THE TIED CARD OF 'laws.FnExactAtomsOf'. -/
def fnExactAtomsOfCard : Claim7 := { stood := { row := fnExactAtomsOfRow, standIns := [], harness := (true, "3725d5463cf77dfc8941c5949c975d38a0730781ae2d13fb719a4da879b17de0"), looks := true }, kinds := [], alts := [], laidByText := true, laidKinds := [.data, .sentinel], laidTests := true, laidLooks := .later }
def FnExactAtomsOfCardSaid : Prop := Claim7.holds Tryd.pinned (.plain (OpenSpec.ofChange fnExactAtomsOfSpec)) fnExactAtomsOfCard

/-- THE TIED CARD OF 'laws.FnExactEventRight'. -/
def fnExactEventRightCard : Claim7 := { stood := { row := fnExactEventRightRow, standIns := [], harness := (true, "3725d5463cf77dfc8941c5949c975d38a0730781ae2d13fb719a4da879b17de0"), looks := true }, kinds := [], alts := [], laidByText := true, laidKinds := [.data], laidTests := true, laidLooks := .later }
def FnExactEventRightCardSaid : Prop := Claim7.holds Tryd.pinned (.plain (OpenSpec.ofChange fnExactEventRightSpec)) fnExactEventRightCard

/-- THE TIED CARD OF 'laws.FnExactEventHas'. -/
def fnExactEventHasCard : Claim7 := { stood := { row := fnExactEventHasRow, standIns := [], harness := (true, "3725d5463cf77dfc8941c5949c975d38a0730781ae2d13fb719a4da879b17de0"), looks := true }, kinds := [], alts := [], laidByText := true, laidKinds := [.data], laidTests := true, laidLooks := .later }
def FnExactEventHasCardSaid : Prop := Claim7.holds Tryd.pinned (.plain (OpenSpec.ofChange fnExactEventHasSpec)) fnExactEventHasCard

/-- THE TIED CARD OF 'laws.FnExactEventText'. -/
def fnExactEventTextCard : Claim7 := { stood := { row := fnExactEventTextRow, standIns := [], harness := (true, "3725d5463cf77dfc8941c5949c975d38a0730781ae2d13fb719a4da879b17de0"), looks := true }, kinds := [], alts := [], laidByText := true, laidKinds := [.data, .data, .data, .data], laidTests := true, laidLooks := .later }
def FnExactEventTextCardSaid : Prop := Claim7.holds Tryd.pinned (.plain (OpenSpec.ofChange fnExactEventTextSpec)) fnExactEventTextCard

/-- THE TIED CARD OF 'laws.FnExactEventRead'. -/
def fnExactEventReadCard : Claim7 := { stood := { row := fnExactEventReadRow, standIns := [], harness := (true, "3725d5463cf77dfc8941c5949c975d38a0730781ae2d13fb719a4da879b17de0"), looks := true }, kinds := [], alts := [], laidByText := true, laidKinds := [.data, .data, .data, .sentinel, .sentinel, .data], laidTests := true, laidLooks := .later }
def FnExactEventReadCardSaid : Prop := Claim7.holds Tryd.pinned (.plain (OpenSpec.ofChange fnExactEventReadSpec)) fnExactEventReadCard

/-- THE TIED CARD OF 'laws.FnExactTraceRight'. -/
def fnExactTraceRightCard : Claim7 := { stood := { row := fnExactTraceRightRow, standIns := [], harness := (true, "3725d5463cf77dfc8941c5949c975d38a0730781ae2d13fb719a4da879b17de0"), looks := true }, kinds := [], alts := [], laidByText := true, laidKinds := [.data], laidTests := true, laidLooks := .later }
def FnExactTraceRightCardSaid : Prop := Claim7.holds Tryd.pinned (.plain (OpenSpec.ofChange fnExactTraceRightSpec)) fnExactTraceRightCard

/-- THE TIED CARD OF 'laws.FnExactClamp'. -/
def fnExactClampCard : Claim7 := { stood := { row := fnExactClampRow, standIns := [], harness := (true, "3725d5463cf77dfc8941c5949c975d38a0730781ae2d13fb719a4da879b17de0"), looks := true }, kinds := [], alts := [], laidByText := true, laidKinds := [.data], laidTests := true, laidLooks := .later }
def FnExactClampCardSaid : Prop := Claim7.holds Tryd.pinned (.plain (OpenSpec.ofChange fnExactClampSpec)) fnExactClampCard

/-- THE TIED CARD OF 'laws.FnExactHolds'. -/
def fnExactHoldsCard : Claim7 := { stood := { row := fnExactHoldsRow, standIns := [], harness := (true, "3725d5463cf77dfc8941c5949c975d38a0730781ae2d13fb719a4da879b17de0"), looks := true }, kinds := [], alts := [], laidByText := true, laidKinds := [.data, .sentinel], laidTests := true, laidLooks := .later }
def FnExactHoldsCardSaid : Prop := Claim7.holds Tryd.pinned (.plain (OpenSpec.ofChange fnExactHoldsSpec)) fnExactHoldsCard

/-- THE TIED CARD OF 'laws.FnExactHoldsAt'. -/
def fnExactHoldsAtCard : Claim7 := { stood := { row := fnExactHoldsAtRow, standIns := [], harness := (true, "3725d5463cf77dfc8941c5949c975d38a0730781ae2d13fb719a4da879b17de0"), looks := true }, kinds := [], alts := [], laidByText := true, laidKinds := [.data, .sentinel], laidTests := true, laidLooks := .later }
def FnExactHoldsAtCardSaid : Prop := Claim7.holds Tryd.pinned (.plain (OpenSpec.ofChange fnExactHoldsAtSpec)) fnExactHoldsAtCard

/-- THE TIED CARD OF 'laws.FnExactVerdicts'. -/
def fnExactVerdictsCard : Claim7 := { stood := { row := fnExactVerdictsRow, standIns := [], harness := (true, "3725d5463cf77dfc8941c5949c975d38a0730781ae2d13fb719a4da879b17de0"), looks := true }, kinds := [], alts := [], laidByText := true, laidKinds := [.data, .sentinel], laidTests := true, laidLooks := .later }
def FnExactVerdictsCardSaid : Prop := Claim7.holds Tryd.pinned (.plain (OpenSpec.ofChange fnExactVerdictsSpec)) fnExactVerdictsCard

/-- THE SECOND FORM's CARD OF 'laws.FnExactFormulaText'. -/
def fnExactFormulaTextUptoCard : Claim7 := { stood := { row := fnExactFormulaTextUptoRow, standIns := [], harness := (true, "3725d5463cf77dfc8941c5949c975d38a0730781ae2d13fb719a4da879b17de0"), looks := true }, kinds := [], alts := [], laidByText := true, laidKinds := [.data, .data, .data, .data, .sentinel], laidTests := true, laidLooks := .later }
def FnExactFormulaTextUptoCardSaid : Prop := Claim7.holds Tryd.pinned (.plain (OpenSpec.upto fnExactFormulaTextSpec)) fnExactFormulaTextUptoCard

/-- THE SECOND FORM's CARD OF 'laws.FnExactAtomsOf'. -/
def fnExactAtomsOfUptoCard : Claim7 := { stood := { row := fnExactAtomsOfUptoRow, standIns := [], harness := (true, "3725d5463cf77dfc8941c5949c975d38a0730781ae2d13fb719a4da879b17de0"), looks := true }, kinds := [], alts := [], laidByText := true, laidKinds := [.data, .sentinel], laidTests := true, laidLooks := .later }
def FnExactAtomsOfUptoCardSaid : Prop := Claim7.holds Tryd.pinned (.plain (OpenSpec.upto fnExactAtomsOfSpec)) fnExactAtomsOfUptoCard

/-- THE SECOND FORM's CARD OF 'laws.FnExactEventRight'. -/
def fnExactEventRightUptoCard : Claim7 := { stood := { row := fnExactEventRightUptoRow, standIns := [], harness := (true, "3725d5463cf77dfc8941c5949c975d38a0730781ae2d13fb719a4da879b17de0"), looks := true }, kinds := [], alts := [], laidByText := true, laidKinds := [.data], laidTests := true, laidLooks := .later }
def FnExactEventRightUptoCardSaid : Prop := Claim7.holds Tryd.pinned (.plain (OpenSpec.upto fnExactEventRightSpec)) fnExactEventRightUptoCard

/-- THE SECOND FORM's CARD OF 'laws.FnExactEventHas'. -/
def fnExactEventHasUptoCard : Claim7 := { stood := { row := fnExactEventHasUptoRow, standIns := [], harness := (true, "3725d5463cf77dfc8941c5949c975d38a0730781ae2d13fb719a4da879b17de0"), looks := true }, kinds := [], alts := [], laidByText := true, laidKinds := [.data], laidTests := true, laidLooks := .later }
def FnExactEventHasUptoCardSaid : Prop := Claim7.holds Tryd.pinned (.plain (OpenSpec.upto fnExactEventHasSpec)) fnExactEventHasUptoCard

/-- THE SECOND FORM's CARD OF 'laws.FnExactEventText'. -/
def fnExactEventTextUptoCard : Claim7 := { stood := { row := fnExactEventTextUptoRow, standIns := [], harness := (true, "3725d5463cf77dfc8941c5949c975d38a0730781ae2d13fb719a4da879b17de0"), looks := true }, kinds := [], alts := [], laidByText := true, laidKinds := [.data, .data, .data, .data], laidTests := true, laidLooks := .later }
def FnExactEventTextUptoCardSaid : Prop := Claim7.holds Tryd.pinned (.plain (OpenSpec.upto fnExactEventTextSpec)) fnExactEventTextUptoCard

/-- THE SECOND FORM's CARD OF 'laws.FnExactEventRead'. -/
def fnExactEventReadUptoCard : Claim7 := { stood := { row := fnExactEventReadUptoRow, standIns := [], harness := (true, "3725d5463cf77dfc8941c5949c975d38a0730781ae2d13fb719a4da879b17de0"), looks := true }, kinds := [], alts := [], laidByText := true, laidKinds := [.data, .data, .data, .sentinel, .sentinel, .data], laidTests := true, laidLooks := .later }
def FnExactEventReadUptoCardSaid : Prop := Claim7.holds Tryd.pinned (.plain (OpenSpec.upto fnExactEventReadSpec)) fnExactEventReadUptoCard

/-- THE SECOND FORM's CARD OF 'laws.FnExactTraceRight'. -/
def fnExactTraceRightUptoCard : Claim7 := { stood := { row := fnExactTraceRightUptoRow, standIns := [], harness := (true, "3725d5463cf77dfc8941c5949c975d38a0730781ae2d13fb719a4da879b17de0"), looks := true }, kinds := [], alts := [], laidByText := true, laidKinds := [.data], laidTests := true, laidLooks := .later }
def FnExactTraceRightUptoCardSaid : Prop := Claim7.holds Tryd.pinned (.plain (OpenSpec.upto fnExactTraceRightSpec)) fnExactTraceRightUptoCard

/-- THE SECOND FORM's CARD OF 'laws.FnExactClamp'. -/
def fnExactClampUptoCard : Claim7 := { stood := { row := fnExactClampUptoRow, standIns := [], harness := (true, "3725d5463cf77dfc8941c5949c975d38a0730781ae2d13fb719a4da879b17de0"), looks := true }, kinds := [], alts := [], laidByText := true, laidKinds := [.data], laidTests := true, laidLooks := .later }
def FnExactClampUptoCardSaid : Prop := Claim7.holds Tryd.pinned (.plain (OpenSpec.upto fnExactClampSpec)) fnExactClampUptoCard

/-- THE SECOND FORM's CARD OF 'laws.FnExactHolds'. -/
def fnExactHoldsUptoCard : Claim7 := { stood := { row := fnExactHoldsUptoRow, standIns := [], harness := (true, "3725d5463cf77dfc8941c5949c975d38a0730781ae2d13fb719a4da879b17de0"), looks := true }, kinds := [], alts := [], laidByText := true, laidKinds := [.data, .sentinel], laidTests := true, laidLooks := .later }
def FnExactHoldsUptoCardSaid : Prop := Claim7.holds Tryd.pinned (.plain (OpenSpec.upto fnExactHoldsSpec)) fnExactHoldsUptoCard

/-- THE SECOND FORM's CARD OF 'laws.FnExactHoldsAt'. -/
def fnExactHoldsAtUptoCard : Claim7 := { stood := { row := fnExactHoldsAtUptoRow, standIns := [], harness := (true, "3725d5463cf77dfc8941c5949c975d38a0730781ae2d13fb719a4da879b17de0"), looks := true }, kinds := [], alts := [], laidByText := true, laidKinds := [.data, .sentinel], laidTests := true, laidLooks := .later }
def FnExactHoldsAtUptoCardSaid : Prop := Claim7.holds Tryd.pinned (.plain (OpenSpec.upto fnExactHoldsAtSpec)) fnExactHoldsAtUptoCard

/-- THE SECOND FORM's CARD OF 'laws.FnExactVerdicts'. -/
def fnExactVerdictsUptoCard : Claim7 := { stood := { row := fnExactVerdictsUptoRow, standIns := [], harness := (true, "3725d5463cf77dfc8941c5949c975d38a0730781ae2d13fb719a4da879b17de0"), looks := true }, kinds := [], alts := [], laidByText := true, laidKinds := [.data, .sentinel], laidTests := true, laidLooks := .later }
def FnExactVerdictsUptoCardSaid : Prop := Claim7.holds Tryd.pinned (.plain (OpenSpec.upto fnExactVerdictsSpec)) fnExactVerdictsUptoCard
end Rows
end Go.Proofs.YthjnlcjjhklfpaaDoor
