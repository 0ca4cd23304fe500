/-
  DERIVED. GIVEN WITH THE SEED: THE CARDS: each row of YtolckakofgllcaaDoorRows.lean that lists a variable, with what it lists TIED to the program's text (the seventh form; the later family's looks); each row that meets fmt, with fmt's text TOLD by the authors' own Lean function (tested against real Go, not proved from fmt's source: count such statements apart). THE CARD IS WHAT COUNTS. Prove the row's statement (the work); the ties are given (YtolckakofgllcaaDoorTie.lean); close each card by the builder's one call (the guide's Derived/Test/ToyasCard.lean, 'card_holds'). Laid BY PROGRAM, IN A SANDBOX (cutbox-door.mjs). By AI agents, Wed Nov 11 2026. No macro, syntax, notation, axiom, sorry.
-/
import Derived.Test.YtolckakofgllcaaDoorRows
import GoSem.ClaimSeven
namespace Go.Proofs.YtolckakofgllcaaDoor
namespace Rows

/-- THE TIED CARD OF 'laws.FnExactMonNew'. -/
def fnExactMonNewCard : Claim7 := { stood := { row := fnExactMonNewRow, standIns := [], harness := (true, "724aedd4d3b8d3460977380734b1964d9cb1465dc507ce2bcaa3eaa90e7010c8"), looks := true }, kinds := [], alts := [], laidByText := true, laidKinds := [.data, .sentinel], laidTests := true, laidLooks := .later }
def FnExactMonNewCardSaid : Prop := Claim7.holds Tryd.pinned (.plain (OpenSpec.ofChange fnExactMonNewSpec)) fnExactMonNewCard

/-- THE TIED CARD OF 'laws.FnExactMonRight'. -/
def fnExactMonRightCard : Claim7 := { stood := { row := fnExactMonRightRow, standIns := [], harness := (true, "724aedd4d3b8d3460977380734b1964d9cb1465dc507ce2bcaa3eaa90e7010c8"), looks := true }, kinds := [], alts := [], laidByText := true, laidKinds := [.data, .sentinel], laidTests := true, laidLooks := .later }
def FnExactMonRightCardSaid : Prop := Claim7.holds Tryd.pinned (.plain (OpenSpec.ofChange fnExactMonRightSpec)) fnExactMonRightCard

/-- THE TIED CARD OF 'laws.FnExactMonSize'. -/
def fnExactMonSizeCard : Claim7 := { stood := { row := fnExactMonSizeRow, standIns := [], harness := (true, "724aedd4d3b8d3460977380734b1964d9cb1465dc507ce2bcaa3eaa90e7010c8"), looks := true }, kinds := [], alts := [], laidByText := true, laidKinds := [.data, .sentinel], laidTests := true, laidLooks := .later }
def FnExactMonSizeCardSaid : Prop := Claim7.holds Tryd.pinned (.plain (OpenSpec.ofChange fnExactMonSizeSpec)) fnExactMonSizeCard

/-- THE TIED CARD OF 'laws.FnExactSizeMost'. -/
def fnExactSizeMostCard : Claim7 := { stood := { row := fnExactSizeMostRow, standIns := [], harness := (true, "724aedd4d3b8d3460977380734b1964d9cb1465dc507ce2bcaa3eaa90e7010c8"), looks := true }, kinds := [], alts := [], laidByText := true, laidKinds := [.data, .sentinel], laidTests := true, laidLooks := .later }
def FnExactSizeMostCardSaid : Prop := Claim7.holds Tryd.pinned (.plain (OpenSpec.ofChange fnExactSizeMostSpec)) fnExactSizeMostCard

/-- THE SECOND FORM's CARD OF 'laws.FnExactMonNew'. -/
def fnExactMonNewUptoCard : Claim7 := { stood := { row := fnExactMonNewUptoRow, standIns := [], harness := (true, "724aedd4d3b8d3460977380734b1964d9cb1465dc507ce2bcaa3eaa90e7010c8"), looks := true }, kinds := [], alts := [], laidByText := true, laidKinds := [.data, .sentinel], laidTests := true, laidLooks := .later }
def FnExactMonNewUptoCardSaid : Prop := Claim7.holds Tryd.pinned (.plain (OpenSpec.upto fnExactMonNewSpec)) fnExactMonNewUptoCard

/-- THE SECOND FORM's CARD OF 'laws.FnExactMonRight'. -/
def fnExactMonRightUptoCard : Claim7 := { stood := { row := fnExactMonRightUptoRow, standIns := [], harness := (true, "724aedd4d3b8d3460977380734b1964d9cb1465dc507ce2bcaa3eaa90e7010c8"), looks := true }, kinds := [], alts := [], laidByText := true, laidKinds := [.data, .sentinel], laidTests := true, laidLooks := .later }
def FnExactMonRightUptoCardSaid : Prop := Claim7.holds Tryd.pinned (.plain (OpenSpec.upto fnExactMonRightSpec)) fnExactMonRightUptoCard

/-- THE SECOND FORM's CARD OF 'laws.FnExactMonSize'. -/
def fnExactMonSizeUptoCard : Claim7 := { stood := { row := fnExactMonSizeUptoRow, standIns := [], harness := (true, "724aedd4d3b8d3460977380734b1964d9cb1465dc507ce2bcaa3eaa90e7010c8"), looks := true }, kinds := [], alts := [], laidByText := true, laidKinds := [.data, .sentinel], laidTests := true, laidLooks := .later }
def FnExactMonSizeUptoCardSaid : Prop := Claim7.holds Tryd.pinned (.plain (OpenSpec.upto fnExactMonSizeSpec)) fnExactMonSizeUptoCard

/-- THE SECOND FORM's CARD OF 'laws.FnExactSizeMost'. -/
def fnExactSizeMostUptoCard : Claim7 := { stood := { row := fnExactSizeMostUptoRow, standIns := [], harness := (true, "724aedd4d3b8d3460977380734b1964d9cb1465dc507ce2bcaa3eaa90e7010c8"), looks := true }, kinds := [], alts := [], laidByText := true, laidKinds := [.data, .sentinel], laidTests := true, laidLooks := .later }
def FnExactSizeMostUptoCardSaid : Prop := Claim7.holds Tryd.pinned (.plain (OpenSpec.upto fnExactSizeMostSpec)) fnExactSizeMostUptoCard
end Rows
end Go.Proofs.YtolckakofgllcaaDoor
