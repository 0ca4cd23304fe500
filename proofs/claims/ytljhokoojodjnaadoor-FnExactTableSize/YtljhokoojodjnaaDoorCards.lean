/-
  DERIVED. GIVEN WITH THE SEED: THE CARDS: each row of YtljhokoojodjnaaDoorRows.lean that lists a variable, with what it lists TIED to the program's text (the seventh form; the later family's looks); each row that meets fmt, with fmt's text TOLD by the authors' own Lean function (tested against real Go, not proved from fmt's source: count such statements apart). THE CARD IS WHAT COUNTS. Prove the row's statement (the work); the ties are given (YtljhokoojodjnaaDoorTie.lean); close each card by the builder's one call (the guide's Derived/Test/ToyasCard.lean, 'card_holds'). Laid BY PROGRAM, IN A SANDBOX (cutbox-door.mjs). By AI agents, Wed Nov 11 2026. No macro, syntax, notation, axiom, sorry.
-/
import Derived.Test.YtljhokoojodjnaaDoorRows
import GoSem.ClaimSeven
namespace Go.Proofs.YtljhokoojodjnaaDoor
namespace Rows

/-- THE TIED CARD OF 'laws.FnExactTableRight'. -/
def fnExactTableRightCard : Claim7 := { stood := { row := fnExactTableRightRow, standIns := [], harness := (true, "b4dca1195362a56479bebebc3dfb4e3125c9434cb36e9203310cccda56a7ddaf"), looks := true }, kinds := [], alts := [], laidByText := true, laidKinds := [.data, .sentinel], laidTests := true, laidLooks := .later }
def FnExactTableRightCardSaid : Prop := Claim7.holds Tryd.pinned (.plain (OpenSpec.ofChange fnExactTableRightSpec)) fnExactTableRightCard

/-- THE TIED CARD OF 'laws.FnExactTableNew'. -/
def fnExactTableNewCard : Claim7 := { stood := { row := fnExactTableNewRow, standIns := [], harness := (true, "b4dca1195362a56479bebebc3dfb4e3125c9434cb36e9203310cccda56a7ddaf"), looks := true }, kinds := [], alts := [], laidByText := true, laidKinds := [.data, .sentinel], laidTests := true, laidLooks := .later }
def FnExactTableNewCardSaid : Prop := Claim7.holds Tryd.pinned (.plain (OpenSpec.ofChange fnExactTableNewSpec)) fnExactTableNewCard

/-- THE TIED CARD OF 'laws.FnExactTableSize'. -/
def fnExactTableSizeCard : Claim7 := { stood := { row := fnExactTableSizeRow, standIns := [], harness := (true, "b4dca1195362a56479bebebc3dfb4e3125c9434cb36e9203310cccda56a7ddaf"), looks := true }, kinds := [], alts := [], laidByText := true, laidKinds := [.data, .sentinel], laidTests := true, laidLooks := .later }
def FnExactTableSizeCardSaid : Prop := Claim7.holds Tryd.pinned (.plain (OpenSpec.ofChange fnExactTableSizeSpec)) fnExactTableSizeCard

/-- THE SECOND FORM's CARD OF 'laws.FnExactTableRight'. -/
def fnExactTableRightUptoCard : Claim7 := { stood := { row := fnExactTableRightUptoRow, standIns := [], harness := (true, "b4dca1195362a56479bebebc3dfb4e3125c9434cb36e9203310cccda56a7ddaf"), looks := true }, kinds := [], alts := [], laidByText := true, laidKinds := [.data, .sentinel], laidTests := true, laidLooks := .later }
def FnExactTableRightUptoCardSaid : Prop := Claim7.holds Tryd.pinned (.plain (OpenSpec.upto fnExactTableRightSpec)) fnExactTableRightUptoCard

/-- THE SECOND FORM's CARD OF 'laws.FnExactTableNew'. -/
def fnExactTableNewUptoCard : Claim7 := { stood := { row := fnExactTableNewUptoRow, standIns := [], harness := (true, "b4dca1195362a56479bebebc3dfb4e3125c9434cb36e9203310cccda56a7ddaf"), looks := true }, kinds := [], alts := [], laidByText := true, laidKinds := [.data, .sentinel], laidTests := true, laidLooks := .later }
def FnExactTableNewUptoCardSaid : Prop := Claim7.holds Tryd.pinned (.plain (OpenSpec.upto fnExactTableNewSpec)) fnExactTableNewUptoCard

/-- THE SECOND FORM's CARD OF 'laws.FnExactTableSize'. -/
def fnExactTableSizeUptoCard : Claim7 := { stood := { row := fnExactTableSizeUptoRow, standIns := [], harness := (true, "b4dca1195362a56479bebebc3dfb4e3125c9434cb36e9203310cccda56a7ddaf"), looks := true }, kinds := [], alts := [], laidByText := true, laidKinds := [.data, .sentinel], laidTests := true, laidLooks := .later }
def FnExactTableSizeUptoCardSaid : Prop := Claim7.holds Tryd.pinned (.plain (OpenSpec.upto fnExactTableSizeSpec)) fnExactTableSizeUptoCard
end Rows
end Go.Proofs.YtljhokoojodjnaaDoor
