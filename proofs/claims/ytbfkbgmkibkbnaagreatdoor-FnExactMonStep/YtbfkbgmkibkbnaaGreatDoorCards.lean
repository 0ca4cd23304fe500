/-
  DERIVED. GIVEN WITH THE SEED: THE CARDS: each row of YtbfkbgmkibkbnaaGreatDoorRows.lean that lists a variable, with what it lists TIED to the program's text (the seventh form; the later family's looks); each row that meets fmt, with fmt's text TOLD by the authors' own Lean function (tested against real Go, not proved from fmt's source: count such statements apart). THE CARD IS WHAT COUNTS. Prove the row's statement (the work); the ties are given (YtbfkbgmkibkbnaaGreatDoorTie.lean); close each card by the builder's one call (the guide's Derived/Test/ToyasCard.lean, 'card_holds'). Laid BY PROGRAM, IN A SANDBOX (cutbox-door.mjs). By AI agents, Wed Nov 11 2026. No macro, syntax, notation, axiom, sorry.
-/
import Derived.Test.YtbfkbgmkibkbnaaGreatDoorRows
import GoSem.ClaimSeven
namespace Go.Proofs.YtbfkbgmkibkbnaaGreatDoor
namespace Rows

/-- THE TIED CARD OF 'laws.FnTop'. -/
def fnTopCard : Claim7 := { stood := { row := fnTopRow, standIns := [], harness := (true, "745e214ea187e76e6afa36ed4913debeb80ab7fd805847eeeec22290fac38261"), looks := true }, kinds := [], alts := [], laidByText := true, laidKinds := [.data, .sentinel], laidTests := true, laidLooks := .later }
def FnTopCardSaid : Prop := Claim7.holds Tryz.pinned (.plain (OpenSpec.ofChange fnTopSpec)) fnTopCard

/-- THE TIED CARD OF 'laws.FnExactMonStep'. -/
def fnExactMonStepCard : Claim7 := { stood := { row := fnExactMonStepRow, standIns := [], harness := (true, "745e214ea187e76e6afa36ed4913debeb80ab7fd805847eeeec22290fac38261"), looks := true }, kinds := [], alts := [], laidByText := true, laidKinds := [.data, .sentinel], laidTests := true, laidLooks := .later }
def FnExactMonStepCardSaid : Prop := Claim7.holds Tryz.pinned (.plain (OpenSpec.ofChange fnExactMonStepSpec)) fnExactMonStepCard

/-- THE TIED CARD OF 'laws.FnExactMonRun'. -/
def fnExactMonRunCard : Claim7 := { stood := { row := fnExactMonRunRow, standIns := [], harness := (true, "745e214ea187e76e6afa36ed4913debeb80ab7fd805847eeeec22290fac38261"), looks := true }, kinds := [], alts := [], laidByText := true, laidKinds := [.data, .sentinel], laidTests := true, laidLooks := .later }
def FnExactMonRunCardSaid : Prop := Claim7.holds Tryz.pinned (.plain (OpenSpec.ofChange fnExactMonRunSpec)) fnExactMonRunCard

/-- THE SECOND FORM's CARD OF 'laws.FnTop'. -/
def fnTopUptoCard : Claim7 := { stood := { row := fnTopUptoRow, standIns := [], harness := (true, "745e214ea187e76e6afa36ed4913debeb80ab7fd805847eeeec22290fac38261"), looks := true }, kinds := [], alts := [], laidByText := true, laidKinds := [.data, .sentinel], laidTests := true, laidLooks := .later }
def FnTopUptoCardSaid : Prop := Claim7.holds Tryz.pinned (.plain (OpenSpec.upto fnTopSpec)) fnTopUptoCard

/-- THE SECOND FORM's CARD OF 'laws.FnExactMonStep'. -/
def fnExactMonStepUptoCard : Claim7 := { stood := { row := fnExactMonStepUptoRow, standIns := [], harness := (true, "745e214ea187e76e6afa36ed4913debeb80ab7fd805847eeeec22290fac38261"), looks := true }, kinds := [], alts := [], laidByText := true, laidKinds := [.data, .sentinel], laidTests := true, laidLooks := .later }
def FnExactMonStepUptoCardSaid : Prop := Claim7.holds Tryz.pinned (.plain (OpenSpec.upto fnExactMonStepSpec)) fnExactMonStepUptoCard

/-- THE SECOND FORM's CARD OF 'laws.FnExactMonRun'. -/
def fnExactMonRunUptoCard : Claim7 := { stood := { row := fnExactMonRunUptoRow, standIns := [], harness := (true, "745e214ea187e76e6afa36ed4913debeb80ab7fd805847eeeec22290fac38261"), looks := true }, kinds := [], alts := [], laidByText := true, laidKinds := [.data, .sentinel], laidTests := true, laidLooks := .later }
def FnExactMonRunUptoCardSaid : Prop := Claim7.holds Tryz.pinned (.plain (OpenSpec.upto fnExactMonRunSpec)) fnExactMonRunUptoCard
end Rows
end Go.Proofs.YtbfkbgmkibkbnaaGreatDoor
