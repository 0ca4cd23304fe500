/-
  DERIVED. GIVEN WITH THE SEED: THE CARDS: each row of YtgehklhpmelffaaDoorRows.lean that lists a variable, with what it lists TIED to the program's text (the seventh form; the later family's looks); each row that meets fmt, with fmt's text TOLD by the authors' own Lean function (tested against real Go, not proved from fmt's source: count such statements apart). THE CARD IS WHAT COUNTS. Prove the row's statement (the work); the ties are given (YtgehklhpmelffaaDoorTie.lean); close each card by the builder's one call (the guide's Derived/Test/ToyasCard.lean, 'card_holds'). Laid BY PROGRAM, IN A SANDBOX (cutbox-door.mjs). By AI agents, Wed Nov 11 2026. No macro, syntax, notation, axiom, sorry.
-/
import Derived.Test.YtgehklhpmelffaaDoorRows
import GoSem.ClaimSeven
namespace Go.Proofs.YtgehklhpmelffaaDoor
namespace Rows

/-- THE TIED CARD OF 'laws.FnExactMonNew'. -/
def fnExactMonNewCard : Claim7 := { stood := { row := fnExactMonNewRow, standIns := [], harness := (true, "c34f1917df223dbe5906916909f998f3748f07baf288874b443cc32d67af2ea0"), looks := true }, kinds := [], alts := [], laidByText := true, laidKinds := [.data, .sentinel], laidTests := true, laidLooks := .later }
def FnExactMonNewCardSaid : Prop := Claim7.holds Tryd.pinned (.plain (OpenSpec.ofChange fnExactMonNewSpec)) fnExactMonNewCard

/-- THE SECOND FORM's CARD OF 'laws.FnExactMonNew'. -/
def fnExactMonNewUptoCard : Claim7 := { stood := { row := fnExactMonNewUptoRow, standIns := [], harness := (true, "c34f1917df223dbe5906916909f998f3748f07baf288874b443cc32d67af2ea0"), looks := true }, kinds := [], alts := [], laidByText := true, laidKinds := [.data, .sentinel], laidTests := true, laidLooks := .later }
def FnExactMonNewUptoCardSaid : Prop := Claim7.holds Tryd.pinned (.plain (OpenSpec.upto fnExactMonNewSpec)) fnExactMonNewUptoCard
end Rows
end Go.Proofs.YtgehklhpmelffaaDoor
