/-
  DERIVED. GIVEN WITH THE SEED: THE CARDS: each row of YtagklhfejbdkdaaDoorRows.lean that lists a variable, with what it lists TIED to the program's text (the seventh form; the later family's looks); each row that meets fmt, with fmt's text TOLD by the authors' own Lean function (tested against real Go, not proved from fmt's source: count such statements apart). THE CARD IS WHAT COUNTS. Prove the row's statement (the work); the ties are given (YtagklhfejbdkdaaDoorTie.lean); close each card by the builder's one call (the guide's Derived/Test/ToyasCard.lean, 'card_holds'). Laid BY PROGRAM, IN A SANDBOX (cutbox-door.mjs). By AI agents, Wed Nov 11 2026. No macro, syntax, notation, axiom, sorry.
-/
import Derived.Test.YtagklhfejbdkdaaDoorRows
import GoSem.ClaimSeven
namespace Go.Proofs.YtagklhfejbdkdaaDoor
namespace Rows

/-- THE TIED CARD OF 'laws.FnExactNormal'. -/
def fnExactNormalCard : Claim7 := { stood := { row := fnExactNormalRow, standIns := [], harness := (true, "0bc33cb07f74f64e99580ad3d50b1db5007d5c3e79141c04089dbf44d1dd721a"), looks := true }, kinds := [], alts := [], laidByText := true, laidKinds := [.data, .sentinel], laidTests := true, laidLooks := .later }
def FnExactNormalCardSaid : Prop := Claim7.holds Tryd.pinned (.plain (OpenSpec.ofChange fnExactNormalSpec)) fnExactNormalCard

/-- THE TIED CARD OF 'laws.FnExactNegate'. -/
def fnExactNegateCard : Claim7 := { stood := { row := fnExactNegateRow, standIns := [], harness := (true, "0bc33cb07f74f64e99580ad3d50b1db5007d5c3e79141c04089dbf44d1dd721a"), looks := true }, kinds := [], alts := [], laidByText := true, laidKinds := [.data, .sentinel], laidTests := true, laidLooks := .later }
def FnExactNegateCardSaid : Prop := Claim7.holds Tryd.pinned (.plain (OpenSpec.ofChange fnExactNegateSpec)) fnExactNegateCard

/-- THE TIED CARD OF 'laws.FnExactBoth'. -/
def fnExactBothCard : Claim7 := { stood := { row := fnExactBothRow, standIns := [], harness := (true, "0bc33cb07f74f64e99580ad3d50b1db5007d5c3e79141c04089dbf44d1dd721a"), looks := true }, kinds := [], alts := [], laidByText := true, laidKinds := [.data, .sentinel], laidTests := true, laidLooks := .later }
def FnExactBothCardSaid : Prop := Claim7.holds Tryd.pinned (.plain (OpenSpec.ofChange fnExactBothSpec)) fnExactBothCard

/-- THE TIED CARD OF 'laws.FnExactRename'. -/
def fnExactRenameCard : Claim7 := { stood := { row := fnExactRenameRow, standIns := [], harness := (true, "0bc33cb07f74f64e99580ad3d50b1db5007d5c3e79141c04089dbf44d1dd721a"), looks := true }, kinds := [], alts := [], laidByText := true, laidKinds := [.data, .sentinel], laidTests := true, laidLooks := .later }
def FnExactRenameCardSaid : Prop := Claim7.holds Tryd.pinned (.plain (OpenSpec.ofChange fnExactRenameSpec)) fnExactRenameCard

/-- THE SECOND FORM's CARD OF 'laws.FnExactNormal'. -/
def fnExactNormalUptoCard : Claim7 := { stood := { row := fnExactNormalUptoRow, standIns := [], harness := (true, "0bc33cb07f74f64e99580ad3d50b1db5007d5c3e79141c04089dbf44d1dd721a"), looks := true }, kinds := [], alts := [], laidByText := true, laidKinds := [.data, .sentinel], laidTests := true, laidLooks := .later }
def FnExactNormalUptoCardSaid : Prop := Claim7.holds Tryd.pinned (.plain (OpenSpec.upto fnExactNormalSpec)) fnExactNormalUptoCard

/-- THE SECOND FORM's CARD OF 'laws.FnExactNegate'. -/
def fnExactNegateUptoCard : Claim7 := { stood := { row := fnExactNegateUptoRow, standIns := [], harness := (true, "0bc33cb07f74f64e99580ad3d50b1db5007d5c3e79141c04089dbf44d1dd721a"), looks := true }, kinds := [], alts := [], laidByText := true, laidKinds := [.data, .sentinel], laidTests := true, laidLooks := .later }
def FnExactNegateUptoCardSaid : Prop := Claim7.holds Tryd.pinned (.plain (OpenSpec.upto fnExactNegateSpec)) fnExactNegateUptoCard

/-- THE SECOND FORM's CARD OF 'laws.FnExactBoth'. -/
def fnExactBothUptoCard : Claim7 := { stood := { row := fnExactBothUptoRow, standIns := [], harness := (true, "0bc33cb07f74f64e99580ad3d50b1db5007d5c3e79141c04089dbf44d1dd721a"), looks := true }, kinds := [], alts := [], laidByText := true, laidKinds := [.data, .sentinel], laidTests := true, laidLooks := .later }
def FnExactBothUptoCardSaid : Prop := Claim7.holds Tryd.pinned (.plain (OpenSpec.upto fnExactBothSpec)) fnExactBothUptoCard

/-- THE SECOND FORM's CARD OF 'laws.FnExactRename'. -/
def fnExactRenameUptoCard : Claim7 := { stood := { row := fnExactRenameUptoRow, standIns := [], harness := (true, "0bc33cb07f74f64e99580ad3d50b1db5007d5c3e79141c04089dbf44d1dd721a"), looks := true }, kinds := [], alts := [], laidByText := true, laidKinds := [.data, .sentinel], laidTests := true, laidLooks := .later }
def FnExactRenameUptoCardSaid : Prop := Claim7.holds Tryd.pinned (.plain (OpenSpec.upto fnExactRenameSpec)) fnExactRenameUptoCard
end Rows
end Go.Proofs.YtagklhfejbdkdaaDoor
