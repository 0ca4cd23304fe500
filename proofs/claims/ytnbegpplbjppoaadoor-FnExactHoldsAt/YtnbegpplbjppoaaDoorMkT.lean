/-
  The laws' marks: markText by its contract.
-/
import Derived.Test.YtnbegpplbjppoaaDoorSv
import Derived.Laws.IdiomStrings
namespace Go.Proofs.YtnbegpplbjppoaaDoor
open Go.RowKit
set_option linter.unusedVariables false
set_option linter.unusedSimpArgs false
def mtL : Nat → Nat → List UInt8 → List UInt8
  | 0, _, o => o
  | n + 1, j, o => if j = 0 then o else mtL n (j / 10) (UInt8.ofNat (48 + j % 10) :: o)
theorem mtL_fuel : ∀ (n m j : Nat) (o : List UInt8), j ≤ n → j ≤ m → mtL n j o = mtL m j o := by
  intro n
  induction n with
  | zero =>
    intro m j o h1 _
    obtain rfl : j = 0 := by omega
    cases m with
    | zero => rfl
    | succ m => simp [mtL]
  | succ n ih =>
    intro m j o h1 h2
    cases m with
    | zero =>
      obtain rfl : j = 0 := by omega
      simp [mtL]
    | succ m =>
      unfold mtL
      split
      · rfl
      · exact ih m (j / 10) _ (by omega) (by omega)
theorem mtL_step (j : Nat) (o : List UInt8) (h : 0 < j) : mtL j j o = mtL (j / 10) (j / 10) (UInt8.ofNat (48 + j % 10) :: o) := by
  obtain ⟨n, rfl⟩ : ∃ n, j = n + 1 := ⟨j - 1, by omega⟩
  conv => lhs; unfold mtL
  rw [if_neg (by omega)]
  exact mtL_fuel _ _ _ _ (by omega) (Nat.le_refl _)
/-- The text of a mark. -/
def mtS (k : Nat) : ByteArray := ⟨((109 : UInt8) :: mtL k k []).toArray⟩
end Go.Proofs.YtnbegpplbjppoaaDoor
