/-
  What a slice looks like.
-/
import Derived.Test.YtagklhfejbdkdaaDoorSv
namespace Go.Proofs.YtagklhfejbdkdaaDoor
open Go.RowKit
/-- What a slice looks like. -/
def SlV (a : Option Addr) (n c : Nat) : Prop := (a = none ∧ n = 0 ∧ c = 0) ∨ (∃ b off, a = some ⟨b, off, none⟩ ∧ n ≤ c ∧ c ≤ maxLen)
theorem slV_made (b n : Nat) (h : n ≤ 1048576) : SlV (some ⟨b, 0, none⟩) n n := Or.inr ⟨b, 0, rfl, Nat.le_refl _, by unfold maxLen; omega⟩
theorem slV_nil : SlV none 0 0 := Or.inl ⟨rfl, rfl, rfl⟩
end Go.Proofs.YtagklhfejbdkdaaDoor
