/-
  Times: the model's and the program's, by one contract.
-/
import Derived.Test.YtfafeomegoikkaaSvB
namespace Go.Proofs.Ytfafeomegoikkaa
open Go.RowKit
set_option linter.unusedVariables false
set_option linter.unusedSimpArgs false
def timeB (t : Int) : Bool := decide (0 ≤ t ∧ t ≤ 1000000)
theorem specTime_any (t : Int) (w : World) : Calls Try.prog 63 #[.int .i64 t] w fun e w' => e = .returned (.bool (timeB t)) ∧ w' = w := by
  by_cases h1 : 0 ≤ t <;> by_cases h2 : t ≤ 1000000
  all_goals
    go_enter Try.func63, Try.ntmps63
    go_wp2
    go_ret
    exact ⟨ret_bool (by simp [timeB]; omega), rfl⟩
theorem implTime_any (t : Int) (w : World) : Calls Try.prog 61 #[.int .i64 t] w fun e w' => e = .returned (.bool (timeB t)) ∧ w' = w := by
  by_cases h1 : 0 ≤ t <;> by_cases h2 : t ≤ 1000000
  all_goals
    go_enter Try.func61, Try.ntmps61
    go_wp2
    go_ret
    exact ⟨ret_bool (by simp [timeB]; omega), rfl⟩
end Go.Proofs.Ytfafeomegoikkaa
