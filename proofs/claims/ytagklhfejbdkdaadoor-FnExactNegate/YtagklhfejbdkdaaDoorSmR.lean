/-
  A span's right, by its contract.
-/
import Derived.Test.YtagklhfejbdkdaaDoorSmP
namespace Go.Proofs.YtagklhfejbdkdaaDoor
open Go.RowKit
set_option linter.unusedVariables false
set_option linter.unusedSimpArgs false
theorem spanB_lo (lo hi : Int) (h : lo < 0 ∨ 1000 < lo) : spanB lo hi = false := by simp [spanB, isB]; omega
theorem spanB_end (lo : Int) (h1 : 0 ≤ lo) (h2 : lo ≤ 1000) : spanB lo (-1) = true := by simp [spanB, isB]; omega
theorem spanB_hi (lo hi : Int) (h1 : 0 ≤ lo) (h2 : lo ≤ 1000) (h : hi ≠ -1) : spanB lo hi = decide (lo ≤ hi ∧ hi ≤ 1000) := by simp [spanB, isB, h1, h2, h]
set_option maxHeartbeats 400000 in
theorem right_any (lo hi : Int) (w : World) :
    Calls Tryd.prog 76 #[.agg #[.int .i64 lo, .int .i64 hi]] w fun e w' => e = .returned (.bool (spanB lo hi)) ∧ Below w.heap.size w w' := by
  by_cases h1 : lo < 0
  · have HS : Hid (spanB lo hi = false) := spanB_lo lo hi (by omega)
    go_enter Tryd.func76, Tryd.ntmps76
    go_wp2
    go_ret
    exact ⟨ret_bool HS.out.symm, (Below.refl _ _).alloc (Nat.le_refl _) _⟩
  by_cases h2 : 1000 < lo
  · have HS : Hid (spanB lo hi = false) := spanB_lo lo hi (by omega)
    go_enter Tryd.func76, Tryd.ntmps76
    go_wp2
    go_ret
    exact ⟨ret_bool HS.out.symm, (Below.refl _ _).alloc (Nat.le_refl _) _⟩
  by_cases h3 : hi = -1
  · subst h3
    have HS : Hid (spanB lo (-1) = true) := spanB_end lo (by omega) (by omega)
    go_enter Tryd.func76, Tryd.ntmps76
    go_wp2
    go_ret
    exact ⟨ret_bool HS.out.symm, (Below.refl _ _).alloc (Nat.le_refl _) _⟩
  have HS : Hid (spanB lo hi = decide (lo ≤ hi ∧ hi ≤ 1000)) := spanB_hi lo hi (by omega) (by omega) h3
  have h3' : (hi == -1) = false := by simpa using h3
  rcases Bool.eq_false_or_eq_true (decide (lo ≤ hi)) with h4 | h4 <;> rcases Bool.eq_false_or_eq_true (decide (hi ≤ 1000)) with h5 | h5
  all_goals
    have HD : Hid (decide (lo ≤ hi ∧ hi ≤ 1000) = (decide (lo ≤ hi) && decide (hi ≤ 1000))) := Bool.decide_and _ _
    go_enter Tryd.func76, Tryd.ntmps76
    go_wp2
    go_ret
    exact ⟨ret_bool (by rw [HS.out, HD.out, h4]; simp [h5]), (Below.refl _ _).alloc (Nat.le_refl _) _⟩
end Go.Proofs.YtagklhfejbdkdaaDoor
