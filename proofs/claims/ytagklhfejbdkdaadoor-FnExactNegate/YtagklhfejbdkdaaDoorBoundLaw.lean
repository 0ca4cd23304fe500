/-
  BoundOf: the model's and the program's by one contract; the walk of the law.
-/
import Derived.Test.YtagklhfejbdkdaaDoorRightLaw
namespace Go.Proofs.YtagklhfejbdkdaaDoor
open Go.RowKit
set_option linter.unusedVariables false
set_option linter.unusedSimpArgs false
def nodeBound (x : Nd) : Int := if timedB x.k = true then (if x.hi < 0 then x.lo else x.hi) else 0
def boundTo (f : List Nd) : Nat → Int
  | 0 => 0
  | k + 1 => if boundTo f k < nodeBound (ndAt f k) then nodeBound (ndAt f k) else boundTo f k
def boundB (f : List Nd) : Int := if rightB f = true then boundTo f f.length else -1
theorem rightB_good' (f : List Nd) (h : rightB f = true) : 1 ≤ f.length ∧ f.length ≤ 24 ∧ goodTo f f.length = true := by
  simp only [rightB, Bool.and_eq_true, decide_eq_true_eq] at h
  exact ⟨h.1.1, h.1.2, h.2.1⟩
/-- The bounds of a right node. -/
theorem nodeB_span (x : Nd) (i : Nat) (h : nodeB x i = true) : (timedB x.k = true ∧ 0 ≤ x.lo ∧ x.lo ≤ 1000 ∧ (x.hi = -1 ∨ x.lo ≤ x.hi ∧ x.hi ≤ 1000)) ∨ (timedB x.k = false ∧ x.lo = 0 ∧ x.hi = 0) := by
  simp only [nodeB, Bool.and_eq_true] at h
  obtain ⟨_, _, _, _, h5⟩ := h
  rcases Bool.eq_false_or_eq_true (timedB x.k) with ht | ht
  · rw [ht] at h5
    simp [spanB, isB] at h5
    exact Or.inl ⟨ht, h5.1.1, h5.1.2, h5.2⟩
  · rw [ht] at h5
    simp at h5
    exact Or.inr ⟨ht, h5.1, h5.2⟩
theorem boundTo_pos (f : List Nd) : ∀ k, 0 ≤ boundTo f k := by
  intro k
  induction k with
  | zero => exact Int.le_refl _
  | succ k ih => unfold boundTo; split <;> omega
theorem boundTo_le (f : List Nd) (n : Nat) (h : goodTo f n = true) : ∀ k, k ≤ n → boundTo f k ≤ 1000 := by
  intro k
  induction k with
  | zero => intro _; show (0 : Int) ≤ 1000; omega
  | succ k ih =>
    intro hk
    have h1 := ih (by omega)
    have h2 := nodeB_span _ k (goodTo_at f k n (by omega) h).1
    unfold boundTo
    split
    · unfold nodeBound
      rcases h2 with ⟨ht, a, b, c⟩ | ⟨ht, a, b⟩
      · rw [if_pos ht]; split <;> omega
      · rw [if_neg (by simp [ht])]; omega
    · exact h1
theorem max3 {x : Nd} {B : Int} (h : (timedB x.k = true ∧ 0 ≤ x.lo ∧ x.lo ≤ 1000 ∧ (x.hi = -1 ∨ x.lo ≤ x.hi ∧ x.hi ≤ 1000)) ∨ (timedB x.k = false ∧ x.lo = 0 ∧ x.hi = 0)) (hB : 0 ≤ B) :
    (if (if B < x.lo then x.lo else B) < x.hi then x.hi else if B < x.lo then x.lo else B) = if B < nodeBound x then nodeBound x else B := by
  unfold nodeBound
  rcases h with ⟨ht, a, b, c⟩ | ⟨ht, a, b⟩
  · simp only [ht, if_true]
    repeat' split
    all_goals omega
  · simp only [ht, Bool.false_eq_true, if_false]
    repeat' split
    all_goals omega
end Go.Proofs.YtagklhfejbdkdaaDoor
