/-
  Plain facts: nodes laid one after the other into a store in which no two are alike.
-/
import Derived.Test.YtagklhfejbdkdaaDoorPartS
namespace Go.Proofs.YtagklhfejbdkdaaDoor
open Go.RowKit
set_option linter.unusedVariables false
set_option linter.unusedSimpArgs false
/-- The first place of a node up to k; k if there is none. -/
def plTo (g : List Nd) (x : Nd) : Nat → Nat
  | 0 => 0
  | k + 1 => if plTo g x k < k then plTo g x k else if ndAt g k = x then k else k + 1
def plG (g : List Nd) (x : Nd) : Nat := plTo g x g.length
def putG (g : List Nd) (x : Nd) : List Nd := if plG g x < g.length then g else g ++ [x]
theorem plTo_le (g : List Nd) (x : Nd) : ∀ k, plTo g x k ≤ k
  | 0 => Nat.le_refl _
  | k + 1 => by
    have := plTo_le g x k
    unfold plTo
    split
    · omega
    · split <;> omega
theorem plTo_no (g : List Nd) (x : Nd) : ∀ k, plTo g x k = k → ∀ i, i < k → ndAt g i ≠ x
  | 0, _, i, hi => by omega
  | k + 1, h, i, hi => by
    unfold plTo at h
    by_cases h1 : plTo g x k < k
    · rw [if_pos h1] at h; omega
    · rw [if_neg h1] at h
      have h2 := plTo_le g x k
      by_cases h4 : ndAt g k = x
      · rw [if_pos h4] at h; omega
      · by_cases e : i = k
        · subst e; exact h4
        · exact plTo_no g x k (by omega) i (by omega)
theorem plTo_is (g : List Nd) (x : Nd) : ∀ k, plTo g x k < k → ndAt g (plTo g x k) = x ∧ ∀ i, i < plTo g x k → ndAt g i ≠ x
  | 0, h => by omega
  | k + 1, h => by
    unfold plTo at h ⊢
    by_cases h1 : plTo g x k < k
    · rw [if_pos h1]
      exact plTo_is g x k h1
    · rw [if_neg h1] at h ⊢
      have h2 := plTo_le g x k
      have h3 : plTo g x k = k := by omega
      by_cases h4 : ndAt g k = x
      · rw [if_pos h4]
        refine ⟨h4, fun i hi e => ?_⟩
        exact plTo_no g x k h3 i hi e
      · rw [if_neg h4] at h; omega
theorem plG_le (g : List Nd) (x : Nd) : plG g x ≤ g.length := plTo_le g x _
theorem plG_at {g : List Nd} {x : Nd} (h : plG g x < g.length) : ndAt g (plG g x) = x := (plTo_is g x _ h).1
theorem plG_first {g : List Nd} {x : Nd} (h : plG g x < g.length) (i : Nat) (hi : i < plG g x) : ndAt g i ≠ x := (plTo_is g x _ h).2 i hi
theorem plG_new {g : List Nd} {x : Nd} (h : ¬ plG g x < g.length) (i : Nat) (hi : i < g.length) : ndAt g i ≠ x := plTo_no g x g.length (by have := plG_le g x; unfold plG at *; omega) i hi
theorem plG_of {g : List Nd} {x : Nd} {k : Nat} (hk : k < g.length) (h : ndAt g k = x) (hf : ∀ i, i < k → ndAt g i ≠ x) : plG g x = k := by
  by_cases h1 : plG g x < g.length
  · have h2 := plG_at h1
    have h3 := fun i hi => plG_first h1 i hi
    rcases Nat.lt_trichotomy (plG g x) k with h4 | h4 | h4
    · exact absurd h2 (hf _ h4)
    · exact h4
    · exact absurd h (h3 _ h4)
  · exact absurd h (plG_new h1 k hk)
theorem plG_none {g : List Nd} {x : Nd} (hf : ∀ i, i < g.length → ndAt g i ≠ x) : plG g x = g.length := by
  by_cases h1 : plG g x < g.length
  · exact absurd (plG_at h1) (hf _ h1)
  · have := plG_le g x; omega
theorem putG_old {g : List Nd} {x : Nd} (h : plG g x < g.length) : putG g x = g := by unfold putG; rw [if_pos h]
theorem putG_new {g : List Nd} {x : Nd} (h : ¬ plG g x < g.length) : putG g x = g ++ [x] := by unfold putG; rw [if_neg h]
theorem putG_len (g : List Nd) (x : Nd) : g.length ≤ (putG g x).length ∧ (putG g x).length ≤ g.length + 1 := by
  unfold putG
  split
  · omega
  · simp
theorem plG_lt (g : List Nd) (x : Nd) : plG g x < (putG g x).length := by
  by_cases h : plG g x < g.length
  · rw [putG_old h]; exact h
  · rw [putG_new h]; have := plG_le g x; simp; omega
theorem ndAt_put (g : List Nd) (x : Nd) (i : Nat) (hi : i < g.length) : ndAt (putG g x) i = ndAt g i := by
  unfold putG
  split
  · rfl
  · simp [ndAt, List.getD, List.getElem?_append_left hi]
theorem ndAt_put_at (g : List Nd) (x : Nd) : ndAt (putG g x) (plG g x) = x := by
  by_cases h : plG g x < g.length
  · rw [putG_old h]; exact plG_at h
  · have h2 := plG_le g x
    have h3 : plG g x = g.length := by omega
    rw [putG_new h, h3]
    simp [ndAt, List.getD]
theorem goodTo_congr (f g : List Nd) : ∀ k, (∀ i, i < k → ndAt f i = ndAt g i) → goodTo f k = true → goodTo g k = true
  | 0, _, _ => by simp [goodTo]
  | k + 1, h, hg => by
    rw [goodTo_succ, Bool.and_eq_true] at hg ⊢
    obtain ⟨h1, h2⟩ := hg
    refine ⟨goodTo_congr f g k (fun i hi => h i (by omega)) h1, ?_⟩
    rw [Bool.and_eq_true, List.all_eq_true] at h2 ⊢
    rw [h k (by omega)] at h2
    refine ⟨h2.1, fun j hj => ?_⟩
    have h3 := h2.2 j hj
    rw [List.mem_range] at hj
    rw [← h j (by omega)]
    exact h3
theorem good_put (g : List Nd) (x : Nd) (hg : goodTo g g.length = true) (hx : nodeB x g.length = true) : goodTo (putG g x) (putG g x).length = true := by
  by_cases h : plG g x < g.length
  · rw [putG_old h]; exact hg
  · have hn := fun i hi => plG_new h i hi
    rw [putG_new h]
    have e : (g ++ [x]).length = g.length + 1 := by simp
    have hl : ∀ i, i < g.length → ndAt g i = ndAt (g ++ [x]) i := fun i hi => by simp [ndAt, List.getD, List.getElem?_append_left hi]
    have hlast : ndAt (g ++ [x]) g.length = x := by simp [ndAt, List.getD]
    rw [e, goodTo_succ, Bool.and_eq_true]
    refine ⟨goodTo_congr g _ g.length hl hg, ?_⟩
    rw [hlast, Bool.and_eq_true, List.all_eq_true]
    refine ⟨hx, fun j hj => ?_⟩
    rw [List.mem_range] at hj
    rw [← hl j hj]
    simpa using hn j hj
/-- What a row of nodes becomes, one after the other: the store, and the place of each. -/
def layS (f : List Nd) : Nat → List Nd × (Nat → Int)
  | 0 => ([], fun _ => 0)
  | k + 1 => (putG (layS f k).1 (movedN (layS f k).2 (ndAt f k)), fun j => if j = k then (plG (layS f k).1 (movedN (layS f k).2 (ndAt f k)) : Nat) else (layS f k).2 j)
/-- Each node is right by itself. -/
def okL (f : List Nd) (n : Nat) : Prop := ∀ i, i < n → nodeB (ndAt f i) i = true
theorem moved_right {x : Nd} {k m : Nat} {to : Nat → Int} (h : nodeB x k = true) (ht : ∀ j, j < k → 0 ≤ to j ∧ to j < m) : nodeB (movedN to x) m = true := by
  have ha := nodeB_arms x k h
  simp only [nodeB, Bool.and_eq_true] at h ⊢
  obtain ⟨h1, h2, h3, h4, h5⟩ := h
  have e : (movedN to x).k = x.k := rfl
  have en : (movedN to x).nm = x.nm := rfl
  have el : (movedN to x).lo = x.lo := rfl
  have eh : (movedN to x).hi = x.hi := rfl
  rw [e, en, el, eh]
  refine ⟨h1, h2, ?_, ?_, h5⟩
  · have ea : (movedN to x).a = if 0 < armsN x.k then to x.a.toNat else x.a := rfl
    rw [ea]
    by_cases h0 : 0 < armsN x.k
    · rw [if_pos h0, if_pos h0]
      have h6 := ha.1 h0
      have h7 := ht x.a.toNat (by omega)
      simp only [isB, decide_eq_true_eq]
      omega
    · rw [if_neg h0, if_neg h0]; rw [if_neg h0] at h3; exact h3
  · have ea : (movedN to x).b = if 1 < armsN x.k then to x.b.toNat else x.b := rfl
    rw [ea]
    by_cases h0 : 1 < armsN x.k
    · rw [if_pos h0, if_pos h0]
      have h6 := ha.2 h0
      have h7 := ht x.b.toNat (by omega)
      simp only [isB, decide_eq_true_eq]
      omega
    · rw [if_neg h0, if_neg h0]; rw [if_neg h0] at h4; exact h4
/-- What holds of what has been laid. -/
structure LaidG (f : List Nd) (k : Nat) : Prop where
  good : goodTo (layS f k).1 (layS f k).1.length = true
  len : (layS f k).1.length ≤ k
  to : ∀ j, j < k → 0 ≤ (layS f k).2 j ∧ (layS f k).2 j < (layS f k).1.length
  zero : ∀ j, k ≤ j → (layS f k).2 j = 0
theorem laid_all (f : List Nd) (n : Nat) (h : okL f n) : ∀ k, k ≤ n → LaidG f k
  | 0, _ => ⟨by simp [layS, goodTo], by simp [layS], fun j hj => by omega, fun j _ => rfl⟩
  | k + 1, hk => by
    obtain ⟨h1, h2, h3, h4⟩ := laid_all f n h k (by omega)
    have hx := moved_right (h k (by omega)) h3
    have hl := putG_len (layS f k).1 (movedN (layS f k).2 (ndAt f k))
    refine ⟨good_put _ _ h1 hx, by show (putG _ _).length ≤ _; omega, fun j hj => ?_, fun j hj => ?_⟩
    · show 0 ≤ (if j = k then _ else _) ∧ (if j = k then _ else _) < ((putG _ _).length : Int)
      by_cases e : j = k
      · rw [if_pos e]
        have := plG_lt (layS f k).1 (movedN (layS f k).2 (ndAt f k))
        omega
      · rw [if_neg e]
        have := h3 j (by omega)
        omega
    · show (if j = k then _ else (layS f k).2 j) = 0
      rw [if_neg (by omega)]
      exact h4 j (by omega)
/-- The part of what was laid that is wanted. -/
def partG (g : List Nd) (at' : Nat) : List Nd := partTo g (walkF g g.length at' []) (walkF g g.length at' []).length
end Go.Proofs.YtagklhfejbdkdaaDoor
