/-
  What formulas mean: plain facts.
-/
import Derived.Test.YtnbegpplbjppoaaDoorForm
import Derived.Test.YtnbegpplbjppoaaDoorEvS
import Derived.Test.YtnbegpplbjppoaaDoorEvHas
namespace Go.Proofs.YtnbegpplbjppoaaDoor
open Go.RowKit
set_option linter.unusedVariables false
set_option linter.unusedSimpArgs false
/-- A length of time is in bounds. -/
def gapB (x : Nd) (L : List Evt) (j i : Nat) : Bool := inB x.lo x.hi ((evAt L i).1 - (evAt L j).1)
/-- At some place ahead of k, within the bounds, g is so. -/
def onceTo (x : Nd) (L : List Evt) (i : Nat) (g : Nat → Bool) (k : Nat) : Bool := (List.range k).any fun j => gapB x L j i && g j
def sinceTo (x : Nd) (L : List Evt) (i : Nat) (ga gb : Nat → Bool) : Nat → Bool
  | 0 => false
  | j + 1 => (gapB x L j i && gb j) || (ga j && sinceTo x L i ga gb j)
/-- A node at a place, by those ahead of it. -/
def holdB (f : List Nd) (L : List Evt) (t : Nat → Nat → Bool) (n i : Nat) : Bool :=
  let x := ndAt f n
  if x.k = 1 then true
  else if x.k = 2 then nhTo (evAt L i).2 x.nm (evAt L i).2.length
  else if x.k = 3 then !t x.a.toNat i
  else if x.k = 4 then t x.a.toNat i && t x.b.toNat i
  else if x.k = 5 then t x.a.toNat i || t x.b.toNat i
  else if x.k = 6 then decide (0 < i) && (gapB x L (i - 1) i && t x.a.toNat (i - 1))
  else if x.k = 7 then onceTo x L i (t x.a.toNat) (i + 1)
  else if x.k = 8 then !onceTo x L i (fun j => !t x.a.toNat j) (i + 1)
  else if x.k = 9 then sinceTo x L i (t x.a.toNat) (t x.b.toNat) (i + 1)
  else false
def rowsTo (f : List Nd) (L : List Evt) : Nat → Nat → Nat → Bool
  | 0 => fun _ _ => false
  | k + 1 => fun n i => if n = k then holdB f L (rowsTo f L k) k i else rowsTo f L k n i
/-- Whether a node holds at a place. -/
def hv (f : List Nd) (L : List Evt) (n i : Nat) : Bool := rowsTo f L (n + 1) n i
theorem rowsTo_eq (f : List Nd) (L : List Evt) (n i : Nat) : ∀ k, n < k → rowsTo f L k n i = hv f L n i := by
  intro k
  induction k with
  | zero => intro h; omega
  | succ k ih =>
    intro h
    by_cases e : n = k
    · subst e; rfl
    · show (if n = k then _ else rowsTo f L k n i) = _
      rw [if_neg e]
      exact ih (by omega)
theorem onceTo_congr (x : Nd) (L : List Evt) (i : Nat) (g g' : Nat → Bool) (h : ∀ j, g j = g' j) (k : Nat) : onceTo x L i g k = onceTo x L i g' k := by
  have : g = g' := funext h
  rw [this]
theorem holdB_congr (f : List Nd) (L : List Evt) (t t' : Nat → Nat → Bool) (n i : Nat) (ha : 0 < armsN (ndAt f n).k → ∀ j, t (ndAt f n).a.toNat j = t' (ndAt f n).a.toNat j) (hb : 1 < armsN (ndAt f n).k → ∀ j, t (ndAt f n).b.toNat j = t' (ndAt f n).b.toNat j) : holdB f L t n i = holdB f L t' n i := by
  unfold holdB
  generalize ndAt f n = x at *
  simp only
  by_cases h1 : x.k = 1
  · rw [if_pos h1, if_pos h1]
  rw [if_neg h1, if_neg h1]
  by_cases h2 : x.k = 2
  · rw [if_pos h2, if_pos h2]
  rw [if_neg h2, if_neg h2]
  by_cases h3 : x.k = 3
  · rw [if_pos h3, if_pos h3, ha (by simp [armsN, h3])]
  rw [if_neg h3, if_neg h3]
  by_cases h4 : x.k = 4
  · rw [if_pos h4, if_pos h4, ha (by simp [armsN, h4]), hb (by simp [armsN, h4])]
  rw [if_neg h4, if_neg h4]
  by_cases h5 : x.k = 5
  · rw [if_pos h5, if_pos h5, ha (by simp [armsN, h5]), hb (by simp [armsN, h5])]
  rw [if_neg h5, if_neg h5]
  by_cases h6 : x.k = 6
  · rw [if_pos h6, if_pos h6, ha (by simp [armsN, h6])]
  rw [if_neg h6, if_neg h6]
  by_cases h7 : x.k = 7
  · rw [if_pos h7, if_pos h7, (funext (ha (by simp [armsN, h7])) : t x.a.toNat = t' x.a.toNat)]
  rw [if_neg h7, if_neg h7]
  by_cases h8 : x.k = 8
  · rw [if_pos h8, if_pos h8, (funext (ha (by simp [armsN, h8])) : t x.a.toNat = t' x.a.toNat)]
  rw [if_neg h8, if_neg h8]
  by_cases h9 : x.k = 9
  · rw [if_pos h9, if_pos h9, (funext (ha (by simp [armsN, h9])) : t x.a.toNat = t' x.a.toNat), (funext (hb (by simp [armsN, h9])) : t x.b.toNat = t' x.b.toNat)]
  rw [if_neg h9, if_neg h9]
theorem hv_eq (f : List Nd) (L : List Evt) (n i : Nat) (hd : armsOk (ndAt f n) n) : hv f L n i = holdB f L (hv f L) n i := by
  show (if n = n then holdB f L (rowsTo f L n) n i else _) = _
  rw [if_pos rfl]
  refine holdB_congr f L _ _ n i (fun h j => rowsTo_eq f L _ j n ?_) (fun h j => rowsTo_eq f L _ j n ?_)
  · have := hd.1 h; omega
  · have := hd.2 h; omega
theorem onceTo_yes (x : Nd) (L : List Evt) (i : Nat) (g : Nat → Bool) (k j : Nat) (hj : j < k) (h1 : gapB x L j i = true) (h2 : g j = true) : onceTo x L i g k = true := by
  simp only [onceTo, List.any_eq_true, List.mem_range]
  exact ⟨j, hj, by simp [h1, h2]⟩
theorem onceTo_no (x : Nd) (L : List Evt) (i : Nat) (g : Nat → Bool) (k : Nat) (h : ∀ j, j < k → (gapB x L j i && g j) = false) : onceTo x L i g k = false := by
  simp only [onceTo, List.any_eq_false, List.mem_range]
  intro j hj
  simp [h j hj]
/-- How many of the first n are so. -/
def cntTo (G : Nat → Bool) : Nat → Nat
  | 0 => 0
  | n + 1 => cntTo G n + (if G n then 1 else 0)
theorem cntTo_le (G : Nat → Bool) : ∀ n, cntTo G n ≤ n
  | 0 => Nat.le_refl _
  | n + 1 => by
    have := cntTo_le G n
    unfold cntTo
    split <;> omega
theorem cntTo_put (G : Nat → Bool) (p : Nat) (hp : G p = false) : ∀ n, cntTo (fun q => if q = p then true else G q) n = cntTo G n + (if p < n then 1 else 0)
  | 0 => by simp [cntTo]
  | n + 1 => by
    unfold cntTo
    rw [cntTo_put G p hp n]
    by_cases e : n = p
    · subst e
      simp [hp]
    · simp only [e, if_false]
      by_cases h : p < n
      · have h' : p < n + 1 := by omega
        simp only [h, h', if_true]
        omega
      · have h' : ¬ p < n + 1 := by omega
        simp only [h, h', if_false]
        omega
end Go.Proofs.YtnbegpplbjppoaaDoor
