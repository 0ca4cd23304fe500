/-
  Small facts on the marks: where they begin, what is marked.
-/
import Derived.Test.YthjnlcjjhklfpaaDoorMarkE
namespace Go.Proofs.YthjnlcjjhklfpaaDoor
open Go.RowKit
set_option linter.unusedVariables false
set_option linter.unusedSimpArgs false
theorem ofT_flat {a : Option Addr} {j : Nat} {P : Nat → Prop} (h : OfT a j) (hp : ∀ b, a = some ⟨b, 0, none⟩ → P b) (ha : ∀ q, a = some q → q = ⟨q.block, 0, none⟩) : P j := by
  obtain ⟨q, rfl, rfl⟩ := h
  exact hp _ (by rw [← ha q rfl])
def lenN (E : List Evt) (i : Nat) : Nat := (evAt E i).2.length
theorem kAt_sum (E : List Evt) (k0 : Nat) : ∀ k, kAt k0 (lenN E) k = k0 + k + sumN E k
  | 0 => rfl
  | k + 1 => by
    show kAt k0 (lenN E) k + 1 + lenN E k = k0 + (k + 1) + (sumN E k + (evAt E k).2.length)
    rw [kAt_sum E k0 k]
    unfold lenN
    omega
/-- A row of events as toEventS makes it, to be written to. -/
theorem EvRow.mk' {w : World} {b : Nat} {E : List Evt} {A : Nat → Nat} {z : Nat → Value} (h : EvRow w b E A z E.length) : EvMk w b E.length (fun i => some ⟨A i, 0, none⟩) (lenN E) (lenN E) := by
  refine ⟨⟨_, h.row, fun i hi => ?_⟩, fun i hi => Or.inr ⟨A i, _, rfl, h.names i hi⟩, fun i hi q e => ?_, fun i j hi hj hne q r e1 e2 => ?_⟩
  · unfold rowE
    rw [if_pos (by omega), if_neg (by omega), show (i * 2 + 1) / 2 = i by omega]
    rfl
  · injection e with e
    subst e
    have := h.above i hi
    show A i ≠ b
    omega
  · injection e1 with e1
    injection e2 with e2
    subst e1 e2
    show A i ≠ A j
    rcases Nat.lt_or_gt_of_ne hne with hl | hl
    · have := h.rising i j hl hj; omega
    · have := h.rising j i hl hi; omega
end Go.Proofs.YthjnlcjjhklfpaaDoor
