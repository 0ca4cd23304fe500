/-
  One node: the program's nodeRight, what its walks share.
-/
import Derived.Test.YtagklhfejbdkdaaDoorKinds
import Derived.Test.YtagklhfejbdkdaaDoorWordLaw
import Derived.Test.YtagklhfejbdkdaaDoorSv
namespace Go.Proofs.YtagklhfejbdkdaaDoor
open Go.RowKit
set_option linter.unusedVariables false
set_option linter.unusedSimpArgs false
theorem box_node (w : World) (x : Nd) (t : TypeId) : NodeAt (w.alloc (.cells #[.int .i64 x.k, .int .i64 x.a, .int .i64 x.b, .int .i64 x.lo, .int .i64 x.hi, .string x.nm] t)) w.heap.size 0 x :=
  ⟨by simp [go_sem], by simp [go_sem], by simp [go_sem], by simp [go_sem], by simp [go_sem], by simp [go_sem]⟩
theorem NodeAt.zero {w : World} {b : Nat} {k a b' lo hi : Int} {nm : ByteArray} (h : NodeAt w b 0 (k, a, b', lo, hi, nm)) : w.cell? ⟨b, 0, none⟩ = some (.int .i64 k) ∧ w.cell? ⟨b, 1, none⟩ = some (.int .i64 a) ∧ w.cell? ⟨b, 2, none⟩ = some (.int .i64 b') ∧ w.cell? ⟨b, 3, none⟩ = some (.int .i64 lo) ∧ w.cell? ⟨b, 4, none⟩ = some (.int .i64 hi) ∧ w.cell? ⟨b, 5, none⟩ = some (.string nm) :=
  ⟨h.c0, by have := h.c1; simp only [Nat.zero_add] at this; exact this, by have := h.c2; simp only [Nat.zero_add] at this; exact this, by have := h.c3; simp only [Nat.zero_add] at this; exact this, by have := h.c4; simp only [Nat.zero_add] at this; exact this, by have := h.c5; simp only [Nat.zero_add] at this; exact this⟩
end Go.Proofs.YtagklhfejbdkdaaDoor
