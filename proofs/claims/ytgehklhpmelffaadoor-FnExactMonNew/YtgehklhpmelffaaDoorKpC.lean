/-
  KeepRight and KeepMost, the model's and the program's, by one contract.
-/
import Derived.Test.YtgehklhpmelffaaDoorKpB
namespace Go.Proofs.YtgehklhpmelffaaDoor
open Go.RowKit
set_option linter.unusedVariables false
set_option linter.unusedSimpArgs false
/-- A Keep's box. -/
structure KBox (W : World) (q : Nat) (lo hi : Int) (a : Option Addr) (n c : Nat) : Prop where
  lt : q < W.heap.size
  k0 : W.cell? ⟨q, 0, none⟩ = some (.int .i64 lo)
  k1 : W.cell? ⟨q, 1, none⟩ = some (.int .i64 hi)
  k2 : W.cell? ⟨q, 2, none⟩ = some (.slice a n c)
theorem KBox.new (w : World) (lo hi : Int) (a : Option Addr) (n c : Nat) (t : TypeId) : KBox (w.alloc (.cells #[.int .i64 lo, .int .i64 hi, .slice a n c] t)) w.heap.size lo hi a n c :=
  ⟨by simp, by simp [go_sem], by simp [go_sem], by simp [go_sem]⟩
theorem KBox.below {W W' : World} {q : Nat} {lo hi : Int} {a : Option Addr} {n c : Nat} {B : Nat} (h : KBox W q lo hi a n c) (hb : Below B W W') (hq : q < B) : KBox W' q lo hi a n c :=
  ⟨Nat.lt_of_lt_of_le h.lt hb.size, (hb.cell (p := ⟨q, _, none⟩) hq).trans h.k0, (hb.cell (p := ⟨q, _, none⟩) hq).trans h.k1, (hb.cell (p := ⟨q, _, none⟩) hq).trans h.k2⟩
theorem spanB_hi1 {lo hi : Int} (h : spanB lo hi = true) : -1 ≤ hi ∧ hi ≤ 1000 := by have := spanB_parts h; omega
end Go.Proofs.YtgehklhpmelffaaDoor
