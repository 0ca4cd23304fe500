/-
  What the walks of the laws over one event share; the walk of FnExactEventRight.
-/
import Derived.Test.YtnbegpplbjppoaaDoorEvConv
import Derived.Test.YtnbegpplbjppoaaDoorEvRight
namespace Go.Proofs.YtnbegpplbjppoaaDoor
open Go.RowKit
set_option linter.unusedVariables false
set_option linter.unusedSimpArgs false
/-- What is asked of a row of names that came in. -/
structure InE (w : World) (a : Option Addr) (S : List ByteArray) : Prop where
  arg : ArgT w a S
  ok : TxOk S
  len : S.length ≤ maxLen
/-- An event lies in a box. -/
def BoxE (w : World) (q : Nat) (t : Int) (v : Value) : Prop := q < w.heap.size ∧ w.cell? ⟨q, 0, none⟩ = some (.int .i64 t) ∧ w.cell? ⟨q, 1, none⟩ = some v
theorem BoxE.below {w w' : World} {q : Nat} {t : Int} {v : Value} (h : BoxE w q t v) (hb : Below w.heap.size w w') : BoxE w' q t v :=
  ⟨Nat.lt_of_lt_of_le h.1 hb.size, (hb.cell (p := ⟨q, 0, none⟩) h.1).trans h.2.1, (hb.cell (p := ⟨q, 1, none⟩) h.1).trans h.2.2⟩
theorem BoxE.alloc {w : World} {q : Nat} {t : Int} {v : Value} (h : BoxE w q t v) (o : Obj) : BoxE (w.alloc o) q t v := h.below ((Below.refl _ _).alloc (Nat.le_refl _) o)
theorem BoxE.new (w : World) (t : Int) (v : Value) (T : TypeId) : BoxE (w.alloc (.cells #[.int .i64 t, v] T)) w.heap.size t v := ⟨by simp, by simp [go_sem], by simp [go_sem]⟩
theorem below_new {w W : World} (h : Below w.heap.size w W) (o : Obj) : Below w.heap.size w (W.alloc o) := h.alloc h.size o
theorem TsAt.alloc {w : World} {a : Option Addr} {S : List ByteArray} (h : TsAt w a S) (o : Obj) : TsAt (w.alloc o) a S := h.below ((Below.refl _ _).alloc (Nat.le_refl _) o)
theorem below_drew {B : Nat} {a w : World} (h : Below B a w) : Below B a w.drew := ⟨h.os, h.tape, h.output, h.size, h.block⟩
theorem below_undrew {w w' : World} (h : Below w.drew.heap.size w.drew w') : Below w.heap.size w w' := ⟨h.os, h.tape, h.output, h.size, h.block⟩
end Go.Proofs.YtnbegpplbjppoaaDoor
