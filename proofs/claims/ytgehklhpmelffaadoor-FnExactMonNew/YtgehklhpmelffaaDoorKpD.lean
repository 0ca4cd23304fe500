/-
  The program's KeepRight; KeepMost, the model's and the program's; by one contract.
-/
import Derived.Test.YtgehklhpmelffaaDoorKpC
import Derived.Lib.QuietBelow
namespace Go.Proofs.YtgehklhpmelffaaDoor
open Go.RowKit
set_option linter.unusedVariables false
set_option linter.unusedSimpArgs false
theorem right_is (lo hi : Int) (v : Bool) (hv : spanB lo hi = v) (w : World) : Calls Tryd.prog 56 #[.agg #[.int .i64 lo, .int .i64 hi]] w fun e w' => e = .returned (.bool v) ∧ Below w.heap.size w w' := by
  subst hv; exact right_any lo hi w
def kmI (lo hi : Int) (Z : List Int) : Int := if krB lo hi Z then mostI hi else -1
structure SBox (W : World) (q : Nat) (lo hi : Int) : Prop where
  lt : q < W.heap.size
  s0 : W.cell? ⟨q, 0, none⟩ = some (.int .i64 lo)
  s1 : W.cell? ⟨q, 1, none⟩ = some (.int .i64 hi)
end Go.Proofs.YtgehklhpmelffaaDoor
