/-
  Times: the model's and the program's, by one contract.
-/
import Derived.Test.YtgehklhpmelffaaDoorSvB
namespace Go.Proofs.YtgehklhpmelffaaDoor
open Go.RowKit
set_option linter.unusedVariables false
set_option linter.unusedSimpArgs false
def timeB (t : Int) : Bool := decide (0 ≤ t ∧ t ≤ 1000000)
end Go.Proofs.YtgehklhpmelffaaDoor
