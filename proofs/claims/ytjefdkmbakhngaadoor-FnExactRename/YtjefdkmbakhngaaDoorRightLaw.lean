/-
  The walk of the law FnExactFormulaRight.
-/
import Derived.Test.YtjefdkmbakhngaaDoorInN
namespace Go.Proofs.YtjefdkmbakhngaaDoor
open Go.RowKit
set_option linter.unusedVariables false
set_option linter.unusedSimpArgs false
end Go.Proofs.YtjefdkmbakhngaaDoor
