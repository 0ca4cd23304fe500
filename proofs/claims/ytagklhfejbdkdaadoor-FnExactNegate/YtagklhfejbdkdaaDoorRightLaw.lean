/-
  The walk of the law FnExactFormulaRight.
-/
import Derived.Test.YtagklhfejbdkdaaDoorInN
namespace Go.Proofs.YtagklhfejbdkdaaDoor
open Go.RowKit
set_option linter.unusedVariables false
set_option linter.unusedSimpArgs false
end Go.Proofs.YtagklhfejbdkdaaDoor
