/-
  Bounds of a node: plain facts.
-/
import Derived.Test.YtagklhfejbdkdaaDoorSvB
namespace Go.Proofs.YtagklhfejbdkdaaDoor
open Go.RowKit
set_option linter.unusedVariables false
set_option linter.unusedSimpArgs false
def isB (n lo hi : Int) : Bool := decide (lo ≤ n ∧ n ≤ hi)
def spanB (lo hi : Int) : Bool := isB lo 0 1000 && (hi == -1 || isB hi lo 1000)
def inB (lo hi n : Int) : Bool := decide (lo ≤ n) && (decide (hi = -1) || decide (n ≤ hi))
end Go.Proofs.YtagklhfejbdkdaaDoor
