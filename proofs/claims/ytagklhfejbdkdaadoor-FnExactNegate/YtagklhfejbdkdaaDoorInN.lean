/-
  What is asked of a row of nodes that came in.
-/
import Derived.Test.YtagklhfejbdkdaaDoorRightI
import Derived.Test.YtagklhfejbdkdaaDoorConv2
namespace Go.Proofs.YtagklhfejbdkdaaDoor
open Go.RowKit
set_option linter.unusedVariables false
set_option linter.unusedSimpArgs false
/-- What is asked of a row of nodes that came in. -/
structure InN (w : World) (a : Option Addr) (cap : Nat) (f : List Nd) : Prop where
  arg : ArgN w a f
  ok : ∀ i, i < f.length → ndOk (ndAt f i)
  len : f.length ≤ maxLen
theorem ndOk.nm {x : Nd} (h : ndOk x) : x.nm.size ≤ maxLen := h.2.2.2.2.2
end Go.Proofs.YtagklhfejbdkdaaDoor
