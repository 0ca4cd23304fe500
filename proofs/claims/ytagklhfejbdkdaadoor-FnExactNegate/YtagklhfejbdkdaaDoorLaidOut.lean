/-
  The types of the program are laid out.
-/
import Derived.Test.YtagklhfejbdkdaaDoorRows
import Derived.WalkKit
namespace Go.Proofs.YtagklhfejbdkdaaDoor
theorem Tryd.laidOut : laidOutB Tryd.prog = true := by kernel_rfl
end Go.Proofs.YtagklhfejbdkdaaDoor
