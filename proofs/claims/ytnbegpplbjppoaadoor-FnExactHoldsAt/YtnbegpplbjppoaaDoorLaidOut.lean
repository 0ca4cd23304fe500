/-
  The types of the program are laid out.
-/
import Derived.Test.YtnbegpplbjppoaaDoorRows
import Derived.WalkKit
namespace Go.Proofs.YtnbegpplbjppoaaDoor
theorem Tryd.laidOut : laidOutB Tryd.prog = true := by kernel_rfl
end Go.Proofs.YtnbegpplbjppoaaDoor
