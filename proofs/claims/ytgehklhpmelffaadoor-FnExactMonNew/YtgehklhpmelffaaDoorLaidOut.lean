/-
  The types of the program are laid out.
-/
import Derived.Test.YtgehklhpmelffaaDoorRows
import Derived.WalkKit
namespace Go.Proofs.YtgehklhpmelffaaDoor
theorem Tryd.laidOut : laidOutB Tryd.prog = true := by kernel_rfl
end Go.Proofs.YtgehklhpmelffaaDoor
