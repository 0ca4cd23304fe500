/-
  The types of the program are laid out.
-/
import Derived.Test.YtjefdkmbakhngaaDoorRows
import Derived.WalkKit
namespace Go.Proofs.YtjefdkmbakhngaaDoor
theorem Tryd.laidOut : laidOutB Tryd.prog = true := by kernel_rfl
end Go.Proofs.YtjefdkmbakhngaaDoor
