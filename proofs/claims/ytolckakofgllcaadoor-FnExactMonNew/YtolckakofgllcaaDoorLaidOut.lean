/-
  The types of the program are laid out.
-/
import Derived.Test.YtolckakofgllcaaDoorRows
import Derived.WalkKit
namespace Go.Proofs.YtolckakofgllcaaDoor
theorem Tryd.laidOut : laidOutB Tryd.prog = true := by kernel_rfl
end Go.Proofs.YtolckakofgllcaaDoor
