/-
  The types of the program are laid out.
-/
import Derived.Test.YtljhokoojodjnaaDoorRows
import Derived.WalkKit
namespace Go.Proofs.YtljhokoojodjnaaDoor
theorem Tryd.laidOut : laidOutB Tryd.prog = true := by kernel_rfl
end Go.Proofs.YtljhokoojodjnaaDoor
