/-
  The types of the program are laid out.
-/
import Derived.Test.YthjnlcjjhklfpaaDoorRows
import Derived.WalkKit
namespace Go.Proofs.YthjnlcjjhklfpaaDoor
theorem Tryd.laidOut : laidOutB Tryd.prog = true := by kernel_rfl
end Go.Proofs.YthjnlcjjhklfpaaDoor
