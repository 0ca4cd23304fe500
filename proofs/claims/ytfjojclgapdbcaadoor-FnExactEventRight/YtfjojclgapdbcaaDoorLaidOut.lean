/-
  The types of the program are laid out.
-/
import Derived.Test.YtfjojclgapdbcaaDoorRows
import Derived.WalkKit
namespace Go.Proofs.YtfjojclgapdbcaaDoor
theorem Tryd.laidOut : laidOutB Tryd.prog = true := by kernel_rfl
end Go.Proofs.YtfjojclgapdbcaaDoor
