/-
  The types of the program are laid out.
-/
import Derived.Test.YtnddndbmimlknaaRows
import Derived.WalkKit
namespace Go.Proofs.Ytnddndbmimlknaa
theorem Try.laidOut : laidOutB Try.prog = true := by kernel_rfl
end Go.Proofs.Ytnddndbmimlknaa
