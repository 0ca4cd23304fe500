/-
  The types of the program are laid out.
-/
import Derived.Test.YtfafeomegoikkaaRows
import Derived.WalkKit
namespace Go.Proofs.Ytfafeomegoikkaa
theorem Try.laidOut : laidOutB Try.prog = true := by kernel_rfl
end Go.Proofs.Ytfafeomegoikkaa
