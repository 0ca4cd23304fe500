/-
  The types of the program are laid out.
-/
import Derived.Test.YtlikkjppknbnfaaRows
import Derived.WalkKit
namespace Go.Proofs.Ytlikkjppknbnfaa
theorem Try.laidOut : laidOutB Try.prog = true := by kernel_rfl
end Go.Proofs.Ytlikkjppknbnfaa
