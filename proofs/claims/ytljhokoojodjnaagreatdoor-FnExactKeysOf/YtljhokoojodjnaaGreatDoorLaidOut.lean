/-
  The types of the program are laid out.
-/
import Derived.Test.YtljhokoojodjnaaGreatDoorRows
import Derived.WalkKit
namespace Go.Proofs.YtljhokoojodjnaaGreatDoor
theorem Tryz.laidOut : laidOutB Tryz.prog = true := by kernel_rfl
end Go.Proofs.YtljhokoojodjnaaGreatDoor
