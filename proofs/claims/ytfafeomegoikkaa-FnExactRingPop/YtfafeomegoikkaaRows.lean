/-
  No cell of these rows narrows 'for every input' (looked for: loops, veiled, ifaces, maps, wideKeys, modest, calm, conditions, laid).
  DERIVED. THE GIVEN ROWS OF THIS SEAT. 8 by the template 'for every input the law returns true; each argument reads behind the call as it read before'; 0 by the template 'total and deterministic' (their statements: YtfafeomegoikkaaTotals.lean).
  GIVEN WITH THE SEED: the statements are not yours to turn. If you find one false, say at which input.
  Laid BY PROGRAM, IN A SANDBOX (cutbox-rows.mjs): the forced cells as the released guide's own fill.sh prints them over the translation 232742763ee197f6… (all of the seat's roots in one cut). By AI agents, Wed Nov 11 2026. No macro, syntax, notation, axiom, sorry.
-/
import Derived.Test.YtfafeomegoikkaaChecked
import GoSem.Claim
import GoSem.ClaimJoined
import GoSem.ClaimMapViews
import Derived.JoinedTies
import Derived.KernelRfl
namespace Go.Proofs.Ytfafeomegoikkaa
/- THE CELL 'sum', in the pinned program and in every row, IS THE sha256 OF THE DUMP (.gsa) THAT YtfafeomegoikkaaProg.lean LOADS. Nothing in Lean hashes anything: it is a label: what it is worth is what the hold of that sum in a sandbox is worth. -/
noncomputable def Try.pinned : Pinned := { name := "ytfafeomegoikkaa", sum := "232742763ee197f6b7f8cb873f28c4b1b9a3cbd364cf2448c080389440f3dd09", checked := Try.checked }
namespace Rows
def none {H : Type} : Left H := { results := [], args := [] }

/-- 'laws.FnRing': WHATEVER THE INPUT: true; the input reads as it did. -/
def fnRingSpec : ChangeSpec := { name := "fnRing", fn := fun _ => fun
  | [d1, d2] => { results := [.lit (.bool true)], args := [d1, d2] }
  | _ => none }
def fnRingRow : OpenClaim := { program := "ytfafeomegoikkaa", sum := "232742763ee197f6b7f8cb873f28c4b1b9a3cbd364cf2448c080389440f3dd09", func := "loop.example/g00759/laws.FnRing", spec := "fnRing", inPlace := ["sync/atomic.StoreInt64", "sync/atomic.LoadInt64", "sync/atomic.CompareAndSwapInt64", "sync/atomic.SwapInt64"], unfollowed := true, recurses := true, apart := false }
def FnRingSaid : Prop := fnRingRow.holds Try.pinned (OpenSpec.ofChange fnRingSpec)

/-- ITS FALSE NEIGHBOUR: 'it returns false'. Refute it at one input. -/
def fnRingWrong : ChangeSpec := { name := "fnRing", fn := fun _ => fun
  | [d1, d2] => { results := [.lit (.bool false)], args := [d1, d2] }
  | _ => none }
def FnRingWrongFalsely : Prop := fnRingRow.holds Try.pinned (OpenSpec.ofChange fnRingWrong)

/-- 'laws.FnExactRingRight': WHATEVER THE INPUT: true; the input reads as it did. -/
def fnExactRingRightSpec : ChangeSpec := { name := "fnExactRingRight", fn := fun _ => fun
  | [d] => { results := [.lit (.bool true)], args := [d] }
  | _ => none }
def fnExactRingRightRow : OpenClaim := { program := "ytfafeomegoikkaa", sum := "232742763ee197f6b7f8cb873f28c4b1b9a3cbd364cf2448c080389440f3dd09", func := "loop.example/g00759/laws.FnExactRingRight", spec := "fnExactRingRight", apart := false }
def FnExactRingRightSaid : Prop := fnExactRingRightRow.holds Try.pinned (OpenSpec.ofChange fnExactRingRightSpec)

/-- ITS FALSE NEIGHBOUR: 'it returns false'. Refute it at one input. -/
def fnExactRingRightWrong : ChangeSpec := { name := "fnExactRingRight", fn := fun _ => fun
  | [d] => { results := [.lit (.bool false)], args := [d] }
  | _ => none }
def FnExactRingRightWrongFalsely : Prop := fnExactRingRightRow.holds Try.pinned (OpenSpec.ofChange fnExactRingRightWrong)

/-- 'laws.FnExactRingNew': WHATEVER THE INPUT: true; the input reads as it did. -/
def fnExactRingNewSpec : ChangeSpec := { name := "fnExactRingNew", fn := fun _ => fun
  | [d] => { results := [.lit (.bool true)], args := [d] }
  | _ => none }
def fnExactRingNewRow : OpenClaim := { program := "ytfafeomegoikkaa", sum := "232742763ee197f6b7f8cb873f28c4b1b9a3cbd364cf2448c080389440f3dd09", func := "loop.example/g00759/laws.FnExactRingNew", spec := "fnExactRingNew", apart := false }
def FnExactRingNewSaid : Prop := fnExactRingNewRow.holds Try.pinned (OpenSpec.ofChange fnExactRingNewSpec)

/-- ITS FALSE NEIGHBOUR: 'it returns false'. Refute it at one input. -/
def fnExactRingNewWrong : ChangeSpec := { name := "fnExactRingNew", fn := fun _ => fun
  | [d] => { results := [.lit (.bool false)], args := [d] }
  | _ => none }
def FnExactRingNewWrongFalsely : Prop := fnExactRingNewRow.holds Try.pinned (OpenSpec.ofChange fnExactRingNewWrong)

/-- 'laws.FnExactRingClaim': WHATEVER THE INPUT: true; the input reads as it did. -/
def fnExactRingClaimSpec : ChangeSpec := { name := "fnExactRingClaim", fn := fun _ => fun
  | [d] => { results := [.lit (.bool true)], args := [d] }
  | _ => none }
def fnExactRingClaimRow : OpenClaim := { program := "ytfafeomegoikkaa", sum := "232742763ee197f6b7f8cb873f28c4b1b9a3cbd364cf2448c080389440f3dd09", func := "loop.example/g00759/laws.FnExactRingClaim", spec := "fnExactRingClaim", inPlace := ["sync/atomic.StoreInt64", "sync/atomic.LoadInt64", "sync/atomic.CompareAndSwapInt64"], unfollowed := true, recurses := true, apart := false }
def FnExactRingClaimSaid : Prop := fnExactRingClaimRow.holds Try.pinned (OpenSpec.ofChange fnExactRingClaimSpec)

/-- ITS FALSE NEIGHBOUR: 'it returns false'. Refute it at one input. -/
def fnExactRingClaimWrong : ChangeSpec := { name := "fnExactRingClaim", fn := fun _ => fun
  | [d] => { results := [.lit (.bool false)], args := [d] }
  | _ => none }
def FnExactRingClaimWrongFalsely : Prop := fnExactRingClaimRow.holds Try.pinned (OpenSpec.ofChange fnExactRingClaimWrong)

/-- 'laws.FnExactRingFill': WHATEVER THE INPUT: true; the input reads as it did. -/
def fnExactRingFillSpec : ChangeSpec := { name := "fnExactRingFill", fn := fun _ => fun
  | [d1, d2, d3] => { results := [.lit (.bool true)], args := [d1, d2, d3] }
  | _ => none }
def fnExactRingFillRow : OpenClaim := { program := "ytfafeomegoikkaa", sum := "232742763ee197f6b7f8cb873f28c4b1b9a3cbd364cf2448c080389440f3dd09", func := "loop.example/g00759/laws.FnExactRingFill", spec := "fnExactRingFill", inPlace := ["sync/atomic.LoadInt64", "sync/atomic.CompareAndSwapInt64", "sync/atomic.StoreInt64"], unfollowed := true, recurses := true, apart := false }
def FnExactRingFillSaid : Prop := fnExactRingFillRow.holds Try.pinned (OpenSpec.ofChange fnExactRingFillSpec)

/-- ITS FALSE NEIGHBOUR: 'it returns false'. Refute it at one input. -/
def fnExactRingFillWrong : ChangeSpec := { name := "fnExactRingFill", fn := fun _ => fun
  | [d1, d2, d3] => { results := [.lit (.bool false)], args := [d1, d2, d3] }
  | _ => none }
def FnExactRingFillWrongFalsely : Prop := fnExactRingFillRow.holds Try.pinned (OpenSpec.ofChange fnExactRingFillWrong)

/-- 'laws.FnExactRingPop': WHATEVER THE INPUT: true; the input reads as it did. -/
def fnExactRingPopSpec : ChangeSpec := { name := "fnExactRingPop", fn := fun _ => fun
  | [d] => { results := [.lit (.bool true)], args := [d] }
  | _ => none }
def fnExactRingPopRow : OpenClaim := { program := "ytfafeomegoikkaa", sum := "232742763ee197f6b7f8cb873f28c4b1b9a3cbd364cf2448c080389440f3dd09", func := "loop.example/g00759/laws.FnExactRingPop", spec := "fnExactRingPop", inPlace := ["sync/atomic.StoreInt64", "sync/atomic.LoadInt64", "sync/atomic.CompareAndSwapInt64", "sync/atomic.SwapInt64"], unfollowed := true, recurses := true, apart := false }
def FnExactRingPopSaid : Prop := fnExactRingPopRow.holds Try.pinned (OpenSpec.ofChange fnExactRingPopSpec)

/-- ITS FALSE NEIGHBOUR: 'it returns false'. Refute it at one input. -/
def fnExactRingPopWrong : ChangeSpec := { name := "fnExactRingPop", fn := fun _ => fun
  | [d] => { results := [.lit (.bool false)], args := [d] }
  | _ => none }
def FnExactRingPopWrongFalsely : Prop := fnExactRingPopRow.holds Try.pinned (OpenSpec.ofChange fnExactRingPopWrong)

/-- 'laws.FnExactRingReady': WHATEVER THE INPUT: true; the input reads as it did. -/
def fnExactRingReadySpec : ChangeSpec := { name := "fnExactRingReady", fn := fun _ => fun
  | [d] => { results := [.lit (.bool true)], args := [d] }
  | _ => none }
def fnExactRingReadyRow : OpenClaim := { program := "ytfafeomegoikkaa", sum := "232742763ee197f6b7f8cb873f28c4b1b9a3cbd364cf2448c080389440f3dd09", func := "loop.example/g00759/laws.FnExactRingReady", spec := "fnExactRingReady", apart := false }
def FnExactRingReadySaid : Prop := fnExactRingReadyRow.holds Try.pinned (OpenSpec.ofChange fnExactRingReadySpec)

/-- ITS FALSE NEIGHBOUR: 'it returns false'. Refute it at one input. -/
def fnExactRingReadyWrong : ChangeSpec := { name := "fnExactRingReady", fn := fun _ => fun
  | [d] => { results := [.lit (.bool false)], args := [d] }
  | _ => none }
def FnExactRingReadyWrongFalsely : Prop := fnExactRingReadyRow.holds Try.pinned (OpenSpec.ofChange fnExactRingReadyWrong)

/-- 'laws.FnExactRingOpen': WHATEVER THE INPUT: true; the input reads as it did. -/
def fnExactRingOpenSpec : ChangeSpec := { name := "fnExactRingOpen", fn := fun _ => fun
  | [d] => { results := [.lit (.bool true)], args := [d] }
  | _ => none }
def fnExactRingOpenRow : OpenClaim := { program := "ytfafeomegoikkaa", sum := "232742763ee197f6b7f8cb873f28c4b1b9a3cbd364cf2448c080389440f3dd09", func := "loop.example/g00759/laws.FnExactRingOpen", spec := "fnExactRingOpen", apart := false }
def FnExactRingOpenSaid : Prop := fnExactRingOpenRow.holds Try.pinned (OpenSpec.ofChange fnExactRingOpenSpec)

/-- ITS FALSE NEIGHBOUR: 'it returns false'. Refute it at one input. -/
def fnExactRingOpenWrong : ChangeSpec := { name := "fnExactRingOpen", fn := fun _ => fun
  | [d] => { results := [.lit (.bool false)], args := [d] }
  | _ => none }
def FnExactRingOpenWrongFalsely : Prop := fnExactRingOpenRow.holds Try.pinned (OpenSpec.ofChange fnExactRingOpenWrong)

/- THE SECOND FORM. 'bulk': how many values and letters a reading holds, each counted each time it is reached (what is shared counts as often as it is met; a slice's spare places count too). A statement '..UptoSaid' is the law's where the arguments, and the package variables that the reading takes, are together of bulk at most 1048576: NARROWER than '..Said'. Prove '..Said' where nothing that the law and all that it calls make is longer than what came in: it says more and counts as full. Else prove '..UptoSaid'. A law counts once. -/
mutual
def uptoBulk {H : Type} : DataW H → Nat
  | .lit (.string bytes) => bytes.length + 1
  | .lit _ => 1
  | .nil => 1
  | .ptr d => uptoBulk d + 1
  | .slice elems spare => uptoBulkAll elems + uptoBulkAll spare + 1
  | .agg parts => uptoBulkAll parts + 1
  | .iface _ d => uptoBulk d + 1
  | .map entries => uptoBulkEntries entries + 1
  | .held _ => 1
def uptoBulkAll {H : Type} : List (DataW H) → Nat
  | [] => 0
  | d :: r => uptoBulk d + uptoBulkAll r
def uptoBulkEntries {H : Type} : List (Lit × DataW H) → Nat
  | [] => 0
  | x :: r => uptoBulkEntry x + uptoBulkEntries r
def uptoBulkEntry {H : Type} : Lit × DataW H → Nat
  | (.string bytes, d) => bytes.length + uptoBulk d + 1
  | (_, d) => uptoBulk d + 1
 end
def uptoSmall : (H : Type) → List (DataW H) → Bool := fun _ ds => decide (uptoBulkAll ds ≤ 1048576)
def OpenSpec.upto (s : _root_.Go.ChangeSpec) : _root_.Go.OpenSpec := { _root_.Go.OpenSpec.ofChange s with cond := some uptoSmall }

/-- 'laws.FnRing', WHERE WHAT IT READS IS OF BULK AT MOST 1048576: true; the input reads as it did. -/
def fnRingUptoRow : OpenClaim := { program := "ytfafeomegoikkaa", sum := "232742763ee197f6b7f8cb873f28c4b1b9a3cbd364cf2448c080389440f3dd09", func := "loop.example/g00759/laws.FnRing", spec := "fnRing", inPlace := ["sync/atomic.StoreInt64", "sync/atomic.LoadInt64", "sync/atomic.CompareAndSwapInt64", "sync/atomic.SwapInt64"], unfollowed := true, recurses := true, apart := false, narrowed := true }
def FnRingUptoSaid : Prop := fnRingUptoRow.holds Try.pinned (OpenSpec.upto fnRingSpec)

/-- 'laws.FnExactRingRight', WHERE WHAT IT READS IS OF BULK AT MOST 1048576: true; the input reads as it did. -/
def fnExactRingRightUptoRow : OpenClaim := { program := "ytfafeomegoikkaa", sum := "232742763ee197f6b7f8cb873f28c4b1b9a3cbd364cf2448c080389440f3dd09", func := "loop.example/g00759/laws.FnExactRingRight", spec := "fnExactRingRight", apart := false, narrowed := true }
def FnExactRingRightUptoSaid : Prop := fnExactRingRightUptoRow.holds Try.pinned (OpenSpec.upto fnExactRingRightSpec)

/-- 'laws.FnExactRingNew', WHERE WHAT IT READS IS OF BULK AT MOST 1048576: true; the input reads as it did. -/
def fnExactRingNewUptoRow : OpenClaim := { program := "ytfafeomegoikkaa", sum := "232742763ee197f6b7f8cb873f28c4b1b9a3cbd364cf2448c080389440f3dd09", func := "loop.example/g00759/laws.FnExactRingNew", spec := "fnExactRingNew", apart := false, narrowed := true }
def FnExactRingNewUptoSaid : Prop := fnExactRingNewUptoRow.holds Try.pinned (OpenSpec.upto fnExactRingNewSpec)

/-- 'laws.FnExactRingClaim', WHERE WHAT IT READS IS OF BULK AT MOST 1048576: true; the input reads as it did. -/
def fnExactRingClaimUptoRow : OpenClaim := { program := "ytfafeomegoikkaa", sum := "232742763ee197f6b7f8cb873f28c4b1b9a3cbd364cf2448c080389440f3dd09", func := "loop.example/g00759/laws.FnExactRingClaim", spec := "fnExactRingClaim", inPlace := ["sync/atomic.StoreInt64", "sync/atomic.LoadInt64", "sync/atomic.CompareAndSwapInt64"], unfollowed := true, recurses := true, apart := false, narrowed := true }
def FnExactRingClaimUptoSaid : Prop := fnExactRingClaimUptoRow.holds Try.pinned (OpenSpec.upto fnExactRingClaimSpec)

/-- 'laws.FnExactRingFill', WHERE WHAT IT READS IS OF BULK AT MOST 1048576: true; the input reads as it did. -/
def fnExactRingFillUptoRow : OpenClaim := { program := "ytfafeomegoikkaa", sum := "232742763ee197f6b7f8cb873f28c4b1b9a3cbd364cf2448c080389440f3dd09", func := "loop.example/g00759/laws.FnExactRingFill", spec := "fnExactRingFill", inPlace := ["sync/atomic.LoadInt64", "sync/atomic.CompareAndSwapInt64", "sync/atomic.StoreInt64"], unfollowed := true, recurses := true, apart := false, narrowed := true }
def FnExactRingFillUptoSaid : Prop := fnExactRingFillUptoRow.holds Try.pinned (OpenSpec.upto fnExactRingFillSpec)

/-- 'laws.FnExactRingPop', WHERE WHAT IT READS IS OF BULK AT MOST 1048576: true; the input reads as it did. -/
def fnExactRingPopUptoRow : OpenClaim := { program := "ytfafeomegoikkaa", sum := "232742763ee197f6b7f8cb873f28c4b1b9a3cbd364cf2448c080389440f3dd09", func := "loop.example/g00759/laws.FnExactRingPop", spec := "fnExactRingPop", inPlace := ["sync/atomic.StoreInt64", "sync/atomic.LoadInt64", "sync/atomic.CompareAndSwapInt64", "sync/atomic.SwapInt64"], unfollowed := true, recurses := true, apart := false, narrowed := true }
def FnExactRingPopUptoSaid : Prop := fnExactRingPopUptoRow.holds Try.pinned (OpenSpec.upto fnExactRingPopSpec)

/-- 'laws.FnExactRingReady', WHERE WHAT IT READS IS OF BULK AT MOST 1048576: true; the input reads as it did. -/
def fnExactRingReadyUptoRow : OpenClaim := { program := "ytfafeomegoikkaa", sum := "232742763ee197f6b7f8cb873f28c4b1b9a3cbd364cf2448c080389440f3dd09", func := "loop.example/g00759/laws.FnExactRingReady", spec := "fnExactRingReady", apart := false, narrowed := true }
def FnExactRingReadyUptoSaid : Prop := fnExactRingReadyUptoRow.holds Try.pinned (OpenSpec.upto fnExactRingReadySpec)

/-- 'laws.FnExactRingOpen', WHERE WHAT IT READS IS OF BULK AT MOST 1048576: true; the input reads as it did. -/
def fnExactRingOpenUptoRow : OpenClaim := { program := "ytfafeomegoikkaa", sum := "232742763ee197f6b7f8cb873f28c4b1b9a3cbd364cf2448c080389440f3dd09", func := "loop.example/g00759/laws.FnExactRingOpen", spec := "fnExactRingOpen", apart := false, narrowed := true }
def FnExactRingOpenUptoSaid : Prop := fnExactRingOpenUptoRow.holds Try.pinned (OpenSpec.upto fnExactRingOpenSpec)

end Rows
end Go.Proofs.Ytfafeomegoikkaa
