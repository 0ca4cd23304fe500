/-
  No cell of these rows narrows 'for every input' (looked for: loops, veiled, ifaces, maps, wideKeys, modest, calm, conditions, laid).
  DERIVED. THE GIVEN ROWS OF THIS SEAT. 6 by the template 'for every input the law returns true; each argument reads behind the call as it read before'; 0 by the template 'total and deterministic' (their statements: YtnddndbmimlknaaTotals.lean).
  GIVEN WITH THE SEED: the statements are not yours to turn. If you find one false, say at which input.
  Laid BY PROGRAM, IN A SANDBOX (cutbox-rows.mjs): the forced cells as the released guide's own fill.sh prints them over the translation 367bab09fc3c12f4… (all of the seat's roots in one cut). By AI agents, Wed Nov 11 2026. No macro, syntax, notation, axiom, sorry.
-/
import Derived.Test.YtnddndbmimlknaaChecked
import GoSem.Claim
import GoSem.ClaimJoined
import GoSem.ClaimMapViews
import Derived.JoinedTies
import Derived.KernelRfl
namespace Go.Proofs.Ytnddndbmimlknaa
/- THE CELL 'sum', in the pinned program and in every row, IS THE sha256 OF THE DUMP (.gsa) THAT YtnddndbmimlknaaProg.lean LOADS. Nothing in Lean hashes anything: it is a label: what it is worth is what the hold of that sum in a sandbox is worth. -/
noncomputable def Try.pinned : Pinned := { name := "ytnddndbmimlknaa", sum := "367bab09fc3c12f49282a89f2bb08f712e9fbf499aed630dd6eece8597609c5c", checked := Try.checked }
namespace Rows
def none {H : Type} : Left H := { results := [], args := [] }

/-- 'laws.FnKeep': WHATEVER THE INPUT: true; the input reads as it did. -/
def fnKeepSpec : ChangeSpec := { name := "fnKeep", fn := fun _ => fun
  | [d1, d2] => { results := [.lit (.bool true)], args := [d1, d2] }
  | _ => none }
def fnKeepRow : OpenClaim := { program := "ytnddndbmimlknaa", sum := "367bab09fc3c12f49282a89f2bb08f712e9fbf499aed630dd6eece8597609c5c", func := "loop.example/g00759/laws.FnKeep", spec := "fnKeep", apart := false }
def FnKeepSaid : Prop := fnKeepRow.holds Try.pinned (OpenSpec.ofChange fnKeepSpec)

/-- ITS FALSE NEIGHBOUR: 'it returns false'. Refute it at one input. -/
def fnKeepWrong : ChangeSpec := { name := "fnKeep", fn := fun _ => fun
  | [d1, d2] => { results := [.lit (.bool false)], args := [d1, d2] }
  | _ => none }
def FnKeepWrongFalsely : Prop := fnKeepRow.holds Try.pinned (OpenSpec.ofChange fnKeepWrong)

/-- 'laws.FnExactKeepRight': WHATEVER THE INPUT: true; the input reads as it did. -/
def fnExactKeepRightSpec : ChangeSpec := { name := "fnExactKeepRight", fn := fun _ => fun
  | [d] => { results := [.lit (.bool true)], args := [d] }
  | _ => none }
def fnExactKeepRightRow : OpenClaim := { program := "ytnddndbmimlknaa", sum := "367bab09fc3c12f49282a89f2bb08f712e9fbf499aed630dd6eece8597609c5c", func := "loop.example/g00759/laws.FnExactKeepRight", spec := "fnExactKeepRight", apart := false }
def FnExactKeepRightSaid : Prop := fnExactKeepRightRow.holds Try.pinned (OpenSpec.ofChange fnExactKeepRightSpec)

/-- ITS FALSE NEIGHBOUR: 'it returns false'. Refute it at one input. -/
def fnExactKeepRightWrong : ChangeSpec := { name := "fnExactKeepRight", fn := fun _ => fun
  | [d] => { results := [.lit (.bool false)], args := [d] }
  | _ => none }
def FnExactKeepRightWrongFalsely : Prop := fnExactKeepRightRow.holds Try.pinned (OpenSpec.ofChange fnExactKeepRightWrong)

/-- 'laws.FnExactKeepPut': WHATEVER THE INPUT: true; the input reads as it did. -/
def fnExactKeepPutSpec : ChangeSpec := { name := "fnExactKeepPut", fn := fun _ => fun
  | [d1, d2] => { results := [.lit (.bool true)], args := [d1, d2] }
  | _ => none }
def fnExactKeepPutRow : OpenClaim := { program := "ytnddndbmimlknaa", sum := "367bab09fc3c12f49282a89f2bb08f712e9fbf499aed630dd6eece8597609c5c", func := "loop.example/g00759/laws.FnExactKeepPut", spec := "fnExactKeepPut", apart := false }
def FnExactKeepPutSaid : Prop := fnExactKeepPutRow.holds Try.pinned (OpenSpec.ofChange fnExactKeepPutSpec)

/-- ITS FALSE NEIGHBOUR: 'it returns false'. Refute it at one input. -/
def fnExactKeepPutWrong : ChangeSpec := { name := "fnExactKeepPut", fn := fun _ => fun
  | [d1, d2] => { results := [.lit (.bool false)], args := [d1, d2] }
  | _ => none }
def FnExactKeepPutWrongFalsely : Prop := fnExactKeepPutRow.holds Try.pinned (OpenSpec.ofChange fnExactKeepPutWrong)

/-- 'laws.FnExactKeepDrop': WHATEVER THE INPUT: true; the input reads as it did. -/
def fnExactKeepDropSpec : ChangeSpec := { name := "fnExactKeepDrop", fn := fun _ => fun
  | [d1, d2] => { results := [.lit (.bool true)], args := [d1, d2] }
  | _ => none }
def fnExactKeepDropRow : OpenClaim := { program := "ytnddndbmimlknaa", sum := "367bab09fc3c12f49282a89f2bb08f712e9fbf499aed630dd6eece8597609c5c", func := "loop.example/g00759/laws.FnExactKeepDrop", spec := "fnExactKeepDrop", apart := false }
def FnExactKeepDropSaid : Prop := fnExactKeepDropRow.holds Try.pinned (OpenSpec.ofChange fnExactKeepDropSpec)

/-- ITS FALSE NEIGHBOUR: 'it returns false'. Refute it at one input. -/
def fnExactKeepDropWrong : ChangeSpec := { name := "fnExactKeepDrop", fn := fun _ => fun
  | [d1, d2] => { results := [.lit (.bool false)], args := [d1, d2] }
  | _ => none }
def FnExactKeepDropWrongFalsely : Prop := fnExactKeepDropRow.holds Try.pinned (OpenSpec.ofChange fnExactKeepDropWrong)

/-- 'laws.FnExactKeepAsk': WHATEVER THE INPUT: true; the input reads as it did. -/
def fnExactKeepAskSpec : ChangeSpec := { name := "fnExactKeepAsk", fn := fun _ => fun
  | [d1, d2] => { results := [.lit (.bool true)], args := [d1, d2] }
  | _ => none }
def fnExactKeepAskRow : OpenClaim := { program := "ytnddndbmimlknaa", sum := "367bab09fc3c12f49282a89f2bb08f712e9fbf499aed630dd6eece8597609c5c", func := "loop.example/g00759/laws.FnExactKeepAsk", spec := "fnExactKeepAsk", apart := false }
def FnExactKeepAskSaid : Prop := fnExactKeepAskRow.holds Try.pinned (OpenSpec.ofChange fnExactKeepAskSpec)

/-- ITS FALSE NEIGHBOUR: 'it returns false'. Refute it at one input. -/
def fnExactKeepAskWrong : ChangeSpec := { name := "fnExactKeepAsk", fn := fun _ => fun
  | [d1, d2] => { results := [.lit (.bool false)], args := [d1, d2] }
  | _ => none }
def FnExactKeepAskWrongFalsely : Prop := fnExactKeepAskRow.holds Try.pinned (OpenSpec.ofChange fnExactKeepAskWrong)

/-- 'laws.FnExactKeepMost': WHATEVER THE INPUT: true; the input reads as it did. -/
def fnExactKeepMostSpec : ChangeSpec := { name := "fnExactKeepMost", fn := fun _ => fun
  | [d] => { results := [.lit (.bool true)], args := [d] }
  | _ => none }
def fnExactKeepMostRow : OpenClaim := { program := "ytnddndbmimlknaa", sum := "367bab09fc3c12f49282a89f2bb08f712e9fbf499aed630dd6eece8597609c5c", func := "loop.example/g00759/laws.FnExactKeepMost", spec := "fnExactKeepMost", apart := false }
def FnExactKeepMostSaid : Prop := fnExactKeepMostRow.holds Try.pinned (OpenSpec.ofChange fnExactKeepMostSpec)

/-- ITS FALSE NEIGHBOUR: 'it returns false'. Refute it at one input. -/
def fnExactKeepMostWrong : ChangeSpec := { name := "fnExactKeepMost", fn := fun _ => fun
  | [d] => { results := [.lit (.bool false)], args := [d] }
  | _ => none }
def FnExactKeepMostWrongFalsely : Prop := fnExactKeepMostRow.holds Try.pinned (OpenSpec.ofChange fnExactKeepMostWrong)

/- THE SECOND FORM. 'bulk': how many values and letters a reading holds, each counted each time it is reached (what is shared counts as often as it is met; a slice's spare places count too). A statement '..UptoSaid' is the law's where the arguments, and the package variables that the reading takes, are together of bulk at most 1048576: NARROWER than '..Said'. Prove '..Said' where nothing that the law and all that it calls make is longer than what came in: it says more and counts as full. Else prove '..UptoSaid'. A law counts once. -/
mutual
def uptoBulk {H : Type} : DataW H → Nat
  | .lit (.string bytes) => bytes.length + 1
  | .lit _ => 1
  | .nil => 1
  | .ptr d => uptoBulk d + 1
  | .slice elems spare => uptoBulkAll elems + uptoBulkAll spare + 1
  | .agg parts => uptoBulkAll parts + 1
  | .iface _ d => uptoBulk d + 1
  | .map entries => uptoBulkEntries entries + 1
  | .held _ => 1
def uptoBulkAll {H : Type} : List (DataW H) → Nat
  | [] => 0
  | d :: r => uptoBulk d + uptoBulkAll r
def uptoBulkEntries {H : Type} : List (Lit × DataW H) → Nat
  | [] => 0
  | x :: r => uptoBulkEntry x + uptoBulkEntries r
def uptoBulkEntry {H : Type} : Lit × DataW H → Nat
  | (.string bytes, d) => bytes.length + uptoBulk d + 1
  | (_, d) => uptoBulk d + 1
 end
def uptoSmall : (H : Type) → List (DataW H) → Bool := fun _ ds => decide (uptoBulkAll ds ≤ 1048576)
def OpenSpec.upto (s : _root_.Go.ChangeSpec) : _root_.Go.OpenSpec := { _root_.Go.OpenSpec.ofChange s with cond := some uptoSmall }

/-- 'laws.FnKeep', WHERE WHAT IT READS IS OF BULK AT MOST 1048576: true; the input reads as it did. -/
def fnKeepUptoRow : OpenClaim := { program := "ytnddndbmimlknaa", sum := "367bab09fc3c12f49282a89f2bb08f712e9fbf499aed630dd6eece8597609c5c", func := "loop.example/g00759/laws.FnKeep", spec := "fnKeep", apart := false, narrowed := true }
def FnKeepUptoSaid : Prop := fnKeepUptoRow.holds Try.pinned (OpenSpec.upto fnKeepSpec)

/-- 'laws.FnExactKeepRight', WHERE WHAT IT READS IS OF BULK AT MOST 1048576: true; the input reads as it did. -/
def fnExactKeepRightUptoRow : OpenClaim := { program := "ytnddndbmimlknaa", sum := "367bab09fc3c12f49282a89f2bb08f712e9fbf499aed630dd6eece8597609c5c", func := "loop.example/g00759/laws.FnExactKeepRight", spec := "fnExactKeepRight", apart := false, narrowed := true }
def FnExactKeepRightUptoSaid : Prop := fnExactKeepRightUptoRow.holds Try.pinned (OpenSpec.upto fnExactKeepRightSpec)

/-- 'laws.FnExactKeepPut', WHERE WHAT IT READS IS OF BULK AT MOST 1048576: true; the input reads as it did. -/
def fnExactKeepPutUptoRow : OpenClaim := { program := "ytnddndbmimlknaa", sum := "367bab09fc3c12f49282a89f2bb08f712e9fbf499aed630dd6eece8597609c5c", func := "loop.example/g00759/laws.FnExactKeepPut", spec := "fnExactKeepPut", apart := false, narrowed := true }
def FnExactKeepPutUptoSaid : Prop := fnExactKeepPutUptoRow.holds Try.pinned (OpenSpec.upto fnExactKeepPutSpec)

/-- 'laws.FnExactKeepDrop', WHERE WHAT IT READS IS OF BULK AT MOST 1048576: true; the input reads as it did. -/
def fnExactKeepDropUptoRow : OpenClaim := { program := "ytnddndbmimlknaa", sum := "367bab09fc3c12f49282a89f2bb08f712e9fbf499aed630dd6eece8597609c5c", func := "loop.example/g00759/laws.FnExactKeepDrop", spec := "fnExactKeepDrop", apart := false, narrowed := true }
def FnExactKeepDropUptoSaid : Prop := fnExactKeepDropUptoRow.holds Try.pinned (OpenSpec.upto fnExactKeepDropSpec)

/-- 'laws.FnExactKeepAsk', WHERE WHAT IT READS IS OF BULK AT MOST 1048576: true; the input reads as it did. -/
def fnExactKeepAskUptoRow : OpenClaim := { program := "ytnddndbmimlknaa", sum := "367bab09fc3c12f49282a89f2bb08f712e9fbf499aed630dd6eece8597609c5c", func := "loop.example/g00759/laws.FnExactKeepAsk", spec := "fnExactKeepAsk", apart := false, narrowed := true }
def FnExactKeepAskUptoSaid : Prop := fnExactKeepAskUptoRow.holds Try.pinned (OpenSpec.upto fnExactKeepAskSpec)

/-- 'laws.FnExactKeepMost', WHERE WHAT IT READS IS OF BULK AT MOST 1048576: true; the input reads as it did. -/
def fnExactKeepMostUptoRow : OpenClaim := { program := "ytnddndbmimlknaa", sum := "367bab09fc3c12f49282a89f2bb08f712e9fbf499aed630dd6eece8597609c5c", func := "loop.example/g00759/laws.FnExactKeepMost", spec := "fnExactKeepMost", apart := false, narrowed := true }
def FnExactKeepMostUptoSaid : Prop := fnExactKeepMostUptoRow.holds Try.pinned (OpenSpec.upto fnExactKeepMostSpec)

end Rows
end Go.Proofs.Ytnddndbmimlknaa
