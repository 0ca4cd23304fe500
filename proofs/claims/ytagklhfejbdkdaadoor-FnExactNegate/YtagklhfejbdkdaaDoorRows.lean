/-
  NARROWER THAN 'FOR EVERY INPUT', by the rows' own cells (each row's printed sentence says how): FnExactNormal: ifaces, laid · FnExactNegate: ifaces, laid · FnExactBoth: ifaces, laid · FnExactRename: ifaces, laid.
  DERIVED. THE GIVEN ROWS OF THIS SEAT. 4 by the template 'for every input the law returns true; each argument reads behind the call as it read before'; 0 by the template 'total and deterministic' (their statements: YtagklhfejbdkdaaDoorTotals.lean).
  GIVEN WITH THE SEED: the statements are not yours to turn. If you find one false, say at which input.
  Laid BY PROGRAM, IN A SANDBOX (cutbox-rows.mjs): the forced cells as the released guide's own fill.sh prints them over the translation a866628c58d14547… (all of the seat's roots in one cut). By AI agents, Wed Nov 11 2026. No macro, syntax, notation, axiom, sorry.
-/
import Derived.Test.YtagklhfejbdkdaaDoorChecked
import GoSem.Claim
import GoSem.ClaimJoined
import GoSem.ClaimMapViews
import Derived.JoinedTies
import Derived.KernelRfl
namespace Go.Proofs.YtagklhfejbdkdaaDoor
/- THE CELL 'sum', in the pinned program and in every row, IS THE sha256 OF THE DUMP (.gsa) THAT YtagklhfejbdkdaaDoorProg.lean LOADS. Nothing in Lean hashes anything: it is a label: what it is worth is what the hold of that sum in a sandbox is worth. -/
noncomputable def Tryd.pinned : Pinned := { name := "ytagklhfejbdkdaadoor", sum := "a866628c58d14547cf9f1d9511f069aebab935cad414a6ab28bc47f5ae83389f", checked := Tryd.checked }
namespace Rows
def none {H : Type} : Left H := { results := [], args := [] }

/- WHAT THE LISTED PACKAGE-LEVEL VARIABLES READ AS WHEN THE CALL BEGINS. Each datum BY PROGRAM (the guide's laid-datum.mjs) off the statement by which the dump's own 'gosem.cut.vars' lays the variable. In a bare row this is a premise. The card (YtagklhfejbdkdaaDoorCards.lean) ties it to the program's text. -/
def laid_loop_example_g00759_impl_kindWords {H : Type} : DataW H := .agg [.lit (.string []), .lit (.string [116, 114, 117, 101]), .lit (.string []), .lit (.string [110, 111, 116]), .lit (.string [97, 110, 100]), .lit (.string [111, 114]), .lit (.string [112, 114, 101, 118]), .lit (.string [111, 110, 99, 101]), .lit (.string [104, 105, 115, 116]), .lit (.string [115, 105, 110, 99, 101])]
def laid_loop_example_g00759_impl_errManyNodes {H : Type} : DataW H := .iface "*errors.errorString" (.ptr (.agg [.lit (.string [102, 111, 114, 109, 117, 108, 97, 58, 32, 116, 111, 111, 32, 109, 97, 110, 121, 32, 110, 111, 100, 101, 115])]))

/-- 'laws.FnExactNormal': WHATEVER THE INPUT: true; the input reads as it did. -/
def fnExactNormalSpec : ChangeSpec := { name := "fnExactNormal", vars := ["loop.example/g00759/impl.errManyNodes", "loop.example/g00759/impl.kindWords"], fn := fun _ => fun
  | [d, g1, g2] => { results := [.lit (.bool true)], args := [d], vars := [g1, g2] }
  | _ => none }
def fnExactNormalRow : OpenClaim := { program := "ytagklhfejbdkdaadoor", sum := "a866628c58d14547cf9f1d9511f069aebab935cad414a6ab28bc47f5ae83389f", func := "loop.example/g00759/laws.FnExactNormal", spec := "fnExactNormal", unfollowed := true, recurses := true, named := ["loop.example/g00759/impl.errManyNodes", "loop.example/g00759/impl.kindWords"], ifaces := true, plainKeys := false, apart := false, laid := [("loop.example/g00759/impl.kindWords", laid_loop_example_g00759_impl_kindWords), ("loop.example/g00759/impl.errManyNodes", laid_loop_example_g00759_impl_errManyNodes)] }
def FnExactNormalSaid : Prop := fnExactNormalRow.holds Tryd.pinned (OpenSpec.ofChange fnExactNormalSpec)

/-- ITS FALSE NEIGHBOUR: 'it returns false'. Refute it at one input. -/
def fnExactNormalWrong : ChangeSpec := { name := "fnExactNormal", vars := ["loop.example/g00759/impl.errManyNodes", "loop.example/g00759/impl.kindWords"], fn := fun _ => fun
  | [d, g1, g2] => { results := [.lit (.bool false)], args := [d], vars := [g1, g2] }
  | _ => none }
def FnExactNormalWrongFalsely : Prop := fnExactNormalRow.holds Tryd.pinned (OpenSpec.ofChange fnExactNormalWrong)

/-- 'laws.FnExactNegate': WHATEVER THE INPUT: true; the input reads as it did. -/
def fnExactNegateSpec : ChangeSpec := { name := "fnExactNegate", vars := ["loop.example/g00759/impl.errManyNodes", "loop.example/g00759/impl.kindWords"], fn := fun _ => fun
  | [d, g1, g2] => { results := [.lit (.bool true)], args := [d], vars := [g1, g2] }
  | _ => none }
def fnExactNegateRow : OpenClaim := { program := "ytagklhfejbdkdaadoor", sum := "a866628c58d14547cf9f1d9511f069aebab935cad414a6ab28bc47f5ae83389f", func := "loop.example/g00759/laws.FnExactNegate", spec := "fnExactNegate", unfollowed := true, recurses := true, named := ["loop.example/g00759/impl.errManyNodes", "loop.example/g00759/impl.kindWords"], ifaces := true, plainKeys := false, apart := false, laid := [("loop.example/g00759/impl.kindWords", laid_loop_example_g00759_impl_kindWords), ("loop.example/g00759/impl.errManyNodes", laid_loop_example_g00759_impl_errManyNodes)] }
def FnExactNegateSaid : Prop := fnExactNegateRow.holds Tryd.pinned (OpenSpec.ofChange fnExactNegateSpec)

/-- ITS FALSE NEIGHBOUR: 'it returns false'. Refute it at one input. -/
def fnExactNegateWrong : ChangeSpec := { name := "fnExactNegate", vars := ["loop.example/g00759/impl.errManyNodes", "loop.example/g00759/impl.kindWords"], fn := fun _ => fun
  | [d, g1, g2] => { results := [.lit (.bool false)], args := [d], vars := [g1, g2] }
  | _ => none }
def FnExactNegateWrongFalsely : Prop := fnExactNegateRow.holds Tryd.pinned (OpenSpec.ofChange fnExactNegateWrong)

/-- 'laws.FnExactBoth': WHATEVER THE INPUT: true; the input reads as it did. -/
def fnExactBothSpec : ChangeSpec := { name := "fnExactBoth", vars := ["loop.example/g00759/impl.errManyNodes", "loop.example/g00759/impl.kindWords"], fn := fun _ => fun
  | [d1, d2, g1, g2] => { results := [.lit (.bool true)], args := [d1, d2], vars := [g1, g2] }
  | _ => none }
def fnExactBothRow : OpenClaim := { program := "ytagklhfejbdkdaadoor", sum := "a866628c58d14547cf9f1d9511f069aebab935cad414a6ab28bc47f5ae83389f", func := "loop.example/g00759/laws.FnExactBoth", spec := "fnExactBoth", unfollowed := true, recurses := true, named := ["loop.example/g00759/impl.errManyNodes", "loop.example/g00759/impl.kindWords"], ifaces := true, plainKeys := false, apart := false, laid := [("loop.example/g00759/impl.kindWords", laid_loop_example_g00759_impl_kindWords), ("loop.example/g00759/impl.errManyNodes", laid_loop_example_g00759_impl_errManyNodes)] }
def FnExactBothSaid : Prop := fnExactBothRow.holds Tryd.pinned (OpenSpec.ofChange fnExactBothSpec)

/-- ITS FALSE NEIGHBOUR: 'it returns false'. Refute it at one input. -/
def fnExactBothWrong : ChangeSpec := { name := "fnExactBoth", vars := ["loop.example/g00759/impl.errManyNodes", "loop.example/g00759/impl.kindWords"], fn := fun _ => fun
  | [d1, d2, g1, g2] => { results := [.lit (.bool false)], args := [d1, d2], vars := [g1, g2] }
  | _ => none }
def FnExactBothWrongFalsely : Prop := fnExactBothRow.holds Tryd.pinned (OpenSpec.ofChange fnExactBothWrong)

/-- 'laws.FnExactRename': WHATEVER THE INPUT: true; the input reads as it did. -/
def fnExactRenameSpec : ChangeSpec := { name := "fnExactRename", vars := ["loop.example/g00759/impl.errManyNodes", "loop.example/g00759/impl.kindWords"], fn := fun _ => fun
  | [d1, d2, d3, g1, g2] => { results := [.lit (.bool true)], args := [d1, d2, d3], vars := [g1, g2] }
  | _ => none }
def fnExactRenameRow : OpenClaim := { program := "ytagklhfejbdkdaadoor", sum := "a866628c58d14547cf9f1d9511f069aebab935cad414a6ab28bc47f5ae83389f", func := "loop.example/g00759/laws.FnExactRename", spec := "fnExactRename", unfollowed := true, recurses := true, named := ["loop.example/g00759/impl.errManyNodes", "loop.example/g00759/impl.kindWords"], ifaces := true, plainKeys := false, apart := false, laid := [("loop.example/g00759/impl.kindWords", laid_loop_example_g00759_impl_kindWords), ("loop.example/g00759/impl.errManyNodes", laid_loop_example_g00759_impl_errManyNodes)] }
def FnExactRenameSaid : Prop := fnExactRenameRow.holds Tryd.pinned (OpenSpec.ofChange fnExactRenameSpec)

/-- ITS FALSE NEIGHBOUR: 'it returns false'. Refute it at one input. -/
def fnExactRenameWrong : ChangeSpec := { name := "fnExactRename", vars := ["loop.example/g00759/impl.errManyNodes", "loop.example/g00759/impl.kindWords"], fn := fun _ => fun
  | [d1, d2, d3, g1, g2] => { results := [.lit (.bool false)], args := [d1, d2, d3], vars := [g1, g2] }
  | _ => none }
def FnExactRenameWrongFalsely : Prop := fnExactRenameRow.holds Tryd.pinned (OpenSpec.ofChange fnExactRenameWrong)

/- THE SECOND FORM. 'bulk': how many values and letters a reading holds, each counted each time it is reached (what is shared counts as often as it is met; a slice's spare places count too). A statement '..UptoSaid' is the law's where the arguments, and the package variables that the reading takes, are together of bulk at most 1048576: NARROWER than '..Said'. Prove '..Said' where nothing that the law and all that it calls make is longer than what came in: it says more and counts as full. Else prove '..UptoSaid'. A law counts once. -/
mutual
def uptoBulk {H : Type} : DataW H → Nat
  | .lit (.string bytes) => bytes.length + 1
  | .lit _ => 1
  | .nil => 1
  | .ptr d => uptoBulk d + 1
  | .slice elems spare => uptoBulkAll elems + uptoBulkAll spare + 1
  | .agg parts => uptoBulkAll parts + 1
  | .iface _ d => uptoBulk d + 1
  | .map entries => uptoBulkEntries entries + 1
  | .held _ => 1
def uptoBulkAll {H : Type} : List (DataW H) → Nat
  | [] => 0
  | d :: r => uptoBulk d + uptoBulkAll r
def uptoBulkEntries {H : Type} : List (Lit × DataW H) → Nat
  | [] => 0
  | x :: r => uptoBulkEntry x + uptoBulkEntries r
def uptoBulkEntry {H : Type} : Lit × DataW H → Nat
  | (.string bytes, d) => bytes.length + uptoBulk d + 1
  | (_, d) => uptoBulk d + 1
 end
def uptoSmall : (H : Type) → List (DataW H) → Bool := fun _ ds => decide (uptoBulkAll ds ≤ 1048576)
def OpenSpec.upto (s : _root_.Go.ChangeSpec) : _root_.Go.OpenSpec := { _root_.Go.OpenSpec.ofChange s with cond := some uptoSmall }

/-- 'laws.FnExactNormal', WHERE WHAT IT READS IS OF BULK AT MOST 1048576: true; the input reads as it did. -/
def fnExactNormalUptoRow : OpenClaim := { program := "ytagklhfejbdkdaadoor", sum := "a866628c58d14547cf9f1d9511f069aebab935cad414a6ab28bc47f5ae83389f", func := "loop.example/g00759/laws.FnExactNormal", spec := "fnExactNormal", unfollowed := true, recurses := true, named := ["loop.example/g00759/impl.errManyNodes", "loop.example/g00759/impl.kindWords"], ifaces := true, plainKeys := false, apart := false, laid := [("loop.example/g00759/impl.kindWords", laid_loop_example_g00759_impl_kindWords), ("loop.example/g00759/impl.errManyNodes", laid_loop_example_g00759_impl_errManyNodes)], narrowed := true }
def FnExactNormalUptoSaid : Prop := fnExactNormalUptoRow.holds Tryd.pinned (OpenSpec.upto fnExactNormalSpec)

/-- 'laws.FnExactNegate', WHERE WHAT IT READS IS OF BULK AT MOST 1048576: true; the input reads as it did. -/
def fnExactNegateUptoRow : OpenClaim := { program := "ytagklhfejbdkdaadoor", sum := "a866628c58d14547cf9f1d9511f069aebab935cad414a6ab28bc47f5ae83389f", func := "loop.example/g00759/laws.FnExactNegate", spec := "fnExactNegate", unfollowed := true, recurses := true, named := ["loop.example/g00759/impl.errManyNodes", "loop.example/g00759/impl.kindWords"], ifaces := true, plainKeys := false, apart := false, laid := [("loop.example/g00759/impl.kindWords", laid_loop_example_g00759_impl_kindWords), ("loop.example/g00759/impl.errManyNodes", laid_loop_example_g00759_impl_errManyNodes)], narrowed := true }
def FnExactNegateUptoSaid : Prop := fnExactNegateUptoRow.holds Tryd.pinned (OpenSpec.upto fnExactNegateSpec)

/-- 'laws.FnExactBoth', WHERE WHAT IT READS IS OF BULK AT MOST 1048576: true; the input reads as it did. -/
def fnExactBothUptoRow : OpenClaim := { program := "ytagklhfejbdkdaadoor", sum := "a866628c58d14547cf9f1d9511f069aebab935cad414a6ab28bc47f5ae83389f", func := "loop.example/g00759/laws.FnExactBoth", spec := "fnExactBoth", unfollowed := true, recurses := true, named := ["loop.example/g00759/impl.errManyNodes", "loop.example/g00759/impl.kindWords"], ifaces := true, plainKeys := false, apart := false, laid := [("loop.example/g00759/impl.kindWords", laid_loop_example_g00759_impl_kindWords), ("loop.example/g00759/impl.errManyNodes", laid_loop_example_g00759_impl_errManyNodes)], narrowed := true }
def FnExactBothUptoSaid : Prop := fnExactBothUptoRow.holds Tryd.pinned (OpenSpec.upto fnExactBothSpec)

/-- 'laws.FnExactRename', WHERE WHAT IT READS IS OF BULK AT MOST 1048576: true; the input reads as it did. -/
def fnExactRenameUptoRow : OpenClaim := { program := "ytagklhfejbdkdaadoor", sum := "a866628c58d14547cf9f1d9511f069aebab935cad414a6ab28bc47f5ae83389f", func := "loop.example/g00759/laws.FnExactRename", spec := "fnExactRename", unfollowed := true, recurses := true, named := ["loop.example/g00759/impl.errManyNodes", "loop.example/g00759/impl.kindWords"], ifaces := true, plainKeys := false, apart := false, laid := [("loop.example/g00759/impl.kindWords", laid_loop_example_g00759_impl_kindWords), ("loop.example/g00759/impl.errManyNodes", laid_loop_example_g00759_impl_errManyNodes)], narrowed := true }
def FnExactRenameUptoSaid : Prop := fnExactRenameUptoRow.holds Tryd.pinned (OpenSpec.upto fnExactRenameSpec)

end Rows
end Go.Proofs.YtagklhfejbdkdaaDoor
