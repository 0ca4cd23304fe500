/-
  NARROWER THAN 'FOR EVERY INPUT', by the rows' own cells (each row's printed sentence says how): FnExactFormulaText: ifaces, laid · FnExactAtomsOf: ifaces, laid · FnExactEventRight: laid · FnExactEventHas: laid · FnExactEventText: laid · FnExactEventRead: laid · FnExactTraceRight: laid · FnExactClamp: laid · FnExactHolds: ifaces, laid · FnExactHoldsAt: ifaces, laid · FnExactVerdicts: ifaces, laid.
  DERIVED. THE GIVEN ROWS OF THIS SEAT. 11 by the template 'for every input the law returns true; each argument reads behind the call as it read before'; 0 by the template 'total and deterministic' (their statements: YthjnlcjjhklfpaaDoorTotals.lean).
  GIVEN WITH THE SEED: the statements are not yours to turn. If you find one false, say at which input.
  Laid BY PROGRAM, IN A SANDBOX (cutbox-rows.mjs): the forced cells as the released guide's own fill.sh prints them over the translation ae40ce1b39d96b4e… (all of the seat's roots in one cut). By AI agents, Wed Nov 11 2026. No macro, syntax, notation, axiom, sorry.
-/
import Derived.Test.YthjnlcjjhklfpaaDoorChecked
import GoSem.Claim
import GoSem.ClaimJoined
import GoSem.ClaimMapViews
import Derived.JoinedTies
import Derived.KernelRfl
namespace Go.Proofs.YthjnlcjjhklfpaaDoor
/- THE CELL 'sum', in the pinned program and in every row, IS THE sha256 OF THE DUMP (.gsa) THAT YthjnlcjjhklfpaaDoorProg.lean LOADS. Nothing in Lean hashes anything: it is a label: what it is worth is what the hold of that sum in a sandbox is worth. -/
noncomputable def Tryd.pinned : Pinned := { name := "ythjnlcjjhklfpaadoor", sum := "ae40ce1b39d96b4eeb72b18f7e9d5dae951b929815e8ae490bce62cb3a903f70", checked := Tryd.checked }
namespace Rows
def none {H : Type} : Left H := { results := [], args := [] }

/- WHAT THE LISTED PACKAGE-LEVEL VARIABLES READ AS WHEN THE CALL BEGINS. Each datum BY PROGRAM (the guide's laid-datum.mjs) off the statement by which the dump's own 'gosem.cut.vars' lays the variable. In a bare row this is a premise. The card (YthjnlcjjhklfpaaDoorCards.lean) ties it to the program's text. -/
def laid_math_bits_deBruijn32tab {H : Type} : DataW H := .agg [.lit (.int .u8 0), .lit (.int .u8 1), .lit (.int .u8 28), .lit (.int .u8 2), .lit (.int .u8 29), .lit (.int .u8 14), .lit (.int .u8 24), .lit (.int .u8 3), .lit (.int .u8 30), .lit (.int .u8 22), .lit (.int .u8 20), .lit (.int .u8 15), .lit (.int .u8 25), .lit (.int .u8 17), .lit (.int .u8 4), .lit (.int .u8 8), .lit (.int .u8 31), .lit (.int .u8 27), .lit (.int .u8 13), .lit (.int .u8 23), .lit (.int .u8 21), .lit (.int .u8 19), .lit (.int .u8 16), .lit (.int .u8 7), .lit (.int .u8 26), .lit (.int .u8 12), .lit (.int .u8 18), .lit (.int .u8 6), .lit (.int .u8 11), .lit (.int .u8 5), .lit (.int .u8 10), .lit (.int .u8 9)]
def laid_math_bits_deBruijn64tab {H : Type} : DataW H := .agg [.lit (.int .u8 0), .lit (.int .u8 1), .lit (.int .u8 56), .lit (.int .u8 2), .lit (.int .u8 57), .lit (.int .u8 49), .lit (.int .u8 28), .lit (.int .u8 3), .lit (.int .u8 61), .lit (.int .u8 58), .lit (.int .u8 42), .lit (.int .u8 50), .lit (.int .u8 38), .lit (.int .u8 29), .lit (.int .u8 17), .lit (.int .u8 4), .lit (.int .u8 62), .lit (.int .u8 47), .lit (.int .u8 59), .lit (.int .u8 36), .lit (.int .u8 45), .lit (.int .u8 43), .lit (.int .u8 51), .lit (.int .u8 22), .lit (.int .u8 53), .lit (.int .u8 39), .lit (.int .u8 33), .lit (.int .u8 30), .lit (.int .u8 24), .lit (.int .u8 18), .lit (.int .u8 12), .lit (.int .u8 5), .lit (.int .u8 63), .lit (.int .u8 55), .lit (.int .u8 48), .lit (.int .u8 27), .lit (.int .u8 60), .lit (.int .u8 41), .lit (.int .u8 37), .lit (.int .u8 16), .lit (.int .u8 46), .lit (.int .u8 35), .lit (.int .u8 44), .lit (.int .u8 21), .lit (.int .u8 52), .lit (.int .u8 32), .lit (.int .u8 23), .lit (.int .u8 11), .lit (.int .u8 54), .lit (.int .u8 26), .lit (.int .u8 40), .lit (.int .u8 15), .lit (.int .u8 34), .lit (.int .u8 20), .lit (.int .u8 31), .lit (.int .u8 10), .lit (.int .u8 25), .lit (.int .u8 14), .lit (.int .u8 19), .lit (.int .u8 9), .lit (.int .u8 13), .lit (.int .u8 8), .lit (.int .u8 7), .lit (.int .u8 6)]
def laid_internal_strconv_uint64pow10 {H : Type} : DataW H := .agg [.lit (.int .u64 1), .lit (.int .u64 10), .lit (.int .u64 100), .lit (.int .u64 1000), .lit (.int .u64 10000), .lit (.int .u64 100000), .lit (.int .u64 1000000), .lit (.int .u64 10000000), .lit (.int .u64 100000000), .lit (.int .u64 1000000000), .lit (.int .u64 10000000000), .lit (.int .u64 100000000000), .lit (.int .u64 1000000000000), .lit (.int .u64 10000000000000), .lit (.int .u64 100000000000000), .lit (.int .u64 1000000000000000), .lit (.int .u64 10000000000000000), .lit (.int .u64 100000000000000000), .lit (.int .u64 1000000000000000000), .lit (.int .u64 10000000000000000000)]
def laid_loop_example_g00759_impl_kindWords {H : Type} : DataW H := .agg [.lit (.string []), .lit (.string [116, 114, 117, 101]), .lit (.string []), .lit (.string [110, 111, 116]), .lit (.string [97, 110, 100]), .lit (.string [111, 114]), .lit (.string [112, 114, 101, 118]), .lit (.string [111, 110, 99, 101]), .lit (.string [104, 105, 115, 116]), .lit (.string [115, 105, 110, 99, 101])]
def laid_loop_example_g00759_impl_errManyNodes {H : Type} : DataW H := .iface "*errors.errorString" (.ptr (.agg [.lit (.string [102, 111, 114, 109, 117, 108, 97, 58, 32, 116, 111, 111, 32, 109, 97, 110, 121, 32, 110, 111, 100, 101, 115])]))
def laid_strconv_ErrRange {H : Type} : DataW H := .iface "*errors.errorString" (.ptr (.agg [.lit (.string [118, 97, 108, 117, 101, 32, 111, 117, 116, 32, 111, 102, 32, 114, 97, 110, 103, 101])]))
def laid_strconv_ErrSyntax {H : Type} : DataW H := .iface "*errors.errorString" (.ptr (.agg [.lit (.string [105, 110, 118, 97, 108, 105, 100, 32, 115, 121, 110, 116, 97, 120])]))

/-- 'laws.FnExactFormulaText': WHATEVER THE INPUT: true; the input reads as it did. -/
def fnExactFormulaTextSpec : ChangeSpec := { name := "fnExactFormulaText", vars := ["loop.example/g00759/impl.errManyNodes", "loop.example/g00759/impl.kindWords"], fn := fun _ => fun
  | [d, g1, g2] => { results := [.lit (.bool true)], args := [d], vars := [g1, g2] }
  | _ => none }
def fnExactFormulaTextRow : OpenClaim := { program := "ythjnlcjjhklfpaadoor", sum := "ae40ce1b39d96b4eeb72b18f7e9d5dae951b929815e8ae490bce62cb3a903f70", func := "loop.example/g00759/laws.FnExactFormulaText", spec := "fnExactFormulaText", inPlace := ["slices.overlaps[string]", "internal/abi.NoEscape", "internal/bytealg.MakeNoZero"], unfollowed := true, recurses := true, named := ["loop.example/g00759/impl.errManyNodes", "loop.example/g00759/impl.kindWords", "internal/strconv.uint64pow10", "math/bits.deBruijn32tab", "math/bits.deBruijn64tab"], ifaces := true, plainKeys := false, apart := false, laid := [("math/bits.deBruijn32tab", laid_math_bits_deBruijn32tab), ("math/bits.deBruijn64tab", laid_math_bits_deBruijn64tab), ("internal/strconv.uint64pow10", laid_internal_strconv_uint64pow10), ("loop.example/g00759/impl.kindWords", laid_loop_example_g00759_impl_kindWords), ("loop.example/g00759/impl.errManyNodes", laid_loop_example_g00759_impl_errManyNodes)] }
def FnExactFormulaTextSaid : Prop := fnExactFormulaTextRow.holds Tryd.pinned (OpenSpec.ofChange fnExactFormulaTextSpec)

/-- ITS FALSE NEIGHBOUR: 'it returns false'. Refute it at one input. -/
def fnExactFormulaTextWrong : ChangeSpec := { name := "fnExactFormulaText", vars := ["loop.example/g00759/impl.errManyNodes", "loop.example/g00759/impl.kindWords"], fn := fun _ => fun
  | [d, g1, g2] => { results := [.lit (.bool false)], args := [d], vars := [g1, g2] }
  | _ => none }
def FnExactFormulaTextWrongFalsely : Prop := fnExactFormulaTextRow.holds Tryd.pinned (OpenSpec.ofChange fnExactFormulaTextWrong)

/-- 'laws.FnExactAtomsOf': WHATEVER THE INPUT: true; the input reads as it did. -/
def fnExactAtomsOfSpec : ChangeSpec := { name := "fnExactAtomsOf", vars := ["loop.example/g00759/impl.errManyNodes", "loop.example/g00759/impl.kindWords"], fn := fun _ => fun
  | [d, g1, g2] => { results := [.lit (.bool true)], args := [d], vars := [g1, g2] }
  | _ => none }
def fnExactAtomsOfRow : OpenClaim := { program := "ythjnlcjjhklfpaadoor", sum := "ae40ce1b39d96b4eeb72b18f7e9d5dae951b929815e8ae490bce62cb3a903f70", func := "loop.example/g00759/laws.FnExactAtomsOf", spec := "fnExactAtomsOf", unfollowed := true, recurses := true, named := ["loop.example/g00759/impl.errManyNodes", "loop.example/g00759/impl.kindWords"], ifaces := true, plainKeys := false, apart := false, laid := [("loop.example/g00759/impl.kindWords", laid_loop_example_g00759_impl_kindWords), ("loop.example/g00759/impl.errManyNodes", laid_loop_example_g00759_impl_errManyNodes)] }
def FnExactAtomsOfSaid : Prop := fnExactAtomsOfRow.holds Tryd.pinned (OpenSpec.ofChange fnExactAtomsOfSpec)

/-- ITS FALSE NEIGHBOUR: 'it returns false'. Refute it at one input. -/
def fnExactAtomsOfWrong : ChangeSpec := { name := "fnExactAtomsOf", vars := ["loop.example/g00759/impl.errManyNodes", "loop.example/g00759/impl.kindWords"], fn := fun _ => fun
  | [d, g1, g2] => { results := [.lit (.bool false)], args := [d], vars := [g1, g2] }
  | _ => none }
def FnExactAtomsOfWrongFalsely : Prop := fnExactAtomsOfRow.holds Tryd.pinned (OpenSpec.ofChange fnExactAtomsOfWrong)

/-- 'laws.FnExactEventRight': WHATEVER THE INPUT: true; the input reads as it did. -/
def fnExactEventRightSpec : ChangeSpec := { name := "fnExactEventRight", vars := ["loop.example/g00759/impl.kindWords"], fn := fun _ => fun
  | [d, g1] => { results := [.lit (.bool true)], args := [d], vars := [g1] }
  | _ => none }
def fnExactEventRightRow : OpenClaim := { program := "ythjnlcjjhklfpaadoor", sum := "ae40ce1b39d96b4eeb72b18f7e9d5dae951b929815e8ae490bce62cb3a903f70", func := "loop.example/g00759/laws.FnExactEventRight", spec := "fnExactEventRight", named := ["loop.example/g00759/impl.kindWords"], plainKeys := false, apart := false, laid := [("loop.example/g00759/impl.kindWords", laid_loop_example_g00759_impl_kindWords)] }
def FnExactEventRightSaid : Prop := fnExactEventRightRow.holds Tryd.pinned (OpenSpec.ofChange fnExactEventRightSpec)

/-- ITS FALSE NEIGHBOUR: 'it returns false'. Refute it at one input. -/
def fnExactEventRightWrong : ChangeSpec := { name := "fnExactEventRight", vars := ["loop.example/g00759/impl.kindWords"], fn := fun _ => fun
  | [d, g1] => { results := [.lit (.bool false)], args := [d], vars := [g1] }
  | _ => none }
def FnExactEventRightWrongFalsely : Prop := fnExactEventRightRow.holds Tryd.pinned (OpenSpec.ofChange fnExactEventRightWrong)

/-- 'laws.FnExactEventHas': WHATEVER THE INPUT: true; the input reads as it did. -/
def fnExactEventHasSpec : ChangeSpec := { name := "fnExactEventHas", vars := ["loop.example/g00759/impl.kindWords"], fn := fun _ => fun
  | [d1, d2, g1] => { results := [.lit (.bool true)], args := [d1, d2], vars := [g1] }
  | _ => none }
def fnExactEventHasRow : OpenClaim := { program := "ythjnlcjjhklfpaadoor", sum := "ae40ce1b39d96b4eeb72b18f7e9d5dae951b929815e8ae490bce62cb3a903f70", func := "loop.example/g00759/laws.FnExactEventHas", spec := "fnExactEventHas", named := ["loop.example/g00759/impl.kindWords"], plainKeys := false, apart := false, laid := [("loop.example/g00759/impl.kindWords", laid_loop_example_g00759_impl_kindWords)] }
def FnExactEventHasSaid : Prop := fnExactEventHasRow.holds Tryd.pinned (OpenSpec.ofChange fnExactEventHasSpec)

/-- ITS FALSE NEIGHBOUR: 'it returns false'. Refute it at one input. -/
def fnExactEventHasWrong : ChangeSpec := { name := "fnExactEventHas", vars := ["loop.example/g00759/impl.kindWords"], fn := fun _ => fun
  | [d1, d2, g1] => { results := [.lit (.bool false)], args := [d1, d2], vars := [g1] }
  | _ => none }
def FnExactEventHasWrongFalsely : Prop := fnExactEventHasRow.holds Tryd.pinned (OpenSpec.ofChange fnExactEventHasWrong)

/-- 'laws.FnExactEventText': WHATEVER THE INPUT: true; the input reads as it did. -/
def fnExactEventTextSpec : ChangeSpec := { name := "fnExactEventText", vars := ["loop.example/g00759/impl.kindWords"], fn := fun _ => fun
  | [d, g1] => { results := [.lit (.bool true)], args := [d], vars := [g1] }
  | _ => none }
def fnExactEventTextRow : OpenClaim := { program := "ythjnlcjjhklfpaadoor", sum := "ae40ce1b39d96b4eeb72b18f7e9d5dae951b929815e8ae490bce62cb3a903f70", func := "loop.example/g00759/laws.FnExactEventText", spec := "fnExactEventText", inPlace := ["internal/abi.NoEscape", "internal/bytealg.MakeNoZero"], named := ["loop.example/g00759/impl.kindWords", "internal/strconv.uint64pow10", "math/bits.deBruijn32tab", "math/bits.deBruijn64tab"], plainKeys := false, apart := false, laid := [("math/bits.deBruijn32tab", laid_math_bits_deBruijn32tab), ("math/bits.deBruijn64tab", laid_math_bits_deBruijn64tab), ("internal/strconv.uint64pow10", laid_internal_strconv_uint64pow10), ("loop.example/g00759/impl.kindWords", laid_loop_example_g00759_impl_kindWords)] }
def FnExactEventTextSaid : Prop := fnExactEventTextRow.holds Tryd.pinned (OpenSpec.ofChange fnExactEventTextSpec)

/-- ITS FALSE NEIGHBOUR: 'it returns false'. Refute it at one input. -/
def fnExactEventTextWrong : ChangeSpec := { name := "fnExactEventText", vars := ["loop.example/g00759/impl.kindWords"], fn := fun _ => fun
  | [d, g1] => { results := [.lit (.bool false)], args := [d], vars := [g1] }
  | _ => none }
def FnExactEventTextWrongFalsely : Prop := fnExactEventTextRow.holds Tryd.pinned (OpenSpec.ofChange fnExactEventTextWrong)

/-- 'laws.FnExactEventRead': WHATEVER THE INPUT: true; the input reads as it did. -/
def fnExactEventReadSpec : ChangeSpec := { name := "fnExactEventRead", vars := ["loop.example/g00759/impl.kindWords"], fn := fun _ => fun
  | [d, g1] => { results := [.lit (.bool true)], args := [d], vars := [g1] }
  | _ => none }
def fnExactEventReadRow : OpenClaim := { program := "ythjnlcjjhklfpaadoor", sum := "ae40ce1b39d96b4eeb72b18f7e9d5dae951b929815e8ae490bce62cb3a903f70", func := "loop.example/g00759/laws.FnExactEventRead", spec := "fnExactEventRead", inPlace := ["internal/bytealg.IndexByteString", "internal/bytealg.IndexString", "internal/abi.NoEscape", "internal/bytealg.MakeNoZero"], unfollowed := true, recurses := true, named := ["internal/bytealg.MaxLen", "strconv.ErrSyntax", "strconv.ErrRange", "internal/strconv.uint64pow10", "math/bits.deBruijn32tab", "math/bits.deBruijn64tab", "loop.example/g00759/impl.kindWords"], plainKeys := false, apart := false, laid := [("math/bits.deBruijn32tab", laid_math_bits_deBruijn32tab), ("math/bits.deBruijn64tab", laid_math_bits_deBruijn64tab), ("internal/strconv.uint64pow10", laid_internal_strconv_uint64pow10), ("strconv.ErrRange", laid_strconv_ErrRange), ("strconv.ErrSyntax", laid_strconv_ErrSyntax), ("loop.example/g00759/impl.kindWords", laid_loop_example_g00759_impl_kindWords)] }
def FnExactEventReadSaid : Prop := fnExactEventReadRow.holds Tryd.pinned (OpenSpec.ofChange fnExactEventReadSpec)

/-- ITS FALSE NEIGHBOUR: 'it returns false'. Refute it at one input. -/
def fnExactEventReadWrong : ChangeSpec := { name := "fnExactEventRead", vars := ["loop.example/g00759/impl.kindWords"], fn := fun _ => fun
  | [d, g1] => { results := [.lit (.bool false)], args := [d], vars := [g1] }
  | _ => none }
def FnExactEventReadWrongFalsely : Prop := fnExactEventReadRow.holds Tryd.pinned (OpenSpec.ofChange fnExactEventReadWrong)

/-- 'laws.FnExactTraceRight': WHATEVER THE INPUT: true; the input reads as it did. -/
def fnExactTraceRightSpec : ChangeSpec := { name := "fnExactTraceRight", vars := ["loop.example/g00759/impl.kindWords"], fn := fun _ => fun
  | [d, g1] => { results := [.lit (.bool true)], args := [d], vars := [g1] }
  | _ => none }
def fnExactTraceRightRow : OpenClaim := { program := "ythjnlcjjhklfpaadoor", sum := "ae40ce1b39d96b4eeb72b18f7e9d5dae951b929815e8ae490bce62cb3a903f70", func := "loop.example/g00759/laws.FnExactTraceRight", spec := "fnExactTraceRight", named := ["loop.example/g00759/impl.kindWords"], plainKeys := false, apart := false, laid := [("loop.example/g00759/impl.kindWords", laid_loop_example_g00759_impl_kindWords)] }
def FnExactTraceRightSaid : Prop := fnExactTraceRightRow.holds Tryd.pinned (OpenSpec.ofChange fnExactTraceRightSpec)

/-- ITS FALSE NEIGHBOUR: 'it returns false'. Refute it at one input. -/
def fnExactTraceRightWrong : ChangeSpec := { name := "fnExactTraceRight", vars := ["loop.example/g00759/impl.kindWords"], fn := fun _ => fun
  | [d, g1] => { results := [.lit (.bool false)], args := [d], vars := [g1] }
  | _ => none }
def FnExactTraceRightWrongFalsely : Prop := fnExactTraceRightRow.holds Tryd.pinned (OpenSpec.ofChange fnExactTraceRightWrong)

/-- 'laws.FnExactClamp': WHATEVER THE INPUT: true; the input reads as it did. -/
def fnExactClampSpec : ChangeSpec := { name := "fnExactClamp", vars := ["loop.example/g00759/impl.kindWords"], fn := fun _ => fun
  | [d, g1] => { results := [.lit (.bool true)], args := [d], vars := [g1] }
  | _ => none }
def fnExactClampRow : OpenClaim := { program := "ythjnlcjjhklfpaadoor", sum := "ae40ce1b39d96b4eeb72b18f7e9d5dae951b929815e8ae490bce62cb3a903f70", func := "loop.example/g00759/laws.FnExactClamp", spec := "fnExactClamp", named := ["loop.example/g00759/impl.kindWords"], plainKeys := false, apart := false, laid := [("loop.example/g00759/impl.kindWords", laid_loop_example_g00759_impl_kindWords)] }
def FnExactClampSaid : Prop := fnExactClampRow.holds Tryd.pinned (OpenSpec.ofChange fnExactClampSpec)

/-- ITS FALSE NEIGHBOUR: 'it returns false'. Refute it at one input. -/
def fnExactClampWrong : ChangeSpec := { name := "fnExactClamp", vars := ["loop.example/g00759/impl.kindWords"], fn := fun _ => fun
  | [d, g1] => { results := [.lit (.bool false)], args := [d], vars := [g1] }
  | _ => none }
def FnExactClampWrongFalsely : Prop := fnExactClampRow.holds Tryd.pinned (OpenSpec.ofChange fnExactClampWrong)

/-- 'laws.FnExactHolds': WHATEVER THE INPUT: true; the input reads as it did. -/
def fnExactHoldsSpec : ChangeSpec := { name := "fnExactHolds", vars := ["loop.example/g00759/impl.errManyNodes", "loop.example/g00759/impl.kindWords"], fn := fun _ => fun
  | [d1, d2, d3, g1, g2] => { results := [.lit (.bool true)], args := [d1, d2, d3], vars := [g1, g2] }
  | _ => none }
def fnExactHoldsRow : OpenClaim := { program := "ythjnlcjjhklfpaadoor", sum := "ae40ce1b39d96b4eeb72b18f7e9d5dae951b929815e8ae490bce62cb3a903f70", func := "loop.example/g00759/laws.FnExactHolds", spec := "fnExactHolds", unfollowed := true, recurses := true, named := ["loop.example/g00759/impl.errManyNodes", "loop.example/g00759/impl.kindWords"], ifaces := true, plainKeys := false, apart := false, laid := [("loop.example/g00759/impl.kindWords", laid_loop_example_g00759_impl_kindWords), ("loop.example/g00759/impl.errManyNodes", laid_loop_example_g00759_impl_errManyNodes)] }
def FnExactHoldsSaid : Prop := fnExactHoldsRow.holds Tryd.pinned (OpenSpec.ofChange fnExactHoldsSpec)

/-- ITS FALSE NEIGHBOUR: 'it returns false'. Refute it at one input. -/
def fnExactHoldsWrong : ChangeSpec := { name := "fnExactHolds", vars := ["loop.example/g00759/impl.errManyNodes", "loop.example/g00759/impl.kindWords"], fn := fun _ => fun
  | [d1, d2, d3, g1, g2] => { results := [.lit (.bool false)], args := [d1, d2, d3], vars := [g1, g2] }
  | _ => none }
def FnExactHoldsWrongFalsely : Prop := fnExactHoldsRow.holds Tryd.pinned (OpenSpec.ofChange fnExactHoldsWrong)

/-- 'laws.FnExactHoldsAt': WHATEVER THE INPUT: true; the input reads as it did. -/
def fnExactHoldsAtSpec : ChangeSpec := { name := "fnExactHoldsAt", vars := ["loop.example/g00759/impl.errManyNodes", "loop.example/g00759/impl.kindWords"], fn := fun _ => fun
  | [d1, d2, d3, d4, g1, g2] => { results := [.lit (.bool true)], args := [d1, d2, d3, d4], vars := [g1, g2] }
  | _ => none }
def fnExactHoldsAtRow : OpenClaim := { program := "ythjnlcjjhklfpaadoor", sum := "ae40ce1b39d96b4eeb72b18f7e9d5dae951b929815e8ae490bce62cb3a903f70", func := "loop.example/g00759/laws.FnExactHoldsAt", spec := "fnExactHoldsAt", unfollowed := true, recurses := true, named := ["loop.example/g00759/impl.errManyNodes", "loop.example/g00759/impl.kindWords"], ifaces := true, plainKeys := false, apart := false, laid := [("loop.example/g00759/impl.kindWords", laid_loop_example_g00759_impl_kindWords), ("loop.example/g00759/impl.errManyNodes", laid_loop_example_g00759_impl_errManyNodes)] }
def FnExactHoldsAtSaid : Prop := fnExactHoldsAtRow.holds Tryd.pinned (OpenSpec.ofChange fnExactHoldsAtSpec)

/-- ITS FALSE NEIGHBOUR: 'it returns false'. Refute it at one input. -/
def fnExactHoldsAtWrong : ChangeSpec := { name := "fnExactHoldsAt", vars := ["loop.example/g00759/impl.errManyNodes", "loop.example/g00759/impl.kindWords"], fn := fun _ => fun
  | [d1, d2, d3, d4, g1, g2] => { results := [.lit (.bool false)], args := [d1, d2, d3, d4], vars := [g1, g2] }
  | _ => none }
def FnExactHoldsAtWrongFalsely : Prop := fnExactHoldsAtRow.holds Tryd.pinned (OpenSpec.ofChange fnExactHoldsAtWrong)

/-- 'laws.FnExactVerdicts': WHATEVER THE INPUT: true; the input reads as it did. -/
def fnExactVerdictsSpec : ChangeSpec := { name := "fnExactVerdicts", vars := ["loop.example/g00759/impl.errManyNodes", "loop.example/g00759/impl.kindWords"], fn := fun _ => fun
  | [d1, d2, g1, g2] => { results := [.lit (.bool true)], args := [d1, d2], vars := [g1, g2] }
  | _ => none }
def fnExactVerdictsRow : OpenClaim := { program := "ythjnlcjjhklfpaadoor", sum := "ae40ce1b39d96b4eeb72b18f7e9d5dae951b929815e8ae490bce62cb3a903f70", func := "loop.example/g00759/laws.FnExactVerdicts", spec := "fnExactVerdicts", unfollowed := true, recurses := true, named := ["loop.example/g00759/impl.errManyNodes", "loop.example/g00759/impl.kindWords"], ifaces := true, plainKeys := false, apart := false, laid := [("loop.example/g00759/impl.kindWords", laid_loop_example_g00759_impl_kindWords), ("loop.example/g00759/impl.errManyNodes", laid_loop_example_g00759_impl_errManyNodes)] }
def FnExactVerdictsSaid : Prop := fnExactVerdictsRow.holds Tryd.pinned (OpenSpec.ofChange fnExactVerdictsSpec)

/-- ITS FALSE NEIGHBOUR: 'it returns false'. Refute it at one input. -/
def fnExactVerdictsWrong : ChangeSpec := { name := "fnExactVerdicts", vars := ["loop.example/g00759/impl.errManyNodes", "loop.example/g00759/impl.kindWords"], fn := fun _ => fun
  | [d1, d2, g1, g2] => { results := [.lit (.bool false)], args := [d1, d2], vars := [g1, g2] }
  | _ => none }
def FnExactVerdictsWrongFalsely : Prop := fnExactVerdictsRow.holds Tryd.pinned (OpenSpec.ofChange fnExactVerdictsWrong)

/- THE SECOND FORM. 'bulk': how many values and letters a reading holds, each counted each time it is reached (what is shared counts as often as it is met; a slice's spare places count too). A statement '..UptoSaid' is the law's where the arguments, and the package variables that the reading takes, are together of bulk at most 1048576: NARROWER than '..Said'. Prove '..Said' where nothing that the law and all that it calls make is longer than what came in: it says more and counts as full. Else prove '..UptoSaid'. A law counts once. -/
mutual
def uptoBulk {H : Type} : DataW H → Nat
  | .lit (.string bytes) => bytes.length + 1
  | .lit _ => 1
  | .nil => 1
  | .ptr d => uptoBulk d + 1
  | .slice elems spare => uptoBulkAll elems + uptoBulkAll spare + 1
  | .agg parts => uptoBulkAll parts + 1
  | .iface _ d => uptoBulk d + 1
  | .map entries => uptoBulkEntries entries + 1
  | .held _ => 1
def uptoBulkAll {H : Type} : List (DataW H) → Nat
  | [] => 0
  | d :: r => uptoBulk d + uptoBulkAll r
def uptoBulkEntries {H : Type} : List (Lit × DataW H) → Nat
  | [] => 0
  | x :: r => uptoBulkEntry x + uptoBulkEntries r
def uptoBulkEntry {H : Type} : Lit × DataW H → Nat
  | (.string bytes, d) => bytes.length + uptoBulk d + 1
  | (_, d) => uptoBulk d + 1
 end
def uptoSmall : (H : Type) → List (DataW H) → Bool := fun _ ds => decide (uptoBulkAll ds ≤ 1048576)
def OpenSpec.upto (s : _root_.Go.ChangeSpec) : _root_.Go.OpenSpec := { _root_.Go.OpenSpec.ofChange s with cond := some uptoSmall }

/-- 'laws.FnExactFormulaText', WHERE WHAT IT READS IS OF BULK AT MOST 1048576: true; the input reads as it did. -/
def fnExactFormulaTextUptoRow : OpenClaim := { program := "ythjnlcjjhklfpaadoor", sum := "ae40ce1b39d96b4eeb72b18f7e9d5dae951b929815e8ae490bce62cb3a903f70", func := "loop.example/g00759/laws.FnExactFormulaText", spec := "fnExactFormulaText", inPlace := ["slices.overlaps[string]", "internal/abi.NoEscape", "internal/bytealg.MakeNoZero"], unfollowed := true, recurses := true, named := ["loop.example/g00759/impl.errManyNodes", "loop.example/g00759/impl.kindWords", "internal/strconv.uint64pow10", "math/bits.deBruijn32tab", "math/bits.deBruijn64tab"], ifaces := true, plainKeys := false, apart := false, laid := [("math/bits.deBruijn32tab", laid_math_bits_deBruijn32tab), ("math/bits.deBruijn64tab", laid_math_bits_deBruijn64tab), ("internal/strconv.uint64pow10", laid_internal_strconv_uint64pow10), ("loop.example/g00759/impl.kindWords", laid_loop_example_g00759_impl_kindWords), ("loop.example/g00759/impl.errManyNodes", laid_loop_example_g00759_impl_errManyNodes)], narrowed := true }
def FnExactFormulaTextUptoSaid : Prop := fnExactFormulaTextUptoRow.holds Tryd.pinned (OpenSpec.upto fnExactFormulaTextSpec)

/-- 'laws.FnExactAtomsOf', WHERE WHAT IT READS IS OF BULK AT MOST 1048576: true; the input reads as it did. -/
def fnExactAtomsOfUptoRow : OpenClaim := { program := "ythjnlcjjhklfpaadoor", sum := "ae40ce1b39d96b4eeb72b18f7e9d5dae951b929815e8ae490bce62cb3a903f70", func := "loop.example/g00759/laws.FnExactAtomsOf", spec := "fnExactAtomsOf", unfollowed := true, recurses := true, named := ["loop.example/g00759/impl.errManyNodes", "loop.example/g00759/impl.kindWords"], ifaces := true, plainKeys := false, apart := false, laid := [("loop.example/g00759/impl.kindWords", laid_loop_example_g00759_impl_kindWords), ("loop.example/g00759/impl.errManyNodes", laid_loop_example_g00759_impl_errManyNodes)], narrowed := true }
def FnExactAtomsOfUptoSaid : Prop := fnExactAtomsOfUptoRow.holds Tryd.pinned (OpenSpec.upto fnExactAtomsOfSpec)

/-- 'laws.FnExactEventRight', WHERE WHAT IT READS IS OF BULK AT MOST 1048576: true; the input reads as it did. -/
def fnExactEventRightUptoRow : OpenClaim := { program := "ythjnlcjjhklfpaadoor", sum := "ae40ce1b39d96b4eeb72b18f7e9d5dae951b929815e8ae490bce62cb3a903f70", func := "loop.example/g00759/laws.FnExactEventRight", spec := "fnExactEventRight", named := ["loop.example/g00759/impl.kindWords"], plainKeys := false, apart := false, laid := [("loop.example/g00759/impl.kindWords", laid_loop_example_g00759_impl_kindWords)], narrowed := true }
def FnExactEventRightUptoSaid : Prop := fnExactEventRightUptoRow.holds Tryd.pinned (OpenSpec.upto fnExactEventRightSpec)

/-- 'laws.FnExactEventHas', WHERE WHAT IT READS IS OF BULK AT MOST 1048576: true; the input reads as it did. -/
def fnExactEventHasUptoRow : OpenClaim := { program := "ythjnlcjjhklfpaadoor", sum := "ae40ce1b39d96b4eeb72b18f7e9d5dae951b929815e8ae490bce62cb3a903f70", func := "loop.example/g00759/laws.FnExactEventHas", spec := "fnExactEventHas", named := ["loop.example/g00759/impl.kindWords"], plainKeys := false, apart := false, laid := [("loop.example/g00759/impl.kindWords", laid_loop_example_g00759_impl_kindWords)], narrowed := true }
def FnExactEventHasUptoSaid : Prop := fnExactEventHasUptoRow.holds Tryd.pinned (OpenSpec.upto fnExactEventHasSpec)

/-- 'laws.FnExactEventText', WHERE WHAT IT READS IS OF BULK AT MOST 1048576: true; the input reads as it did. -/
def fnExactEventTextUptoRow : OpenClaim := { program := "ythjnlcjjhklfpaadoor", sum := "ae40ce1b39d96b4eeb72b18f7e9d5dae951b929815e8ae490bce62cb3a903f70", func := "loop.example/g00759/laws.FnExactEventText", spec := "fnExactEventText", inPlace := ["internal/abi.NoEscape", "internal/bytealg.MakeNoZero"], named := ["loop.example/g00759/impl.kindWords", "internal/strconv.uint64pow10", "math/bits.deBruijn32tab", "math/bits.deBruijn64tab"], plainKeys := false, apart := false, laid := [("math/bits.deBruijn32tab", laid_math_bits_deBruijn32tab), ("math/bits.deBruijn64tab", laid_math_bits_deBruijn64tab), ("internal/strconv.uint64pow10", laid_internal_strconv_uint64pow10), ("loop.example/g00759/impl.kindWords", laid_loop_example_g00759_impl_kindWords)], narrowed := true }
def FnExactEventTextUptoSaid : Prop := fnExactEventTextUptoRow.holds Tryd.pinned (OpenSpec.upto fnExactEventTextSpec)

/-- 'laws.FnExactEventRead', WHERE WHAT IT READS IS OF BULK AT MOST 1048576: true; the input reads as it did. -/
def fnExactEventReadUptoRow : OpenClaim := { program := "ythjnlcjjhklfpaadoor", sum := "ae40ce1b39d96b4eeb72b18f7e9d5dae951b929815e8ae490bce62cb3a903f70", func := "loop.example/g00759/laws.FnExactEventRead", spec := "fnExactEventRead", inPlace := ["internal/bytealg.IndexByteString", "internal/bytealg.IndexString", "internal/abi.NoEscape", "internal/bytealg.MakeNoZero"], unfollowed := true, recurses := true, named := ["internal/bytealg.MaxLen", "strconv.ErrSyntax", "strconv.ErrRange", "internal/strconv.uint64pow10", "math/bits.deBruijn32tab", "math/bits.deBruijn64tab", "loop.example/g00759/impl.kindWords"], plainKeys := false, apart := false, laid := [("math/bits.deBruijn32tab", laid_math_bits_deBruijn32tab), ("math/bits.deBruijn64tab", laid_math_bits_deBruijn64tab), ("internal/strconv.uint64pow10", laid_internal_strconv_uint64pow10), ("strconv.ErrRange", laid_strconv_ErrRange), ("strconv.ErrSyntax", laid_strconv_ErrSyntax), ("loop.example/g00759/impl.kindWords", laid_loop_example_g00759_impl_kindWords)], narrowed := true }
def FnExactEventReadUptoSaid : Prop := fnExactEventReadUptoRow.holds Tryd.pinned (OpenSpec.upto fnExactEventReadSpec)

/-- 'laws.FnExactTraceRight', WHERE WHAT IT READS IS OF BULK AT MOST 1048576: true; the input reads as it did. -/
def fnExactTraceRightUptoRow : OpenClaim := { program := "ythjnlcjjhklfpaadoor", sum := "ae40ce1b39d96b4eeb72b18f7e9d5dae951b929815e8ae490bce62cb3a903f70", func := "loop.example/g00759/laws.FnExactTraceRight", spec := "fnExactTraceRight", named := ["loop.example/g00759/impl.kindWords"], plainKeys := false, apart := false, laid := [("loop.example/g00759/impl.kindWords", laid_loop_example_g00759_impl_kindWords)], narrowed := true }
def FnExactTraceRightUptoSaid : Prop := fnExactTraceRightUptoRow.holds Tryd.pinned (OpenSpec.upto fnExactTraceRightSpec)

/-- 'laws.FnExactClamp', WHERE WHAT IT READS IS OF BULK AT MOST 1048576: true; the input reads as it did. -/
def fnExactClampUptoRow : OpenClaim := { program := "ythjnlcjjhklfpaadoor", sum := "ae40ce1b39d96b4eeb72b18f7e9d5dae951b929815e8ae490bce62cb3a903f70", func := "loop.example/g00759/laws.FnExactClamp", spec := "fnExactClamp", named := ["loop.example/g00759/impl.kindWords"], plainKeys := false, apart := false, laid := [("loop.example/g00759/impl.kindWords", laid_loop_example_g00759_impl_kindWords)], narrowed := true }
def FnExactClampUptoSaid : Prop := fnExactClampUptoRow.holds Tryd.pinned (OpenSpec.upto fnExactClampSpec)

/-- 'laws.FnExactHolds', WHERE WHAT IT READS IS OF BULK AT MOST 1048576: true; the input reads as it did. -/
def fnExactHoldsUptoRow : OpenClaim := { program := "ythjnlcjjhklfpaadoor", sum := "ae40ce1b39d96b4eeb72b18f7e9d5dae951b929815e8ae490bce62cb3a903f70", func := "loop.example/g00759/laws.FnExactHolds", spec := "fnExactHolds", unfollowed := true, recurses := true, named := ["loop.example/g00759/impl.errManyNodes", "loop.example/g00759/impl.kindWords"], ifaces := true, plainKeys := false, apart := false, laid := [("loop.example/g00759/impl.kindWords", laid_loop_example_g00759_impl_kindWords), ("loop.example/g00759/impl.errManyNodes", laid_loop_example_g00759_impl_errManyNodes)], narrowed := true }
def FnExactHoldsUptoSaid : Prop := fnExactHoldsUptoRow.holds Tryd.pinned (OpenSpec.upto fnExactHoldsSpec)

/-- 'laws.FnExactHoldsAt', WHERE WHAT IT READS IS OF BULK AT MOST 1048576: true; the input reads as it did. -/
def fnExactHoldsAtUptoRow : OpenClaim := { program := "ythjnlcjjhklfpaadoor", sum := "ae40ce1b39d96b4eeb72b18f7e9d5dae951b929815e8ae490bce62cb3a903f70", func := "loop.example/g00759/laws.FnExactHoldsAt", spec := "fnExactHoldsAt", unfollowed := true, recurses := true, named := ["loop.example/g00759/impl.errManyNodes", "loop.example/g00759/impl.kindWords"], ifaces := true, plainKeys := false, apart := false, laid := [("loop.example/g00759/impl.kindWords", laid_loop_example_g00759_impl_kindWords), ("loop.example/g00759/impl.errManyNodes", laid_loop_example_g00759_impl_errManyNodes)], narrowed := true }
def FnExactHoldsAtUptoSaid : Prop := fnExactHoldsAtUptoRow.holds Tryd.pinned (OpenSpec.upto fnExactHoldsAtSpec)

/-- 'laws.FnExactVerdicts', WHERE WHAT IT READS IS OF BULK AT MOST 1048576: true; the input reads as it did. -/
def fnExactVerdictsUptoRow : OpenClaim := { program := "ythjnlcjjhklfpaadoor", sum := "ae40ce1b39d96b4eeb72b18f7e9d5dae951b929815e8ae490bce62cb3a903f70", func := "loop.example/g00759/laws.FnExactVerdicts", spec := "fnExactVerdicts", unfollowed := true, recurses := true, named := ["loop.example/g00759/impl.errManyNodes", "loop.example/g00759/impl.kindWords"], ifaces := true, plainKeys := false, apart := false, laid := [("loop.example/g00759/impl.kindWords", laid_loop_example_g00759_impl_kindWords), ("loop.example/g00759/impl.errManyNodes", laid_loop_example_g00759_impl_errManyNodes)], narrowed := true }
def FnExactVerdictsUptoSaid : Prop := fnExactVerdictsUptoRow.holds Tryd.pinned (OpenSpec.upto fnExactVerdictsSpec)

end Rows
end Go.Proofs.YthjnlcjjhklfpaaDoor
