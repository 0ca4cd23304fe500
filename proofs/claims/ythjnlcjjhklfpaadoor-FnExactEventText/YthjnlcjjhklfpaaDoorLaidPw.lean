/-
  What the listed table of powers of ten gives a walk.
-/
import Derived.Test.YthjnlcjjhklfpaaDoorLaid
import Derived.Test.YthjnlcjjhklfpaaDoorTxI
import Derived.Lib.LaidTab
namespace Go.Proofs.YthjnlcjjhklfpaaDoor
open Go.ChangeShapes Go.WideShapes Go.RowKit
set_option linter.unusedVariables false
theorem len4 {α : Type} {l : List α} (h : l.length = 4) : ∃ a b c d, l = [a, b, c, d] := by
  match l, h with
  | [a, b, c, d], _ => exact ⟨a, b, c, d, rfl⟩
theorem Tryd.tPw : (Tryd.prog.globals[2]?).map (·.type) = some 207 := by kernel_rfl
theorem Tryd.uPw : Tryd.prog.underlying 207 = some (.array 20 190) := by kernel_rfl
theorem Tryd.uU64 : Tryd.prog.underlying 190 = some (.int .u64) := by kernel_rfl
theorem Tryd.cU64 : Tryd.prog.cellsOf 190 = 1 := by kernel_rfl
theorem Tryd.cPw : Tryd.prog.cellsOf 207 = 20 := by kernel_rfl
theorem pw_data : (Rows.laid_internal_strconv_uint64pow10 : DataW Unit) = Lib.tabData .u64 Lib.pow10Tab := by
  simp [Rows.laid_internal_strconv_uint64pow10, Lib.tabData, Lib.pow10Tab, List.range, List.range.loop]
theorem pw_of_laid {l : List (String × DataW Unit)} (hp : (l.all fun x => x.2.handleName?.isNone) = true) {W : World} (h : laidMetH Tryd.prog l W)
    (hm : ("internal/strconv.uint64pow10", Rows.laid_internal_strconv_uint64pow10) ∈ l) : Pw W := by
  obtain ⟨g, t, cs, fuel, p, hg, ht, hv, hd⟩ := laid_mem hp h hm
  obtain rfl := Option.some.inj (Tryd.gPw.symm.trans hg)
  obtain rfl := Option.some.inj (Tryd.tPw.symm.trans ht)
  rw [pw_data] at hd
  have hc := Lib.cells_of_tab Tryd.uPw Tryd.uU64 Tryd.cU64 Tryd.cPw hd
  unfold Pw Lib.TabIs
  rw [hv, ← hc]
end Go.Proofs.YthjnlcjjhklfpaaDoor
