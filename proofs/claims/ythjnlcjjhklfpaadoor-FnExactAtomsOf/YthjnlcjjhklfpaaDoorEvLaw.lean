/-
  What the walks of the laws over one event share; the walk of FnExactEventRight.
-/
import Derived.Test.YthjnlcjjhklfpaaDoorEvConv
import Derived.Test.YthjnlcjjhklfpaaDoorEvRight
namespace Go.Proofs.YthjnlcjjhklfpaaDoor
open Go.RowKit
set_option linter.unusedVariables false
set_option linter.unusedSimpArgs false
/-- What is asked of a row of names that came in. -/
structure InE (w : World) (a : Option Addr) (S : List ByteArray) : Prop where
  arg : ArgT w a S
  ok : TxOk S
  len : S.length ≤ maxLen
/-- An event lies in a box. -/
def BoxE (w : World) (q : Nat) (t : Int) (v : Value) : Prop := q < w.heap.size ∧ w.cell? ⟨q, 0, none⟩ = some (.int .i64 t) ∧ w.cell? ⟨q, 1, none⟩ = some v
theorem BoxE.below {w w' : World} {q : Nat} {t : Int} {v : Value} (h : BoxE w q t v) (hb : Below w.heap.size w w') : BoxE w' q t v :=
  ⟨Nat.lt_of_lt_of_le h.1 hb.size, (hb.cell (p := ⟨q, 0, none⟩) h.1).trans h.2.1, (hb.cell (p := ⟨q, 1, none⟩) h.1).trans h.2.2⟩
theorem BoxE.alloc {w : World} {q : Nat} {t : Int} {v : Value} (h : BoxE w q t v) (o : Obj) : BoxE (w.alloc o) q t v := h.below ((Below.refl _ _).alloc (Nat.le_refl _) o)
theorem BoxE.new (w : World) (t : Int) (v : Value) (T : TypeId) : BoxE (w.alloc (.cells #[.int .i64 t, v] T)) w.heap.size t v := ⟨by simp, by simp [go_sem], by simp [go_sem]⟩
theorem below_new {w W : World} (h : Below w.heap.size w W) (o : Obj) : Below w.heap.size w (W.alloc o) := h.alloc h.size o
theorem TsAt.alloc {w : World} {a : Option Addr} {S : List ByteArray} (h : TsAt w a S) (o : Obj) : TsAt (w.alloc o) a S := h.below ((Below.refl _ _).alloc (Nat.le_refl _) o)
theorem below_drew {B : Nat} {a w : World} (h : Below B a w) : Below B a w.drew := ⟨h.os, h.tape, h.output, h.size, h.block⟩
theorem below_undrew {w w' : World} (h : Below w.drew.heap.size w.drew w') : Below w.heap.size w w' := ⟨h.os, h.tape, h.output, h.size, h.block⟩
set_option maxRecDepth 20000 in
set_option maxHeartbeats 2000000 in
theorem walkEvRight (t : Int) (ht : -9223372036854775808 ≤ t ∧ t ≤ 9223372036854775807) (S : List ByteArray) (a : Option Addr) (cap : Nat) (w : World) (hI : InE w a S) (hkw : Kw w) (hg : 0 < w.heap.size) :
    Calls Tryd.prog 5 #[.agg #[.int .i64 t, .slice a S.length cap]] w fun e w' => e = .returned (.bool true) ∧ Below w.heap.size w w' := by
  have HI := hid hI
  have HK := hid hkw
  clear hI hkw
  go_enter Tryd.func5, Tryd.ntmps5
  go_wp2_with fail
  have HB0 := hid ((Below.refl w.heap.size w).alloc (Nat.le_refl _) (.cells #[.int .i64 t, .slice a S.length cap] 35))
  have HX0 := hid (BoxE.new w t (.slice a S.length cap) 35)
  generalize w.alloc (.cells #[.int .i64 t, .slice a S.length cap] 35) = W0 at *
  have hz0 := HB0.out.size
  refine (szEvent_any t S a cap HI.out.ok HI.out.len 1048576 (by omega) (by omega) _ (HI.out.arg.below HB0.out (Nat.le_refl _))).mono ?_
  rintro e w1 ⟨r, rfl, q1, q2, hr, hb1⟩
  have HB1 := hid (HB0.out.trans (hb1.mono hz0))
  have hz1 := hb1.size
  have HX1 := hid (HX0.out.below hb1)
  by_cases hr0 : r < 0
  · clear hb1 hr
    go_wp2_with fail
    go_ret
    exact ⟨rfl, HB1.out⟩
  obtain ⟨hl, _⟩ := hr (by omega)
  clear hb1 hr
  obtain ⟨hq1, x0, x1⟩ := HX1.out
  go_wp2_with fail
  refine (toEvent_any t S a cap hl _ (HI.out.arg.below HB1.out (Nat.le_refl _))).mono ?_
  rintro e w2 ⟨b2, rfl, hb2, hR2, hbl2⟩
  have HB2 := hid (HB1.out.trans (hbl2.mono (by omega)))
  have hz2 := hbl2.size
  have HX2 := hid (HX1.out.below hbl2)
  have HR2 := hid hR2
  clear hR2 hbl2 x0 x1 hq1
  go_wp2_with fail
  refine (specEvent_any t S S.length rfl _ S.length HI.out.ok HI.out.len _ HR2.out.ts).mono ?_
  rintro e w3 ⟨rfl, hbl3⟩
  have HB3 := hid (HB2.out.trans (hbl3.mono (by omega)))
  have hz3 := hbl3.size
  have HX3 := hid (HX2.out.below hbl3)
  clear hbl3
  obtain ⟨hq3, x0, x1⟩ := HX3.out
  go_wp2_with fail
  refine (toEvent_any t S a cap hl _ (HI.out.arg.below HB3.out (Nat.le_refl _))).mono ?_
  rintro e w4 ⟨b4, rfl, hb4, hR4, hbl4⟩
  have HB4 := hid (HB3.out.trans (hbl4.mono (by omega)))
  have hz4 := hbl4.size
  have HX4 := hid (HX3.out.below hbl4)
  have HR4 := hid hR4
  clear hR4 hbl4 x0 x1 hq3
  go_wp2_with fail
  have HB5 := hid (below_new HB4.out (.cells #[.int .i64 t, .slice (some ⟨b4, 0, none⟩) S.length S.length] 38))
  have HX5 := hid (HX4.out.alloc (.cells #[.int .i64 t, .slice (some ⟨b4, 0, none⟩) S.length S.length] 38))
  have HY5 := hid (BoxE.new w4 t (.slice (some ⟨b4, 0, none⟩) S.length S.length) 38)
  have HT5 := hid (HR4.out.ts.alloc (.cells #[.int .i64 t, .slice (some ⟨b4, 0, none⟩) S.length S.length] 38))
  have hz5 := HB5.out.size
  generalize w4.alloc (.cells #[.int .i64 t, .slice (some ⟨b4, 0, none⟩) S.length S.length] 38) = W5 at *
  refine (implEvent_any t S S.length rfl _ S.length HI.out.ok HI.out.len _ HT5.out (HK.out.below HB5.out hg) (by omega)).mono ?_
  rintro e w6 ⟨rfl, hbl6⟩
  have HB6 := hid (HB5.out.trans (hbl6.mono (by omega)))
  have hz6 := hbl6.size
  have HX6 := hid (HX5.out.below hbl6)
  have HY6 := hid (HY5.out.below hbl6)
  have HT6 := hid (HT5.out.below hbl6)
  clear hbl6
  have hx : (evB t S != evB t S) = false := by simp
  obtain ⟨hq6, x0, x1⟩ := HX6.out
  obtain ⟨hy6, y0, y1⟩ := HY6.out
  go_wp2_with fail
  go_region_with (first
    | (go_at_call 27; refine (toEvent_any t S a cap hl _ (HI.out.arg.below (below_drew HB6.out) (Nat.le_refl _))).mono ?_; rintro e w7 ⟨b7, rfl, hb7, hR7, hbl7'⟩; have hbl7 := below_undrew hbl7'; clear hbl7'; have HB7 := hid (HB6.out.trans (hbl7.mono (by omega))); have hz7 := hbl7.size; have HY7 := hid (HY6.out.below hbl7); have HT7 := hid (HT6.out.below hbl7); have HR7 := hid hR7; obtain ⟨hy7, y7, y8⟩ := HY7.out; clear hR7 hbl7)
    | (go_at_call 29; refine (eqEvent_any t S S.length rfl _ _ S.length S.length hl _ HT7.out HR7.out.ts).mono ?_; rintro e w8 ⟨rfl, hbl8⟩; have HB8 := hid (HB7.out.trans (hbl8.mono (by omega))); clear hbl8))
  all_goals
    go_wp2_with fail
    go_ret
    exact ⟨rfl, HB8.out⟩
end Go.Proofs.YthjnlcjjhklfpaaDoor
