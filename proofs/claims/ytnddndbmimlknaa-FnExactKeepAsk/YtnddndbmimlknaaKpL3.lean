/-
  The walk of the law FnExactKeepAsk.
-/
import Derived.Test.YtnddndbmimlknaaKpE
import Derived.Test.YtnddndbmimlknaaKpX
namespace Go.Proofs.Ytnddndbmimlknaa
open Go.RowKit
set_option linter.unusedVariables false
set_option linter.unusedSimpArgs false
set_option maxRecDepth 20000 in
set_option maxHeartbeats 2000000 in
theorem walkKa (lo hi : Int) (a : Option Addr) (cap : Nat) (Z : List Int) (tm : Int) (w : World) (hml : Z.length ≤ maxLen) (hI : ArgI w a Z) :
    Calls Try.prog 7 #[kpV lo hi a Z.length cap, .int .i64 tm] w fun e w' => e = .returned (.bool true) ∧ Below w.heap.size w w' := by
  have HML := hid hml
  have HI := hid hI
  clear hI hml
  have HU : Hid (∀ a n c, kpV lo hi a n c = .agg #[.int .i64 lo, .int .i64 hi, .slice a n c]) := fun _ _ _ => rfl
  rw [HU.out]
  go_enter Try.func7, Try.ntmps7
  go_wp2_with fail
  have HB0 := hid ((Below.refl w.heap.size w).alloc (Nat.le_refl _) (.cells #[.int .i64 lo, .int .i64 hi, .slice a Z.length cap] 39))
  have HX0 := hid (KBox.new w lo hi a Z.length cap 39)
  generalize w.alloc (.cells #[.int .i64 lo, .int .i64 hi, .slice a Z.length cap] 39) = W0 at *
  have hz0 := HB0.out.size
  refine (szKeep_any lo hi Z.length a cap HML.out 1048576 (by omega) (by omega) _).mono ?_
  rintro e w1 ⟨r, rfl, q1, q2, hr, hb1⟩
  have HB1 := hid (HB0.out.trans (hb1.mono hz0))
  have hz1 := hb1.size
  have HX1 := hid (HX0.out.on hb1)
  by_cases hr0 : r < 0
  · clear hb1 hr
    go_wp2_with fail
    go_ret
    exact ⟨rfl, HB1.out⟩
  have hl := hr (by omega)
  have hl1 : Z.length ≤ 1048576 := by omega
  clear hb1 hr
  obtain ⟨hq1, x0, x1, x2⟩ := HX1.out
  go_wp2_with fail
  refine (toKeep_any lo hi Z a cap hl1 _ (HI.out.below HB1.out (Nat.le_refl _))).mono ?_
  rintro e w2 ⟨b2, rfl, hb2, hR2, hbl2⟩
  have HB2 := hid (HB1.out.trans (hbl2.mono (by omega)))
  have hz2 := hbl2.size
  have HX2 := hid (HX1.out.on hbl2)
  have HR2 := hid hR2.arg
  clear hR2 hbl2 x0 x1 x2 hq1
  go_wp2_with fail
  refine (specAsk_any lo hi Z Z.length rfl _ Z.length (by omega) tm _ HR2.out).mono ?_
  rintro e w3 ⟨rfl, hbl3⟩
  have HB3 := hid (HB2.out.trans (hbl3.mono (by omega)))
  have hz3 := hbl3.size
  have HX3 := hid (HX2.out.on hbl3)
  clear hbl3
  obtain ⟨hq3, x0, x1, x2⟩ := HX3.out
  go_wp2_with fail
  refine (toKeep_any lo hi Z a cap hl1 _ (HI.out.below HB3.out (Nat.le_refl _))).mono ?_
  rintro e w4 ⟨b4, rfl, hb4, hR4, hbl4⟩
  have HB4 := hid (HB3.out.trans (hbl4.mono (by omega)))
  have hz4 := hbl4.size
  have HX4 := hid (HX3.out.on hbl4)
  have HR4 := hid hR4.arg
  clear hR4 hbl4 x0 x1 x2 hq3
  rw [HU.out]
  go_wp2_with fail
  have HB5 := hid (below_new HB4.out (.cells #[.int .i64 lo, .int .i64 hi, .slice (some ⟨b4, 0, none⟩) Z.length Z.length] 25))
  have HX5 := hid (HX4.out.on (below_one' w4 (.cells #[.int .i64 lo, .int .i64 hi, .slice (some ⟨b4, 0, none⟩) Z.length Z.length] 25)))
  have HY5 := hid (KBox.new w4 lo hi (some ⟨b4, 0, none⟩) Z.length Z.length 25)
  have HT5 := hid (HR4.out.on (below_one' w4 (.cells #[.int .i64 lo, .int .i64 hi, .slice (some ⟨b4, 0, none⟩) Z.length Z.length] 25)))
  have hz5 := HB5.out.size
  generalize w4.alloc (.cells #[.int .i64 lo, .int .i64 hi, .slice (some ⟨b4, 0, none⟩) Z.length Z.length] 25) = W5 at *
  refine (implAsk_any lo hi Z Z.length rfl _ Z.length (by omega) tm _ HT5.out).mono ?_
  rintro e w6 ⟨rfl, hbl6⟩
  have HB6 := hid (HB5.out.trans (hbl6.mono (by omega)))
  have hz6 := hbl6.size
  have HX6 := hid (HX5.out.on hbl6)
  have HY6 := hid (HY5.out.on hbl6)
  have HT6 := hid (HT5.out.on hbl6)
  clear hbl6
  generalize kaB lo hi Z tm = ANS at *
  have hx : (ANS != ANS) = false := by simp
  obtain ⟨hq6, x0, x1, x2⟩ := HX6.out
  obtain ⟨hy6, y0, y1, y2⟩ := HY6.out
  go_wp2_with fail
  go_region_with (first
    | (go_at_call 27; refine (toKeep_any lo hi Z a cap hl1 _ (HI.out.below (below_drew HB6.out) (Nat.le_refl _))).mono ?_; rintro e w7 ⟨b7, rfl, hb7, hR7, hbl7'⟩; have hbl7 := below_undrew hbl7'; clear hbl7'; have HB7 := hid (HB6.out.trans (hbl7.mono (by omega))); have hz7 := hbl7.size; have HY7 := hid (HY6.out.on hbl7); have HT7 := hid (HT6.out.on hbl7); have HR7 := hid hR7.arg; obtain ⟨hy7, y7, y8, y9⟩ := HY7.out; rw [HU.out]; clear hR7 hbl7)
    | (go_at_call 28; refine (eqKeep_any lo hi Z Z.length rfl _ _ Z.length Z.length (by omega) _ HT7.out HR7.out).mono ?_; rintro e w8 ⟨rfl, hbl8⟩; have HB8 := hid (HB7.out.trans (hbl8.mono (by omega))); clear hbl8))
  all_goals
    go_wp2_with fail
    go_ret
    exact ⟨rfl, HB8.out⟩
end Go.Proofs.Ytnddndbmimlknaa
