/-
  The walk of the law FnExactTraceRight.
-/
import Derived.Test.YthjnlcjjhklfpaaDoorEvTr
namespace Go.Proofs.YthjnlcjjhklfpaaDoor
open Go.RowKit
set_option linter.unusedVariables false
set_option linter.unusedSimpArgs false
set_option maxRecDepth 20000 in
set_option maxHeartbeats 2000000 in
theorem walkTrace (a : Option Addr) (cap : Nat) (E : List Evt) (w : World) (hI : InEs w a E) (hkw : Kw w) (hg : 0 < w.heap.size) :
    Calls Tryd.prog 9 #[.slice a E.length cap] w fun e w' => e = .returned (.bool true) ∧ Below w.heap.size w w' := by
  have HI := hid hI
  have HK := hid hkw
  clear hI hkw
  go_enter Tryd.func9, Tryd.ntmps9
  go_wp2_with fail
  refine (szEventS_any E a cap HI.out.ok HI.out.len 1048576 (by omega) (by omega) _ HI.out.arg).mono ?_
  rintro e w1 ⟨r, rfl, q1, q2, hr, hb1⟩
  have HB1 := hid hb1
  have hz1 := hb1.size
  by_cases hr0 : r < 0
  · clear hb1 hr
    go_wp2_with fail
    go_ret
    exact ⟨rfl, HB1.out⟩
  obtain ⟨hl, hl2, _⟩ := hr (by omega)
  have HL2 := hid hl2
  clear hb1 hr hl2
  go_wp2_with fail
  refine (toEventS_any E a cap hl HL2.out _ (HI.out.arg.below HB1.out (Nat.le_refl _))).mono ?_
  rintro e w2 ⟨b2, A2, z2, rfl, hb2, hR2, hbl2⟩
  have HB2 := hid (HB1.out.trans (hbl2.mono hz1))
  have hz2 := hbl2.size
  have HR2 := hid hR2.at.es
  clear hR2 hbl2
  go_wp2_with fail
  refine (specTrace_any E _ rfl _ E.length HI.out.ok HI.out.len _ HR2.out).mono ?_
  rintro e w3 ⟨rfl, hbl3⟩
  have HB3 := hid (HB2.out.trans (hbl3.mono (by omega)))
  have hz3 := hbl3.size
  clear hbl3
  go_wp2_with fail
  refine (toEventS_any E a cap hl HL2.out _ (HI.out.arg.below HB3.out (Nat.le_refl _))).mono ?_
  rintro e w4 ⟨b4, A4, z4, rfl, hb4, hR4, hbl4⟩
  have HB4 := hid (HB3.out.trans (hbl4.mono (by omega)))
  have hz4 := hbl4.size
  have HR4 := hid hR4.at.es
  clear hR4 hbl4
  go_wp2_with fail
  refine (implTrace_any E _ rfl _ E.length HI.out.ok HI.out.len _ HR4.out (HK.out.below HB4.out hg) (by omega)).mono ?_
  rintro e w5 ⟨rfl, hbl5⟩
  have HB5 := hid (HB4.out.trans (hbl5.mono (by omega)))
  have hz5 := hbl5.size
  have HR5 := hid (HR4.out.below hbl5)
  clear hbl5
  have hx : (trB E != trB E) = false := by simp
  go_wp2_with fail
  refine (toEventS_any E a cap hl HL2.out _ (HI.out.arg.below HB5.out (Nat.le_refl _))).mono ?_
  rintro e w6 ⟨b6, A6, z6, rfl, hb6, hR6, hbl6⟩
  have HB6 := hid (HB5.out.trans (hbl6.mono (by omega)))
  have hz6 := hbl6.size
  have HR6 := hid hR6.at.es
  have HR6' := hid (HR5.out.below hbl6)
  clear hR6 hbl6
  go_wp2_with fail
  refine (eqEventS_any E _ rfl _ _ E.length E.length hl HL2.out _ HR6'.out HR6.out).mono ?_
  rintro e w7 ⟨rfl, hbl7⟩
  have HB7 := hid (HB6.out.trans (hbl7.mono (by omega)))
  clear hbl7
  go_wp2_with fail
  go_ret
  exact ⟨rfl, HB7.out⟩
end Go.Proofs.YthjnlcjjhklfpaaDoor
