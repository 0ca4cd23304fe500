/-
  The walk of the law FnExactFormulaRight.
-/
import Derived.Test.YtjojlpnnappplaaDoorRightI
import Derived.Test.YtjojlpnnappplaaDoorConv2
namespace Go.Proofs.YtjojlpnnappplaaDoor
open Go.RowKit
set_option linter.unusedVariables false
set_option linter.unusedSimpArgs false
/-- What is asked of a row of nodes that came in. -/
structure InN (w : World) (a : Option Addr) (cap : Nat) (f : List Nd) : Prop where
  arg : ArgN w a f
  ok : ∀ i, i < f.length → ndOk (ndAt f i)
  len : f.length ≤ maxLen
theorem ndOk.nm {x : Nd} (h : ndOk x) : x.nm.size ≤ maxLen := h.2.2.2.2.2
set_option maxRecDepth 20000 in
set_option maxHeartbeats 2000000 in
theorem walkRight (a : Option Addr) (cap : Nat) (f : List Nd) (w : World) (hI : InN w a cap f) (hkw : Kw w) (hg : 0 < w.heap.size) :
    Calls Tryd.prog 4 #[.slice a f.length cap] w fun e w' => e = .returned (.bool true) ∧ Below w.heap.size w w' := by
  have HI := hid hI
  have HK := hid hkw
  clear hI hkw
  go_enter Tryd.func4, Tryd.ntmps4
  go_wp2_with fail
  refine (szNodeS_any f a cap (fun i hi => (HI.out.ok i hi).nm) HI.out.len _ HI.out.arg).mono ?_
  rintro e w1 ⟨r, rfl, hr, hb1⟩
  have HB1 := hid hb1
  have hz1 := hb1.size
  by_cases hr0 : r < 0
  · clear hb1 hr
    go_wp2_with fail
    go_ret
    exact ⟨rfl, HB1.out⟩
  obtain ⟨hl, _⟩ := hr (by omega)
  have HA1 := hid (HI.out.arg.below hb1 (Nat.le_refl _))
  clear hb1 hr
  go_wp2_with fail
  refine (toNodeS_any f a cap hl _ HA1.out).mono ?_
  rintro e w2 ⟨b2, rfl, hb2, hn2, hf2, hbl2⟩
  have HB2 := hid (HB1.out.trans (hbl2.mono hz1))
  have hz2 := hbl2.size
  have HN2 := hid hn2
  have HA2 := hid (HA1.out.below hbl2 (Nat.le_refl _))
  clear hn2 hf2 hbl2
  go_wp2_with fail
  refine (specRight_any f b2 f.length _ HN2.out (fun i hi => (HI.out.ok i hi).nm) HI.out.len).mono ?_
  rintro e w3 ⟨rfl, hbl3⟩
  have HB3 := hid (HB2.out.trans (hbl3.mono (by omega)))
  have hz3 := hbl3.size
  have HA3 := hid (HA2.out.below hbl3 (Nat.le_refl _))
  clear hbl3
  go_wp2_with fail
  refine (toNodeS_any f a cap hl _ HA3.out).mono ?_
  rintro e w4 ⟨b4, rfl, hb4, hn4, hf4, hbl4⟩
  have HB4 := hid (HB3.out.trans (hbl4.mono (by omega)))
  have hz4 := hbl4.size
  have HN4 := hid hn4
  have HA4 := hid (HA3.out.below hbl4 (Nat.le_refl _))
  have HK4 := hid (HK.out.below HB4.out hg)
  clear hn4 hf4 hbl4
  go_wp2_with fail
  refine (implRight_any f b4 f.length _ HN4.out HI.out.ok HI.out.len HK4.out (by omega)).mono ?_
  rintro e w5 ⟨rfl, hbl5⟩
  have HB5 := hid (HB4.out.trans (hbl5.mono (by omega)))
  have hz5 := hbl5.size
  have HN5 := hid (HN4.out.below hbl5 HN4.out.1)
  have HA5 := hid (HA4.out.below hbl5 (Nat.le_refl _))
  clear hbl5
  have hx : (rightB f != rightB f) = false := by simp
  go_wp2_with fail
  refine (toNodeS_any f a cap hl _ HA5.out).mono ?_
  rintro e w6 ⟨b6, rfl, hb6, hn6, hf6, hbl6⟩
  have HB6 := hid (HB5.out.trans (hbl6.mono (by omega)))
  have hz6 := hbl6.size
  have HN6 := hid hn6
  have HN5' := hid (HN5.out.below hbl6 HN5.out.1)
  clear hn6 hf6 hbl6
  go_wp2_with fail
  refine (eqNodeS_same f b4 b6 f.length f.length hl _ HN5'.out HN6.out).mono ?_
  rintro e w7 ⟨rfl, hbl7⟩
  have HB7 := hid (HB6.out.trans (hbl7.mono (by omega)))
  clear hbl7
  go_wp2_with fail
  go_ret
  exact ⟨rfl, HB7.out⟩
end Go.Proofs.YtjojlpnnappplaaDoor
