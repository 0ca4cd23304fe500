/-
  How much a row of nodes weighs, with a bound from below.
  The program's someWithin by its contract.
  The program's since by its contract.
  The program's look by its contract, kind by kind. (Written by wip/tools/gen_look.py.)
  The program's look, the last three kinds; all kinds together. (Written by wip/tools/gen_look.py.)
  The program's holds by its contract: what is known is looked up, what is not is looked at once.
  The program's newMeaning, HoldsAt, Holds by their contracts.
  The walks of the laws FnExactHoldsAt and FnExactHolds.
-/
import Derived.Test.YtnbegpplbjppoaaDoorInN
import Derived.Test.YtnbegpplbjppoaaDoorConv
import Derived.Test.YtnbegpplbjppoaaDoorMeanK
import Derived.WalkMore
namespace Go.Proofs.YtnbegpplbjppoaaDoor
open Go.RowKit
set_option linter.unusedVariables false
set_option linter.unusedSimpArgs false
set_option maxRecDepth 20000 in
set_option maxHeartbeats 1000000 in
theorem szNodeS_le (f : List Nd) (a : Option Addr) (cap : Nat) (hs : ∀ i, i < f.length → (ndAt f i).nm.size ≤ maxLen) (hl : f.length ≤ maxLen) (w : World) (hA : ArgN w a f) :
    Calls Tryd.prog 5 #[.slice a f.length cap, .int .i64 1048576] w fun e w' => ∃ r : Int, e = .returned (.int .i64 r) ∧ r ≤ 1048576 ∧ (0 ≤ r → f.length ≤ 1048576 ∧ ∀ i, i < f.length → (ndAt f i).nm.size ≤ 1048576) ∧ Below w.heap.size w w' := by
  unfold maxLen at hl
  have HS := hid hs
  have HA := hid hA
  clear hs hA
  by_cases h : 1048576 < f.length
  · have h' : (1048576 : Int) - (f.length : Int) < 0 := by omega
    go_enter Tryd.func5, Tryd.ntmps5
    go_wp2
    go_ret
    exact ⟨-1, rfl, by omega, by omega, Below.refl _ _⟩
  have h' : ¬ (1048576 : Int) - (f.length : Int) < 0 := by omega
  go_enter Tryd.func5, Tryd.ntmps5
  go_wp2_with fail
  go_loopw [1, 5] (fun l t wr => ∃ (k : Nat) (r : Int), k ≤ f.length ∧ t = .int .i64 k ∧ l = .int .i64 r ∧ 0 ≤ r ∧ r ≤ 1048576 ∧ (∀ i, i < k → (ndAt f i).nm.size ≤ 1048576) ∧ Below w.heap.size w wr) (fun _ t _ => f.length - (intOf t).toNat)
  case atStart => exact ⟨0, _, Nat.zero_le _, rfl, rfl, by omega, by omega, fun i h => by omega, Below.refl _ _⟩
  case round =>
    obtain ⟨k, r, hk, rfl, rfl, hr1, hr2, hsz, hbel⟩ := hrel
    have HZ := hid hsz
    have HB := hid hbel
    clear hsz hbel
    by_cases hlt : k < f.length
    · rcases HA.out with h0 | ⟨b, off, rfl, hb, hc⟩
      · omega
      · obtain ⟨c0, c1, c2, c3, c4, c5⟩ := (hc k hlt).below HB.out hb
        clear hc
        have HX := hid (HS.out k hlt)
        have HC := hid (fun w => szNode_any (ndAt f k) HX.out r hr1 hr2 w)
        clear h'
        go_wp2_with (go_at_call 15; refine (HC.out _).mono ?_; rintro e w1 ⟨r', rfl, q1, q2, q3, hb1⟩; have HB1 : Hid (Below w.heap.size w w1) := HB.out.trans (hb1.mono HB.out.size); have HQ := hid q3; clear q3 hb1)
        · go_ret
          exact ⟨-1, rfl, by omega, by omega, HB1.out⟩
        · go_roundw
          case rel => exact ⟨k + 1, r', by omega, by go_num, rfl, by omega, q2, fun i hi => by
            by_cases e : i = k
            · subst e; exact HQ.out (by omega)
            · exact HZ.out i (by omega), HB1.out⟩
          case measure => simp [intOf]; omega
    · go_wp2_with fail
      go_ret
      exact ⟨r, rfl, hr2, fun _ => ⟨by omega, fun i hi => HZ.out i (by omega)⟩, HB.out⟩
end Go.Proofs.YtnbegpplbjppoaaDoor
namespace Go.Proofs.YtnbegpplbjppoaaDoor
open Go.RowKit
set_option linter.unusedVariables false
set_option linter.unusedSimpArgs false
set_option maxRecDepth 20000 in
set_option maxHeartbeats 4000000 in
theorem some_any {w0 : World} {f : List Nd} {L : List Evt} {fb fc eb ec mb n p : Nat} (X : Ctx w0 f L fb eb mb) (H : HoldsC w0 f L fb fc eb ec mb p) (hp : p < n) (x : Nd) (hx : x.a = p) (i : Nat) (hi : i < L.length) (yes : Bool) {K : Nat → Nat → Int} {c : Nat} {w : World} (h : St w0 f L mb w K c n) :
    Calls Tryd.prog 60 #[mV f L fb fc eb ec mb, ndV x, .int .i64 i, .bool yes] w fun e w' => e = .returned (.bool (onceTo x L i (fun j => hv f L p j == yes) (i + 1))) ∧ ∃ K' c', Aft f L mb w w' K c K' c' n := by
  have HA0 := hid (h.below (below_boxes w (mO f L fb fc eb ec mb) (xO x)))
  have HBX := hid (Boxes.new w f L fb fc eb ec mb x)
  have hq := h.map.lt
  have HS := hid h
  have HX := hid X
  have HH := hid H
  have hx' := hid hx
  obtain ⟨hl60, hts⟩ := trB_times X.hl
  have HT := hid hts
  clear h X H hx hts
  unfold mV ndV
  go_enter Tryd.func60, Tryd.ntmps60
  go_wp2_with fail
  unfold mO xO at HA0 HBX
  generalize (w.alloc (.cells #[.slice (some ⟨fb, 0, none⟩) f.length fc, .slice (some ⟨eb, 0, none⟩) L.length ec, .map (some mb)] 57)).alloc (.cells #[.int .i64 x.k, .int .i64 x.a, .int .i64 x.b, .int .i64 x.lo, .int .i64 x.hi, .string x.nm] 43) = W at *
  go_loopw [12] (fun t wr => ∃ (k : Nat) (K' : Nat → Nat → Int) (c' : Nat), k ≤ i + 1 ∧ t = .int .i64 k ∧ (∀ m, m < k → (gapB x L m i && (hv f L p m == yes)) = false) ∧ Aft f L mb w wr K c K' c' n ∧ Boxes wr w.heap.size f L fb fc eb ec mb x) (fun t _ => i + 1 - (intOf t).toNat)
  case atStart => exact ⟨0, K, c, Nat.zero_le _, rfl, fun m h => by omega, HA0.out, HBX.out⟩
  case round =>
    clear HA0 HBX
    obtain ⟨k, K', c', hk, rfl, hno, hA, hB⟩ := hrel
    have HNo := hid hno
    have HA := hid hA
    have HBx := hid hB
    have HSt := hid (hA.st HX.out HS.out)
    clear hno hA hB
    by_cases hlt : k < i + 1
    · have hkl : k < L.length := by omega
      obtain ⟨hlq, hlq0, m0, m1, m2, x0, x1, x2, x3, x4, x5⟩ := HBx.out
      have HP := hid (fun (hb : (gapB x L k i && (hv f L p k == yes)) = false) m (h1 : m < k + 1) => (show (gapB x L m i && (hv f L p m == yes)) = false from if e : m = k then by rw [e]; exact hb else HNo.out m (by omega)))
      have HY := hid (fun (h1 : gapB x L k i = true) (h2 : (hv f L p k == yes) = true) => onceTo_yes x L i (fun j => hv f L p j == yes) (i + 1) k hlt h1 h2)
      have HW := hid (fun v hv => within_any f L fb fc eb ec mb x k i hkl hi hl60 HT.out wr (HSt.out.min HX.out).evs v hv)
      rcases (Bool.eq_false_or_eq_true (gapB x L k i)).symm with hg | hg
      · have HG := hid hg
        have HPf := hid (HP.out (by simp [hg]))
        clear hg
        go_wp2_with (go_at_call 59; refine (HW.out false HG.out).mono ?_; rintro e w1 ⟨rfl, hb1⟩; have HA1 := hid (HSt.out.below hb1); have HB1 := hid (HBx.out.below hb1); clear hb1)
        go_roundw
        case rel => exact ⟨k + 1, K', c', by omega, by go_num, HPf.out, HA.out.trans HA1.out, HB1.out⟩
        case measure => simp [intOf]; omega
      · have HG := hid hg
        clear hg
        rcases Bool.eq_false_or_eq_true (hv f L p k) with hh | hh
        all_goals
          have HV := hid hh
          clear hh
          cases yes
        · have HPf := hid (HP.out (by simp [HV.out]))
          clear HP HY HNo
          go_wp2_with (first | (go_at_call 59; refine (HW.out true HG.out).mono ?_; rintro e w1 ⟨rfl, hb1⟩; have HA1 := hid (HSt.out.below hb1); have HB1 := hid (HBx.out.below hb1); obtain ⟨ulq, ulq0, y0, y1, y2, z0, z1, z2, z3, z4, z5⟩ := HB1.out; rw [hx'.out] at z1; clear hb1) | (go_at_call 29; refine (HH.out.is hp k hkl true HV.out (HA1.out.st HX.out HSt.out)).mono ?_; rintro e w2 ⟨rfl, K2, c2, hA2⟩; have HA2 := hid hA2; have HB2 := hid (HB1.out.aft hA2 hq); clear hA2))
          go_roundw
          case rel => exact ⟨k + 1, K2, c2, by omega, by go_num, HPf.out, (HA.out.trans HA1.out).trans HA2.out, HB2.out⟩
          case measure => simp [intOf]; omega
        · have HYt := hid (HY.out HG.out (by simp [HV.out]))
          clear HP HY HNo
          go_wp2_with (first | (go_at_call 59; refine (HW.out true HG.out).mono ?_; rintro e w1 ⟨rfl, hb1⟩; have HA1 := hid (HSt.out.below hb1); have HB1 := hid (HBx.out.below hb1); obtain ⟨ulq, ulq0, y0, y1, y2, z0, z1, z2, z3, z4, z5⟩ := HB1.out; rw [hx'.out] at z1; clear hb1) | (go_at_call 29; refine (HH.out.is hp k hkl true HV.out (HA1.out.st HX.out HSt.out)).mono ?_; rintro e w2 ⟨rfl, K2, c2, hA2⟩; have HA2 := hid hA2; have HB2 := hid (HB1.out.aft hA2 hq); clear hA2))
          go_ret
          exact ⟨ret_bool HYt.out.symm, K2, c2, (HA.out.trans HA1.out).trans HA2.out⟩
        · have HYt := hid (HY.out HG.out (by simp [HV.out]))
          clear HP HY HNo
          go_wp2_with (first | (go_at_call 59; refine (HW.out true HG.out).mono ?_; rintro e w1 ⟨rfl, hb1⟩; have HA1 := hid (HSt.out.below hb1); have HB1 := hid (HBx.out.below hb1); obtain ⟨ulq, ulq0, y0, y1, y2, z0, z1, z2, z3, z4, z5⟩ := HB1.out; rw [hx'.out] at z1; clear hb1) | (go_at_call 29; refine (HH.out.is hp k hkl false HV.out (HA1.out.st HX.out HSt.out)).mono ?_; rintro e w2 ⟨rfl, K2, c2, hA2⟩; have HA2 := hid hA2; have HB2 := hid (HB1.out.aft hA2 hq); clear hA2))
          go_ret
          exact ⟨ret_bool HYt.out.symm, K2, c2, (HA.out.trans HA1.out).trans HA2.out⟩
        · have HPf := hid (HP.out (by simp [HV.out]))
          clear HP HY HNo
          go_wp2_with (first | (go_at_call 59; refine (HW.out true HG.out).mono ?_; rintro e w1 ⟨rfl, hb1⟩; have HA1 := hid (HSt.out.below hb1); have HB1 := hid (HBx.out.below hb1); obtain ⟨ulq, ulq0, y0, y1, y2, z0, z1, z2, z3, z4, z5⟩ := HB1.out; rw [hx'.out] at z1; clear hb1) | (go_at_call 29; refine (HH.out.is hp k hkl false HV.out (HA1.out.st HX.out HSt.out)).mono ?_; rintro e w2 ⟨rfl, K2, c2, hA2⟩; have HA2 := hid hA2; have HB2 := hid (HB1.out.aft hA2 hq); clear hA2))
          go_roundw
          case rel => exact ⟨k + 1, K2, c2, by omega, by go_num, HPf.out, (HA.out.trans HA1.out).trans HA2.out, HB2.out⟩
          case measure => simp [intOf]; omega
    · have HN := hid (onceTo_no x L i (fun j => hv f L p j == yes) (i + 1) (fun m hm => HNo.out m (by omega)))
      go_wp2_with fail
      go_ret
      exact ⟨ret_bool HN.out.symm, K', c', HA.out⟩
end Go.Proofs.YtnbegpplbjppoaaDoor
namespace Go.Proofs.YtnbegpplbjppoaaDoor
open Go.RowKit
set_option linter.unusedVariables false
set_option linter.unusedSimpArgs false
set_option maxRecDepth 20000 in
set_option maxHeartbeats 12000000 in
theorem since_any {w0 : World} {f : List Nd} {L : List Evt} {fb fc eb ec mb n p q : Nat} (X : Ctx w0 f L fb eb mb) (H : HoldsC w0 f L fb fc eb ec mb p) (hp : p < n) (H' : HoldsC w0 f L fb fc eb ec mb q) (hqn : q < n) (x : Nd) (hx : x.a = p) (hxb : x.b = q) (i : Nat) (hi : i < L.length) {K : Nat → Nat → Int} {c : Nat} {w : World} (h : St w0 f L mb w K c n) :
    Calls Tryd.prog 61 #[mV f L fb fc eb ec mb, ndV x, .int .i64 i] w fun e w' => e = .returned (.bool (sinceTo x L i (hv f L p) (hv f L q) (i + 1))) ∧ ∃ K' c', Aft f L mb w w' K c K' c' n := by
  have HA0 := hid (h.below (below_boxes w (mO f L fb fc eb ec mb) (xO x)))
  have HBX := hid (Boxes.new w f L fb fc eb ec mb x)
  have hq := h.map.lt
  have HS := hid h
  have HX := hid X
  have HH := hid H
  have HH' := hid H'
  have hx' := hid hx
  have hxb' := hid hxb
  obtain ⟨hl60, hts⟩ := trB_times X.hl
  have HT := hid hts
  clear h X H H' hx hxb hts
  unfold mV ndV
  go_enter Tryd.func61, Tryd.ntmps61
  go_wp2_with fail
  go_step3
  unfold mO xO at HA0 HBX
  generalize (w.alloc (.cells #[.slice (some ⟨fb, 0, none⟩) f.length fc, .slice (some ⟨eb, 0, none⟩) L.length ec, .map (some mb)] 57)).alloc (.cells #[.int .i64 x.k, .int .i64 x.a, .int .i64 x.b, .int .i64 x.lo, .int .i64 x.hi, .string x.nm] 43) = W at *
  go_wp2_with fail
  go_step3
  go_wp2_with fail
  go_loopw [7, 8] (fun s t wr => ∃ (k : Nat) (K' : Nat → Nat → Int) (c' : Nat), k ≤ i + 1 ∧ s = .bool false ∧ t = jV k ∧ sinceTo x L i (hv f L p) (hv f L q) (i + 1) = sinceTo x L i (hv f L p) (hv f L q) k ∧ Aft f L mb w wr K c K' c' n ∧ Boxes wr w.heap.size f L fb fc eb ec mb x) (fun _ t _ => (intOf t + 1).toNat)
  case atStart => exact ⟨i + 1, K, c, Nat.le_refl _, rfl, rfl, rfl, HA0.out, HBX.out⟩
  case round =>
    clear HA0 HBX
    obtain ⟨k, K', c', hk, rfl, rfl, hno, hA, hB⟩ := hrel
    have HE := hid hno
    have HA := hid hA
    have HBx := hid hB
    have HSt := hid (hA.st HX.out HS.out)
    clear hno hA hB
    cases k with
    | zero =>
      simp only [jV]
      go_wp2_with fail
      rw [Exit.noGoto_ret]
      go_ret
      exact ⟨ret_bool HE.out.symm, K', c', HA.out⟩
    | succ j =>
      simp only [jV]
      have hkl : j < L.length := by omega
      obtain ⟨hlq, hlq0, m0, m1, m2, x0, x1, x2, x3, x4, x5⟩ := HBx.out
      have HEq : Hid (sinceTo x L i (hv f L p) (hv f L q) (i + 1) = ((gapB x L j i && hv f L q j) || (hv f L p j && sinceTo x L i (hv f L p) (hv f L q) j))) := HE.out
      have HW := hid (fun v hv => within_any f L fb fc eb ec mb x j i hkl hi hl60 HT.out wr (HSt.out.min HX.out).evs v hv)
      rcases (Bool.eq_false_or_eq_true (gapB x L j i)).symm with hg | hg
      · have HG := hid hg
        clear hg
        rcases (Bool.eq_false_or_eq_true (hv f L p j)).symm with hh | hh
        · have HV := hid hh
          clear hh
          go_wp2_with (first | (go_at_call 59; refine (HW.out false HG.out).mono ?_; rintro e w1 ⟨rfl, hb1⟩; have HA1 := hid (HSt.out.below hb1); have HB1 := hid (HBx.out.below hb1); obtain ⟨ulq, ulq0, y0, y1, y2, z0, z1, z2, z3, z4, z5⟩ := HB1.out; rw [hx'.out] at z1; clear hb1) | (go_at_call 29; refine (HH.out.is hp j hkl false HV.out (HA1.out.st HX.out HSt.out)).mono ?_; rintro e w2 ⟨rfl, K2, c2, hA2⟩; have HA2 := hid hA2; have HB2 := hid (HB1.out.aft hA2 hq); clear hA2))
          rw [Exit.noGoto_ret]
          go_ret
          exact ⟨ret_bool (by rw [HEq.out, HG.out, HV.out]; rfl), K2, c2, (HA.out.trans HA1.out).trans HA2.out⟩
        · have HV := hid hh
          clear hh
          go_wp2_with (first | (go_at_call 59; refine (HW.out false HG.out).mono ?_; rintro e w1 ⟨rfl, hb1⟩; have HA1 := hid (HSt.out.below hb1); have HB1 := hid (HBx.out.below hb1); obtain ⟨ulq, ulq0, y0, y1, y2, z0, z1, z2, z3, z4, z5⟩ := HB1.out; rw [hx'.out] at z1; clear hb1) | (go_at_call 29; refine (HH.out.is hp j hkl true HV.out (HA1.out.st HX.out HSt.out)).mono ?_; rintro e w2 ⟨rfl, K2, c2, hA2⟩; have HA2 := hid hA2; have HB2 := hid (HB1.out.aft hA2 hq); clear hA2))
          go_roundw
          case rel => exact ⟨j, K2, c2, by omega, rfl, jV_step j, by rw [HEq.out, HG.out, HV.out]; simp, (HA.out.trans HA1.out).trans HA2.out, HB2.out⟩
          case measure => simp [intOf]
      · have HG := hid hg
        clear hg
        rcases (Bool.eq_false_or_eq_true (hv f L q j)).symm with hb | hb
        · have HVb := hid hb
          clear hb
          rcases (Bool.eq_false_or_eq_true (hv f L p j)).symm with hh | hh
          · have HV := hid hh
            clear hh
            go_wp2_with (first | (go_at_call 59; refine (HW.out true HG.out).mono ?_; rintro e w1 ⟨rfl, hb1⟩; have HA1 := hid (HSt.out.below hb1); have HB1 := hid (HBx.out.below hb1); have HS1 := hid (HA1.out.st HX.out HSt.out); obtain ⟨ulq, ulq0, y0, y1, y2, z0, z1, z2, z3, z4, z5⟩ := HB1.out; rw [hx'.out] at z1; rw [hxb'.out] at z2; clear hb1 x0 x1 x2 x3 x4 x5 m0 m1 m2) | (go_at_call 29; refine (HH'.out.is hqn j hkl false HVb.out HS1.out).mono ?_; rintro e w2 ⟨rfl, K2, c2, hA2⟩; have HA2 := hid hA2; have HB2 := hid (HB1.out.aft hA2 hq); have HS2 := hid (hA2.st HX.out HS1.out); clear HS1; obtain ⟨vlq, vlq0, r0, r1, r2, t0, t1, t2, t3, t4, t5⟩ := HB2.out; rw [hx'.out] at t1; clear hA2) | (go_at_call 29; refine (HH.out.is hp j hkl false HV.out HS2.out).mono ?_; rintro e w3 ⟨rfl, K3, c3, hA3⟩; have HA3 := hid hA3; have HB3 := hid (HB2.out.aft hA3 hq); clear hA3))
            rw [Exit.noGoto_ret]
            go_ret
            exact ⟨ret_bool (by rw [HEq.out, HVb.out, HV.out]; simp), K3, c3, ((HA.out.trans HA1.out).trans HA2.out).trans HA3.out⟩
          · have HV := hid hh
            clear hh
            go_wp2_with (first | (go_at_call 59; refine (HW.out true HG.out).mono ?_; rintro e w1 ⟨rfl, hb1⟩; have HA1 := hid (HSt.out.below hb1); have HB1 := hid (HBx.out.below hb1); have HS1 := hid (HA1.out.st HX.out HSt.out); obtain ⟨ulq, ulq0, y0, y1, y2, z0, z1, z2, z3, z4, z5⟩ := HB1.out; rw [hx'.out] at z1; rw [hxb'.out] at z2; clear hb1 x0 x1 x2 x3 x4 x5 m0 m1 m2) | (go_at_call 29; refine (HH'.out.is hqn j hkl false HVb.out HS1.out).mono ?_; rintro e w2 ⟨rfl, K2, c2, hA2⟩; have HA2 := hid hA2; have HB2 := hid (HB1.out.aft hA2 hq); have HS2 := hid (hA2.st HX.out HS1.out); clear HS1; obtain ⟨vlq, vlq0, r0, r1, r2, t0, t1, t2, t3, t4, t5⟩ := HB2.out; rw [hx'.out] at t1; clear hA2) | (go_at_call 29; refine (HH.out.is hp j hkl true HV.out HS2.out).mono ?_; rintro e w3 ⟨rfl, K3, c3, hA3⟩; have HA3 := hid hA3; have HB3 := hid (HB2.out.aft hA3 hq); clear hA3))
            go_roundw
            case rel => exact ⟨j, K3, c3, by omega, rfl, jV_step j, by rw [HEq.out, HVb.out, HV.out]; simp, ((HA.out.trans HA1.out).trans HA2.out).trans HA3.out, HB3.out⟩
            case measure => simp [intOf]
        · have HVb := hid hb
          clear hb
          go_wp2_with (first | (go_at_call 59; refine (HW.out true HG.out).mono ?_; rintro e w1 ⟨rfl, hb1⟩; have HA1 := hid (HSt.out.below hb1); have HB1 := hid (HBx.out.below hb1); have HS1 := hid (HA1.out.st HX.out HSt.out); obtain ⟨ulq, ulq0, y0, y1, y2, z0, z1, z2, z3, z4, z5⟩ := HB1.out; rw [hxb'.out] at z2; clear hb1) | (go_at_call 29; refine (HH'.out.is hqn j hkl true HVb.out HS1.out).mono ?_; rintro e w2 ⟨rfl, K2, c2, hA2⟩; have HA2 := hid hA2; have HB2 := hid (HB1.out.aft hA2 hq); clear hA2))
          rw [Exit.noGoto_ret]
          go_ret
          exact ⟨ret_bool (by rw [HEq.out, HG.out, HVb.out]; simp), K2, c2, (HA.out.trans HA1.out).trans HA2.out⟩
end Go.Proofs.YtnbegpplbjppoaaDoor
namespace Go.Proofs.YtnbegpplbjppoaaDoor
open Go.RowKit
set_option linter.unusedVariables false
set_option linter.unusedSimpArgs false
theorem TsAt.drewN {w : World} {a : Option Addr} {S : List ByteArray} (h : TsAt w a S) (m : Nat) : TsAt (w.drewN m) a S := h
theorem contains_q (S : List ByteArray) (x : ByteArray) (a : Option Addr) (c : Nat) (hl : S.length ≤ maxLen) (w : World) (hA : TsAt w a S) (m : Nat) :
    Calls Tryd.prog 58 #[.slice a S.length c, .string x] (w.drewN m) fun e w' => e = .returned (.bool (nhTo S x S.length)) ∧ ∃ k, w' = w.drewN k :=
  Calls.quiet_of_same ((contains_any S x _ rfl a c hl (w.drewN m) (hA.drewN m)).mono fun e w' h => ⟨h.1, h.2.symm⟩)
def LookC (w0 : World) (f : List Nd) (L : List Evt) (fb fc eb ec mb n : Nat) : Prop := ∀ (i : Nat) (K : Nat → Nat → Int) (c : Nat) (w : World), i < L.length → St w0 f L mb w K c n →
    Calls Tryd.prog 43 #[mV f L fb fc eb ec mb, ndV (ndAt f n), .int .i64 i] w fun e w' => e = .returned (.bool (hv f L n i)) ∧ ∃ K' c', Aft f L mb w w' K c K' c' n
set_option maxRecDepth 20000 in
set_option maxHeartbeats 4000000 in
theorem look1 {w0 : World} {f : List Nd} {L : List Evt} {fb fc eb ec mb n : Nat} (X : Ctx w0 f L fb eb mb) (hn : n < f.length) (Hall : ∀ p, p < n → HoldsC w0 f L fb fc eb ec mb p) (hk : (ndAt f n).k = 1) : LookC w0 f L fb fc eb ec mb n := by
  intro i K c w hi h
  obtain ⟨hf1, hf2, hf3⟩ := rightB_parts f X.hf
  have harm := (hf3 n hn).1
  have HA0 := hid (h.below (below_boxes w (mO f L fb fc eb ec mb) (xO (ndAt f n))))
  have HBX := hid (Boxes.new w f L fb fc eb ec mb (ndAt f n))
  have hq := h.map.lt
  have HX := hid X
  have HS0 := hid (HA0.out.st X h)
  obtain ⟨hl60, hts⟩ := trB_times X.hl
  have HTm := hid hts
  have HV := hid (hv1 f L n i harm hk)
  clear h X Hall hf3 harm hts
  unfold mO xO at HA0 HBX HS0
  generalize ndAt f n = x at *
  rw [hk] at HA0 HBX HS0
  unfold mV ndV
  go_enter Tryd.func43, Tryd.ntmps43
  go_wp2_with fail
  go_ret
  exact ⟨ret_bool HV.out.symm, K, c, HA0.out⟩
set_option maxRecDepth 20000 in
set_option maxHeartbeats 4000000 in
theorem look2 {w0 : World} {f : List Nd} {L : List Evt} {fb fc eb ec mb n : Nat} (X : Ctx w0 f L fb eb mb) (hn : n < f.length) (Hall : ∀ p, p < n → HoldsC w0 f L fb fc eb ec mb p) (hk : (ndAt f n).k = 2) : LookC w0 f L fb fc eb ec mb n := by
  intro i K c w hi h
  obtain ⟨hf1, hf2, hf3⟩ := rightB_parts f X.hf
  have harm := (hf3 n hn).1
  have HA0 := hid (h.below (below_boxes w (mO f L fb fc eb ec mb) (xO (ndAt f n))))
  have HBX := hid (Boxes.new w f L fb fc eb ec mb (ndAt f n))
  have hq := h.map.lt
  have HX := hid X
  have HS0 := hid (HA0.out.st X h)
  obtain ⟨hl60, hts⟩ := trB_times X.hl
  have HTm := hid hts
  have HV := hid (hv2 f L n i harm hk)
  clear h X Hall hf3 harm hts
  unfold mO xO at HA0 HBX HS0
  generalize ndAt f n = x at *
  rw [hk] at HA0 HBX HS0
  unfold mV ndV
  go_enter Tryd.func43, Tryd.ntmps43
  go_wp2_with fail
  generalize (w.alloc (.cells #[.slice (some ⟨fb, 0, none⟩) f.length fc, .slice (some ⟨eb, 0, none⟩) L.length ec, .map (some mb)] 57)).alloc (.cells #[.int .i64 2, .int .i64 x.a, .int .i64 x.b, .int .i64 x.lo, .int .i64 x.hi, .string x.nm] 43) = W at *
  obtain ⟨hlq, hlq0, m0, m1, m2, x0, x1, x2, x3, x4, x5⟩ := HBX.out
  obtain ⟨d0, a1, c1, d1, hT⟩ := (HS0.out.min HX.out).evs.2 i hi
  have hnm := ((trB_parts L HX.out.hl).2 i hi).2
  have HC := hid (fun m => contains_q (evAt L i).2 x.nm a1 c1 hnm W hT m)
  clear hT
  go_quiet ((go_at_call 58; exact HC.out _))
  go_wp2_with fail
  go_ret
  exact ⟨ret_bool HV.out.symm, K, c, HA0.out.trans (HS0.out.below (below_drewN (Below.refl _ _) _))⟩
set_option maxRecDepth 20000 in
set_option maxHeartbeats 4000000 in
theorem look3 {w0 : World} {f : List Nd} {L : List Evt} {fb fc eb ec mb n : Nat} (X : Ctx w0 f L fb eb mb) (hn : n < f.length) (Hall : ∀ p, p < n → HoldsC w0 f L fb fc eb ec mb p) (hk : (ndAt f n).k = 3) : LookC w0 f L fb fc eb ec mb n := by
  intro i K c w hi h
  obtain ⟨hf1, hf2, hf3⟩ := rightB_parts f X.hf
  have harm := (hf3 n hn).1
  have HA0 := hid (h.below (below_boxes w (mO f L fb fc eb ec mb) (xO (ndAt f n))))
  have HBX := hid (Boxes.new w f L fb fc eb ec mb (ndAt f n))
  have hq := h.map.lt
  have HX := hid X
  have HS0 := hid (HA0.out.st X h)
  obtain ⟨hl60, hts⟩ := trB_times X.hl
  have HTm := hid hts
  obtain ⟨p, hp, hpn⟩ := arms_a harm (by simp [armsN, hk])
  have HH := hid (Hall p hpn)
  have HV := hid (hv3 f L n i harm hk p hp)
  clear h X Hall hf3 harm hts
  unfold mO xO at HA0 HBX HS0
  generalize ndAt f n = x at *
  rw [hk, hp] at HA0 HBX HS0
  unfold mV ndV
  rcases (Bool.eq_false_or_eq_true (hv f L p i)).symm with hh | hh
  · have HVp := hid hh
    clear hh
    go_enter Tryd.func43, Tryd.ntmps43
    go_wp2_with (go_at_call 29; refine (HH.out.is hpn i hi false HVp.out HS0.out).mono ?_; rintro e w1 ⟨rfl, K1, c1, hA⟩; have Hw1 := hid hA; clear hA)
    go_ret
    exact ⟨ret_bool (by rw [HV.out, HVp.out]; rfl), K1, c1, HA0.out.trans Hw1.out⟩
  · have HVp := hid hh
    clear hh
    go_enter Tryd.func43, Tryd.ntmps43
    go_wp2_with (go_at_call 29; refine (HH.out.is hpn i hi true HVp.out HS0.out).mono ?_; rintro e w1 ⟨rfl, K1, c1, hA⟩; have Hw1 := hid hA; clear hA)
    go_ret
    exact ⟨ret_bool (by rw [HV.out, HVp.out]; rfl), K1, c1, HA0.out.trans Hw1.out⟩
set_option maxRecDepth 20000 in
set_option maxHeartbeats 4000000 in
theorem look4 {w0 : World} {f : List Nd} {L : List Evt} {fb fc eb ec mb n : Nat} (X : Ctx w0 f L fb eb mb) (hn : n < f.length) (Hall : ∀ p, p < n → HoldsC w0 f L fb fc eb ec mb p) (hk : (ndAt f n).k = 4) : LookC w0 f L fb fc eb ec mb n := by
  intro i K c w hi h
  obtain ⟨hf1, hf2, hf3⟩ := rightB_parts f X.hf
  have harm := (hf3 n hn).1
  have HA0 := hid (h.below (below_boxes w (mO f L fb fc eb ec mb) (xO (ndAt f n))))
  have HBX := hid (Boxes.new w f L fb fc eb ec mb (ndAt f n))
  have hq := h.map.lt
  have HX := hid X
  have HS0 := hid (HA0.out.st X h)
  obtain ⟨hl60, hts⟩ := trB_times X.hl
  have HTm := hid hts
  obtain ⟨p, hp, hpn⟩ := arms_a harm (by simp [armsN, hk])
  have HH := hid (Hall p hpn)
  obtain ⟨q, hqx, hqn⟩ := arms_b harm (by simp [armsN, hk])
  have HH' := hid (Hall q hqn)
  have HV := hid (hv4 f L n i harm hk p hp q hqx)
  clear h X Hall hf3 harm hts
  unfold mO xO at HA0 HBX HS0
  generalize ndAt f n = x at *
  rw [hk, hp, hqx] at HA0 HBX HS0
  unfold mV ndV
  rcases (Bool.eq_false_or_eq_true (hv f L p i)).symm with hh | hh
  · have HVp := hid hh
    clear hh
    go_enter Tryd.func43, Tryd.ntmps43
    go_wp2_with (go_at_call 29; refine (HH.out.is hpn i hi false HVp.out HS0.out).mono ?_; rintro e w1 ⟨rfl, K1, c1, hA⟩; have Hw1 := hid hA; clear hA)
    go_ret
    exact ⟨ret_bool (by rw [HV.out, HVp.out]; rfl), K1, c1, HA0.out.trans Hw1.out⟩
  · have HVp := hid hh
    clear hh
    go_enter Tryd.func43, Tryd.ntmps43
    go_wp2_with (first | (go_at_call 29; refine (HH.out.is hpn i hi true HVp.out HS0.out).mono ?_; rintro e w1 ⟨rfl, K1, c1, hA⟩; have Hw1 := hid hA; have HS1 := hid (hA.st HX.out HS0.out); have HB1 := hid (HBX.out.aft hA hq); clear HS0; obtain ⟨ulq, ulq0, y0, y1, y2, z0, z1, z2, z3, z4, z5⟩ := HB1.out; clear hA) | (go_at_call 29; refine (HH'.out.is hqn i hi _ rfl HS1.out).mono ?_; rintro e w2 ⟨rfl, K2, c2, hA⟩; have Hw2 := hid hA; clear hA))
    go_ret
    exact ⟨ret_bool (by rw [HV.out, HVp.out]; simp), K2, c2, (HA0.out.trans Hw1.out).trans Hw2.out⟩
set_option maxRecDepth 20000 in
set_option maxHeartbeats 4000000 in
theorem look5 {w0 : World} {f : List Nd} {L : List Evt} {fb fc eb ec mb n : Nat} (X : Ctx w0 f L fb eb mb) (hn : n < f.length) (Hall : ∀ p, p < n → HoldsC w0 f L fb fc eb ec mb p) (hk : (ndAt f n).k = 5) : LookC w0 f L fb fc eb ec mb n := by
  intro i K c w hi h
  obtain ⟨hf1, hf2, hf3⟩ := rightB_parts f X.hf
  have harm := (hf3 n hn).1
  have HA0 := hid (h.below (below_boxes w (mO f L fb fc eb ec mb) (xO (ndAt f n))))
  have HBX := hid (Boxes.new w f L fb fc eb ec mb (ndAt f n))
  have hq := h.map.lt
  have HX := hid X
  have HS0 := hid (HA0.out.st X h)
  obtain ⟨hl60, hts⟩ := trB_times X.hl
  have HTm := hid hts
  obtain ⟨p, hp, hpn⟩ := arms_a harm (by simp [armsN, hk])
  have HH := hid (Hall p hpn)
  obtain ⟨q, hqx, hqn⟩ := arms_b harm (by simp [armsN, hk])
  have HH' := hid (Hall q hqn)
  have HV := hid (hv5 f L n i harm hk p hp q hqx)
  clear h X Hall hf3 harm hts
  unfold mO xO at HA0 HBX HS0
  generalize ndAt f n = x at *
  rw [hk, hp, hqx] at HA0 HBX HS0
  unfold mV ndV
  rcases (Bool.eq_false_or_eq_true (hv f L p i)).symm with hh | hh
  · have HVp := hid hh
    clear hh
    go_enter Tryd.func43, Tryd.ntmps43
    go_wp2_with (first | (go_at_call 29; refine (HH.out.is hpn i hi false HVp.out HS0.out).mono ?_; rintro e w1 ⟨rfl, K1, c1, hA⟩; have Hw1 := hid hA; have HS1 := hid (hA.st HX.out HS0.out); have HB1 := hid (HBX.out.aft hA hq); clear HS0; obtain ⟨ulq, ulq0, y0, y1, y2, z0, z1, z2, z3, z4, z5⟩ := HB1.out; clear hA) | (go_at_call 29; refine (HH'.out.is hqn i hi _ rfl HS1.out).mono ?_; rintro e w2 ⟨rfl, K2, c2, hA⟩; have Hw2 := hid hA; clear hA))
    go_ret
    exact ⟨ret_bool (by rw [HV.out, HVp.out]; simp), K2, c2, (HA0.out.trans Hw1.out).trans Hw2.out⟩
  · have HVp := hid hh
    clear hh
    go_enter Tryd.func43, Tryd.ntmps43
    go_wp2_with (go_at_call 29; refine (HH.out.is hpn i hi true HVp.out HS0.out).mono ?_; rintro e w1 ⟨rfl, K1, c1, hA⟩; have Hw1 := hid hA; clear hA)
    go_ret
    exact ⟨ret_bool (by rw [HV.out, HVp.out]; rfl), K1, c1, HA0.out.trans Hw1.out⟩
set_option maxRecDepth 20000 in
set_option maxHeartbeats 4000000 in
theorem look6 {w0 : World} {f : List Nd} {L : List Evt} {fb fc eb ec mb n : Nat} (X : Ctx w0 f L fb eb mb) (hn : n < f.length) (Hall : ∀ p, p < n → HoldsC w0 f L fb fc eb ec mb p) (hk : (ndAt f n).k = 6) : LookC w0 f L fb fc eb ec mb n := by
  intro i K c w hi h
  obtain ⟨hf1, hf2, hf3⟩ := rightB_parts f X.hf
  have harm := (hf3 n hn).1
  have HA0 := hid (h.below (below_boxes w (mO f L fb fc eb ec mb) (xO (ndAt f n))))
  have HBX := hid (Boxes.new w f L fb fc eb ec mb (ndAt f n))
  have hq := h.map.lt
  have HX := hid X
  have HS0 := hid (HA0.out.st X h)
  obtain ⟨hl60, hts⟩ := trB_times X.hl
  have HTm := hid hts
  obtain ⟨p, hp, hpn⟩ := arms_a harm (by simp [armsN, hk])
  have HH := hid (Hall p hpn)
  have HV := hid (hv6 f L n i harm hk p hp)
  clear h X Hall hf3 harm hts
  unfold mO xO at HA0 HBX HS0
  generalize ndAt f n = x at *
  rw [hk, hp] at HA0 HBX HS0
  unfold mV ndV
  cases i with
  | zero =>
    go_enter Tryd.func43, Tryd.ntmps43
    go_wp2_with fail
    go_ret
    exact ⟨ret_bool (by rw [HV.out]; simp), K, c, HA0.out⟩
  | succ j =>
    simp only [Nat.add_sub_cancel] at HV
    have hjl : j < L.length := by omega
    have HW := hid (fun v hv => within_any f L fb fc eb ec mb x j (j + 1) hjl hi hl60 HTm.out _ (HS0.out.min HX.out).evs v hv)
    unfold ndV at HW
    rw [hk, hp] at HW
    rcases (Bool.eq_false_or_eq_true (gapB x L j (j + 1))).symm with hg | hg
    · have HG := hid hg
      clear hg
      go_enter Tryd.func43, Tryd.ntmps43
      go_wp2_with (go_at_call 59; refine (HW.out false HG.out).mono ?_; rintro e w1 ⟨rfl, hb1⟩; have Hw1 := hid (HS0.out.below hb1); clear hb1)
      go_ret
      exact ⟨ret_bool (by rw [HV.out, HG.out]; simp), K, c, HA0.out.trans Hw1.out⟩
    · have HG := hid hg
      clear hg
      go_enter Tryd.func43, Tryd.ntmps43
      go_wp2_with (first | (go_at_call 59; refine (HW.out true HG.out).mono ?_; rintro e w1 ⟨rfl, hb1⟩; have Hw1 := hid (HS0.out.below hb1); have HS1 := hid (Hw1.out.st HX.out HS0.out); have HB1 := hid (HBX.out.below hb1); clear HS0; obtain ⟨ulq, ulq0, y0, y1, y2, z0, z1, z2, z3, z4, z5⟩ := HB1.out; clear hb1) | (go_at_call 29; refine (HH.out.is hpn j hjl _ rfl HS1.out).mono ?_; rintro e w2 ⟨rfl, K2, c2, hA⟩; have Hw2 := hid hA; clear hA))
      go_ret
      exact ⟨ret_bool (by rw [HV.out, HG.out]; simp), K2, c2, (HA0.out.trans Hw1.out).trans Hw2.out⟩
end Go.Proofs.YtnbegpplbjppoaaDoor
namespace Go.Proofs.YtnbegpplbjppoaaDoor
open Go.RowKit
set_option linter.unusedVariables false
set_option linter.unusedSimpArgs false
theorem once_true (x : Nd) (L : List Evt) (i : Nat) (g : Nat → Bool) (k : Nat) : onceTo x L i (fun j => g j == true) k = onceTo x L i g k := onceTo_congr x L i _ _ (fun j => by cases g j <;> rfl) k
theorem once_false (x : Nd) (L : List Evt) (i : Nat) (g : Nat → Bool) (k : Nat) : onceTo x L i (fun j => g j == false) k = onceTo x L i (fun j => !g j) k := onceTo_congr x L i _ _ (fun j => by cases g j <;> rfl) k
set_option maxRecDepth 20000 in
set_option maxHeartbeats 4000000 in
theorem look7 {w0 : World} {f : List Nd} {L : List Evt} {fb fc eb ec mb n : Nat} (X : Ctx w0 f L fb eb mb) (hn : n < f.length) (Hall : ∀ p, p < n → HoldsC w0 f L fb fc eb ec mb p) (hk : (ndAt f n).k = 7) : LookC w0 f L fb fc eb ec mb n := by
  intro i K c w hi h
  obtain ⟨hf1, hf2, hf3⟩ := rightB_parts f X.hf
  have harm := (hf3 n hn).1
  have HA0 := hid (h.below (below_boxes w (mO f L fb fc eb ec mb) (xO (ndAt f n))))
  have HBX := hid (Boxes.new w f L fb fc eb ec mb (ndAt f n))
  have hq := h.map.lt
  have HX := hid X
  have HS0 := hid (HA0.out.st X h)
  obtain ⟨hl60, hts⟩ := trB_times X.hl
  have HTm := hid hts
  obtain ⟨p, hp, hpn⟩ := arms_a harm (by simp [armsN, hk])
  have HH := hid (Hall p hpn)
  have HV := hid (hv7 f L n i harm hk p hp)
  clear h X Hall hf3 harm hts
  unfold mO xO at HA0 HBX HS0
  generalize ndAt f n = x at *
  rw [hk, hp] at HA0 HBX HS0
  unfold mV ndV
  have HC := hid (some_any HX.out HH.out hpn x hp i hi true HS0.out)
  unfold ndV at HC
  rw [hk, hp] at HC
  rw [← once_true] at HV
  generalize onceTo x L i (fun j => hv f L p j == true) (i + 1) = r at *
  go_enter Tryd.func43, Tryd.ntmps43
  go_wp2_with (go_at_call 60; refine HC.out.mono ?_; rintro e w1 ⟨rfl, K1, c1, hA⟩; have Hw1 := hid hA; clear hA)
  go_ret
  exact ⟨ret_bool HV.out.symm, K1, c1, HA0.out.trans Hw1.out⟩
set_option maxRecDepth 20000 in
set_option maxHeartbeats 4000000 in
theorem look8 {w0 : World} {f : List Nd} {L : List Evt} {fb fc eb ec mb n : Nat} (X : Ctx w0 f L fb eb mb) (hn : n < f.length) (Hall : ∀ p, p < n → HoldsC w0 f L fb fc eb ec mb p) (hk : (ndAt f n).k = 8) : LookC w0 f L fb fc eb ec mb n := by
  intro i K c w hi h
  obtain ⟨hf1, hf2, hf3⟩ := rightB_parts f X.hf
  have harm := (hf3 n hn).1
  have HA0 := hid (h.below (below_boxes w (mO f L fb fc eb ec mb) (xO (ndAt f n))))
  have HBX := hid (Boxes.new w f L fb fc eb ec mb (ndAt f n))
  have hq := h.map.lt
  have HX := hid X
  have HS0 := hid (HA0.out.st X h)
  obtain ⟨hl60, hts⟩ := trB_times X.hl
  have HTm := hid hts
  obtain ⟨p, hp, hpn⟩ := arms_a harm (by simp [armsN, hk])
  have HH := hid (Hall p hpn)
  have HV := hid (hv8 f L n i harm hk p hp)
  clear h X Hall hf3 harm hts
  unfold mO xO at HA0 HBX HS0
  generalize ndAt f n = x at *
  rw [hk, hp] at HA0 HBX HS0
  unfold mV ndV
  have HC := hid (some_any HX.out HH.out hpn x hp i hi false HS0.out)
  unfold ndV at HC
  rw [hk, hp] at HC
  rw [← once_false] at HV
  generalize onceTo x L i (fun j => hv f L p j == false) (i + 1) = r at *
  go_enter Tryd.func43, Tryd.ntmps43
  go_wp2_with (go_at_call 60; refine HC.out.mono ?_; rintro e w1 ⟨rfl, K1, c1, hA⟩; have Hw1 := hid hA; clear hA)
  go_ret
  exact ⟨ret_bool HV.out.symm, K1, c1, HA0.out.trans Hw1.out⟩
set_option maxRecDepth 20000 in
set_option maxHeartbeats 4000000 in
theorem look9 {w0 : World} {f : List Nd} {L : List Evt} {fb fc eb ec mb n : Nat} (X : Ctx w0 f L fb eb mb) (hn : n < f.length) (Hall : ∀ p, p < n → HoldsC w0 f L fb fc eb ec mb p) (hk : (ndAt f n).k = 9) : LookC w0 f L fb fc eb ec mb n := by
  intro i K c w hi h
  obtain ⟨hf1, hf2, hf3⟩ := rightB_parts f X.hf
  have harm := (hf3 n hn).1
  have HA0 := hid (h.below (below_boxes w (mO f L fb fc eb ec mb) (xO (ndAt f n))))
  have HBX := hid (Boxes.new w f L fb fc eb ec mb (ndAt f n))
  have hq := h.map.lt
  have HX := hid X
  have HS0 := hid (HA0.out.st X h)
  obtain ⟨hl60, hts⟩ := trB_times X.hl
  have HTm := hid hts
  obtain ⟨p, hp, hpn⟩ := arms_a harm (by simp [armsN, hk])
  have HH := hid (Hall p hpn)
  obtain ⟨q, hqx, hqn⟩ := arms_b harm (by simp [armsN, hk])
  have HH' := hid (Hall q hqn)
  have HV := hid (hv9 f L n i harm hk p hp q hqx)
  clear h X Hall hf3 harm hts
  unfold mO xO at HA0 HBX HS0
  generalize ndAt f n = x at *
  rw [hk, hp, hqx] at HA0 HBX HS0
  unfold mV ndV
  have HC := hid (since_any HX.out HH.out hpn HH'.out hqn x hp hqx i hi HS0.out)
  unfold ndV at HC
  rw [hk, hp, hqx] at HC
  generalize sinceTo x L i (hv f L p) (hv f L q) (i + 1) = r at *
  go_enter Tryd.func43, Tryd.ntmps43
  go_wp2_with (go_at_call 61; refine HC.out.mono ?_; rintro e w1 ⟨rfl, K1, c1, hA⟩; have Hw1 := hid hA; clear hA)
  go_ret
  exact ⟨ret_bool HV.out.symm, K1, c1, HA0.out.trans Hw1.out⟩
theorem look_any {w0 : World} {f : List Nd} {L : List Evt} {fb fc eb ec mb n : Nat} (X : Ctx w0 f L fb eb mb) (hn : n < f.length) (Hall : ∀ p, p < n → HoldsC w0 f L fb fc eb ec mb p) : LookC w0 f L fb fc eb ec mb n := by
  obtain ⟨_, hk1, hk2⟩ := (rightB_parts f X.hf).2.2 n hn
  have : (ndAt f n).k = 1 ∨ (ndAt f n).k = 2 ∨ (ndAt f n).k = 3 ∨ (ndAt f n).k = 4 ∨ (ndAt f n).k = 5 ∨ (ndAt f n).k = 6 ∨ (ndAt f n).k = 7 ∨ (ndAt f n).k = 8 ∨ (ndAt f n).k = 9 := by omega
  rcases this with e | e | e | e | e | e | e | e | e
  · exact look1 X hn Hall e
  · exact look2 X hn Hall e
  · exact look3 X hn Hall e
  · exact look4 X hn Hall e
  · exact look5 X hn Hall e
  · exact look6 X hn Hall e
  · exact look7 X hn Hall e
  · exact look8 X hn Hall e
  · exact look9 X hn Hall e
end Go.Proofs.YtnbegpplbjppoaaDoor
namespace Go.Proofs.YtnbegpplbjppoaaDoor
open Go.RowKit
set_option linter.unusedVariables false
set_option linter.unusedSimpArgs false
structure BoxA (W : World) (q : Nat) (f : List Nd) (L : List Evt) (fb fc eb ec mb n i : Nat) : Prop where
  lt : q + 1 < W.heap.size
  lt0 : q < W.heap.size
  m0 : W.cell? ⟨q, 0, none⟩ = some (.slice (some ⟨fb, 0, none⟩) f.length fc)
  m1 : W.cell? ⟨q, 1, none⟩ = some (.slice (some ⟨eb, 0, none⟩) L.length ec)
  m2 : W.cell? ⟨q, 2, none⟩ = some (.map (some mb))
  a0 : W.cell? ⟨q + 1, 0, none⟩ = some (.int .i64 n)
  a1 : W.cell? ⟨q + 1, 1, none⟩ = some (.int .i64 i)
def aO (n i : Nat) : Obj := .cells #[.int .i64 n, .int .i64 i] 76
theorem BoxA.new (w : World) (f : List Nd) (L : List Evt) (fb fc eb ec mb n i : Nat) : BoxA ((w.alloc (mO f L fb fc eb ec mb)).alloc (aO n i)) w.heap.size f L fb fc eb ec mb n i := by
  unfold mO aO
  have e : w.heap.size + 1 = (w.alloc (.cells #[.slice (some ⟨fb, 0, none⟩) f.length fc, .slice (some ⟨eb, 0, none⟩) L.length ec, .map (some mb)] 57)).heap.size := by simp
  refine ⟨by simp, by simp; omega, by simp [go_sem], by simp [go_sem], by simp [go_sem], ?_, ?_⟩
  all_goals
    rw [e]
    simp [go_sem]
theorem BoxA.save {W W' : World} {q : Nat} {f : List Nd} {L : List Evt} {fb fc eb ec mb n i : Nat} {S : Nat → Prop} (h : BoxA W q f L fb fc eb ec mb n i) (hs : Save W W' S) (h1 : ¬ S q) (h2 : ¬ S (q + 1)) : BoxA W' q f L fb fc eb ec mb n i :=
  ⟨Nat.lt_of_lt_of_le h.lt hs.size, Nat.lt_of_lt_of_le h.lt0 hs.size, (hs.cell (p := ⟨q, _, none⟩) h.lt0 h1).trans h.m0, (hs.cell (p := ⟨q, _, none⟩) h.lt0 h1).trans h.m1, (hs.cell (p := ⟨q, _, none⟩) h.lt0 h1).trans h.m2,
   (hs.cell (p := ⟨q + 1, _, none⟩) h.lt h2).trans h.a0, (hs.cell (p := ⟨q + 1, _, none⟩) h.lt h2).trans h.a1⟩
/-- Behind the first store. -/
theorem St.first {w0 : World} {f : List Nd} {L : List Evt} {fb eb mb : Nat} {w W W1 : World} {K : Nat → Nat → Int} {c n i : Nat} (X : Ctx w0 f L fb eb mb) (h : St w0 f L mb w K c (n + 1)) (hb : Below w.heap.size w W) (hm : KM W1 mb (c + 1) (putK K n i 1)) (hs : Save W W1 (fun b => b = mb)) (hn : n < 24) (hi : i < 60) (h0 : K n i = 0) : St w0 f L mb W1.drew (putK K n i 1) (c + 1) n := by
  refine ⟨?_, hm, ?_, fun m j hmn hj => ?_⟩
  · have h1 := (h.bel.trans (hb.mono h.bel.size)).trans (hs.below (B := w0.heap.size) (Nat.le_trans h.bel.size hb.size) (fun j e => by have := X.hmb; omega))
    exact ⟨h1.os, h1.tape, h1.output, h1.size, h1.block⟩
  · rw [cntK_new K n i 1 hn hi h0 (by omega)]
    have := h.cnt
    omega
  · unfold putK
    rw [if_neg (by omega)]
    exact h.good m j (by omega) hj
/-- Behind it all, where it is not so. -/
theorem Aft.not {f : List Nd} {L : List Evt} {mb : Nat} {w W W1 w2 : World} {K K2 : Nat → Nat → Int} {c c2 n i : Nat} (g : GoodTo f L K (n + 1)) (hb : Below w.heap.size w W) (hmb : mb < w.heap.size) (hs : Save W W1 (fun b => b = mb)) (a : Aft f L mb W1.drew w2 (putK K n i 1) (c + 1) K2 c2 n) (hn : n < 24) (hi : i < 60) (h0 : K n i = 0) (hv0 : hv f L n i = false) : Aft f L mb w w2 K c K2 c2 (n + 1) := by
  have hsv : Save w w2 (fun b => b = mb) := by
    have h1 : Save w W (fun b => b = mb) := Save.of_below hb _ (fun j h1 h2 => by omega)
    have h2 : Save W1 w2 (fun b => b = mb) := ⟨a.save.os, a.save.tape, a.save.output, a.save.size, a.save.block⟩
    exact (h1.trans hs).trans h2
  refine ⟨a.map, fun m j hm hj => ?_, fun m j hm => ?_, ?_, hsv⟩
  · by_cases e : m < n
    · exact a.good m j e hj
    · have em : m = n := by omega
      subst em
      rw [a.keep m j (Nat.le_refl _)]
      unfold putK
      by_cases ej : j = i
      · subst ej; rw [if_pos ⟨rfl, rfl⟩, hv0]; exact Or.inr rfl
      · rw [if_neg (fun h => ej h.2)]; exact g m j (by omega) hj
  · rw [a.keep m j (by omega)]
    unfold putK
    rw [if_neg (by omega)]
  · have h1 := a.grow
    rw [cntK_new K n i 1 hn hi h0 (by omega)] at h1
    omega
/-- Where it is so. -/
theorem Aft.yes {f : List Nd} {L : List Evt} {mb : Nat} {w W W1 w2 w3 : World} {K K2 : Nat → Nat → Int} {c c2 n i : Nat} (g : GoodTo f L K (n + 1)) (hb : Below w.heap.size w W) (hmb : mb < w.heap.size) (hs : Save W W1 (fun b => b = mb)) (a : Aft f L mb W1.drew w2 (putK K n i 1) (c + 1) K2 c2 n) (hn : n < 24) (hi : i < 60) (h0 : K n i = 0) (hv0 : hv f L n i = true) (hm : KM w3 mb (c2 + 1) (putK K2 n i 2)) (hs3 : Save w2 w3 (fun b => b = mb)) : Aft f L mb w w3 K c (putK K2 n i 2) (c2 + 1) (n + 1) := by
  have hsv : Save w w2 (fun b => b = mb) := by
    have h1 : Save w W (fun b => b = mb) := Save.of_below hb _ (fun j h1 h2 => by omega)
    have h2 : Save W1 w2 (fun b => b = mb) := ⟨a.save.os, a.save.tape, a.save.output, a.save.size, a.save.block⟩
    exact (h1.trans hs).trans h2
  have hk2 : K2 n i = 1 := by
    rw [a.keep n i (Nat.le_refl _)]
    unfold putK
    rw [if_pos ⟨rfl, rfl⟩]
  refine ⟨hm, fun m j hm hj => ?_, fun m j hm => ?_, ?_, hsv.trans hs3⟩
  · unfold putK
    by_cases e2 : m = n ∧ j = i
    · obtain ⟨rfl, rfl⟩ := e2
      rw [if_pos ⟨rfl, rfl⟩, hv0]; exact Or.inr rfl
    · rw [if_neg e2]
      by_cases e : m < n
      · exact a.good m j e hj
      · have em : m = n := by omega
        subst em
        rw [a.keep m j (Nat.le_refl _)]
        unfold putK
        rw [if_neg (fun h => e2 h)]
        exact g m j (by omega) hj
  · unfold putK
    rw [if_neg (by omega), a.keep m j (by omega)]
    unfold putK
    rw [if_neg (by omega)]
  · have h1 := a.grow
    rw [cntK_new K n i 1 hn hi h0 (by omega)] at h1
    rw [cntK_old K2 n i 2 hi (by rw [hk2]; omega) (by omega)]
    omega
set_option maxRecDepth 20000 in
set_option maxHeartbeats 4000000 in
theorem holds_step {w0 : World} {f : List Nd} {L : List Evt} {fb fc eb ec mb n : Nat} (X : Ctx w0 f L fb eb mb) (hn : n < f.length) (HL : LookC w0 f L fb fc eb ec mb n) : HoldsC w0 f L fb fc eb ec mb n := by
  intro i K c w hi h
  obtain ⟨hf1, hf2, _⟩ := rightB_parts f X.hf
  obtain ⟨hl60, _⟩ := trB_times X.hl
  have hn24 : n < 24 := by omega
  have hi60 : i < 60 := by omega
  have hq := h.map.lt
  have HBW := hid (below_boxes w (mO f L fb fc eb ec mb) (aO n i))
  have HBX := hid (BoxA.new w f L fb fc eb ec mb n i)
  have HM := hid (h.map.below HBW.out)
  have hlook := HM.out.look hn24 hi60
  have HS := hid h
  have HX := hid X
  have HLk := hid HL
  have HG := hid h.good
  have hc : c < 10000 := by have := h.cnt; have := cntK_le K; omega
  clear h X HL
  unfold mO aO at HBW HBX HM hlook
  unfold mV
  by_cases h0 : K n i = 0
  · rw [h0] at hlook
    obtain ⟨W1, hupd, hM1, hs1⟩ := HM.out.put hn24 hi60 hc 1 (by omega)
    have HM1 := hid hM1
    have HS1 := hid hs1
    have hz1 := hs1.size
    have HX1 := hid (HBX.out.save hs1 (by omega) (by omega))
    have HSt := hid (HS.out.first HX.out HBW.out hM1 hs1 hn24 hi60 h0)
    have HK0 := hid h0
    clear hM1 hs1 h0
    obtain ⟨ulq, ulq0, m0, m1, m2, a0, a1⟩ := HX1.out
    obtain ⟨c0, c1, c2, c3, c4, c5⟩ := (HSt.out.min HX.out).nodes.2 n hn
    rcases (Bool.eq_false_or_eq_true (hv f L n i)).symm with hh | hh
    · have HV := hid hh
      clear hh
      go_enter Tryd.func29, Tryd.ntmps29
      go_wp2_with fail
      go_region_with (go_at_call 43; refine (HLk.out i _ _ _ hi HSt.out).mono ?_; rintro e w2 ⟨he, K2, cc2, hA⟩; rw [HV.out] at he; subst he; have HA := hid (Aft.not HG.out HBW.out hq HS1.out hA hn24 hi60 HK0.out HV.out); have hk2 : K2 n i = 1 := (by rw [hA.keep n i (Nat.le_refl _)]; unfold putK; rw [if_pos ⟨rfl, rfl⟩]); have hl2 := hA.map.look hn24 hi60; rw [hk2] at hl2; obtain ⟨vlq, vlq0, r0, r1, r2, t0, t1⟩ := HX1.out.save (W' := w2) (S := fun b => b = mb) ⟨hA.save.os, hA.save.tape, hA.save.output, hA.save.size, hA.save.block⟩ (by omega) (by omega); clear hA hk2)
      all_goals
        go_wp2_with fail
        go_ret
        exact ⟨ret_bool (by rw [HV.out]), K2, cc2, HA.out⟩
    · have HV := hid hh
      clear hh
      go_enter Tryd.func29, Tryd.ntmps29
      go_wp2_with fail
      go_region_with (go_at_call 43; refine (HLk.out i _ _ _ hi HSt.out).mono ?_; rintro e w2 ⟨he, K2, cc2, hA⟩; rw [HV.out] at he; subst he; have hcc : cc2 < 10000 := (by have q1 := hA.grow; have q2 := cntK_le K2; have q3 := HSt.out.cnt; omega); obtain ⟨w3, hu3, hM3, hs3⟩ := hA.map.put hn24 hi60 hcc 2 (by omega); have HA := hid (Aft.yes HG.out HBW.out hq HS1.out hA hn24 hi60 HK0.out HV.out hM3 hs3); have hl3 := hM3.look hn24 hi60; rw [(by unfold putK; rw [if_pos ⟨rfl, rfl⟩] : putK K2 n i 2 n i = 2)] at hl3; have hX2 := HX1.out.save (W' := w2) (S := fun b => b = mb) ⟨hA.save.os, hA.save.tape, hA.save.output, hA.save.size, hA.save.block⟩ (by omega) (by omega); have hX3 := hX2.save hs3 (by omega) (by omega); obtain ⟨vlq, vlq0, r0, r1, r2, t0, t1⟩ := hX2; obtain ⟨xlq, xlq0, p0, p1, p2, o0, o1⟩ := hX3; clear hA hM3 hs3 hcc)
      all_goals
        go_wp2_with fail
        go_ret
        exact ⟨ret_bool (by rw [HV.out]), _, _, HA.out⟩
  · have HAft := hid (HS.out.below HBW.out)
    have hgd := (HG.out n i (by omega) hi60).resolve_left h0
    rw [hgd] at hlook
    clear h0 hgd
    rcases (Bool.eq_false_or_eq_true (hv f L n i)).symm with hh | hh
    · have HV := hid hh
      rw [hh] at hlook
      simp only [Bool.false_eq_true, if_false] at hlook
      clear hh
      go_enter Tryd.func29, Tryd.ntmps29
      go_wp2_with fail
      go_ret
      exact ⟨ret_bool (by rw [HV.out]), K, c, HAft.out⟩
    · have HV := hid hh
      rw [hh] at hlook
      simp only [if_true] at hlook
      clear hh
      go_enter Tryd.func29, Tryd.ntmps29
      go_wp2_with fail
      go_ret
      exact ⟨ret_bool (by rw [HV.out]), K, c, HAft.out⟩
theorem holds_all {w0 : World} {f : List Nd} {L : List Evt} {fb fc eb ec mb : Nat} (X : Ctx w0 f L fb eb mb) : ∀ n, n < f.length → HoldsC w0 f L fb fc eb ec mb n := by
  intro n
  induction n using Nat.strongRecOn with
  | _ n ih =>
    intro hn
    exact holds_step X hn (look_any X hn (fun p hp => ih p hp (by omega)))
end Go.Proofs.YtnbegpplbjppoaaDoor
namespace Go.Proofs.YtnbegpplbjppoaaDoor
open Go.RowKit
set_option linter.unusedVariables false
set_option linter.unusedSimpArgs false
set_option maxRecDepth 20000 in
set_option maxHeartbeats 1000000 in
theorem newMeaning_any (f : List Nd) (L : List Evt) (fb fc eb ec : Nat) (w : World) :
    Calls Tryd.prog 27 #[.slice (some ⟨fb, 0, none⟩) f.length fc, .slice (some ⟨eb, 0, none⟩) L.length ec] w fun e w' => ∃ mb, e = .returned (mV f L fb fc eb ec mb) ∧ w.heap.size ≤ mb ∧ KM w' mb 0 (fun _ _ => 0) ∧ Below w.heap.size w w' := by
  have hmm := @run_makeMap Tryd.prog
  go_enter Tryd.func27, Tryd.ntmps27
  go_wp2
  refine bodyPost_ret (v := mV f L fb fc eb ec (w.heap.size + 1)) (by simp [results, Tryd.results27, go_sem, mV]) rfl ⟨w.heap.size + 1, rfl, by omega, ?_, ?_⟩
  · have := KM.made (w.alloc (.cells #[.slice (some ⟨fb, 0, none⟩) f.length fc, .slice (some ⟨eb, 0, none⟩) L.length ec, .map (some (w.heap.size + 1))] 57))
    simpa using this
  · exact below_boxes w _ _
theorem implRight_is (f : List Nd) (v : Bool) (hv : rightB f = v) (b cap : Nat) (w : World) (hN : NodesAt w b f) (hok : ∀ i, i < f.length → ndOk (ndAt f i)) (hlen : f.length ≤ maxLen) (hkw : Kw w) (hg : 1 < w.heap.size) :
    Calls Tryd.prog 25 #[.slice (some ⟨b, 0, none⟩) f.length cap] w fun e w' => e = .returned (.bool v) ∧ Below w.heap.size w w' := by
  subst hv
  exact implRight_any f b cap w hN hok hlen hkw hg
theorem implTrace_is (E : List Evt) (v : Bool) (hv : trB E = v) (b c : Nat) (hs : ∀ i, i < E.length → EvOk (evAt E i)) (hl : E.length ≤ maxLen) (w : World) (hA : EvsAt w b E) (hkw : Kw w) (hg : 1 < w.heap.size) :
    Calls Tryd.prog 26 #[.slice (some ⟨b, 0, none⟩) E.length c] w fun e w' => e = .returned (.bool v) ∧ Below w.heap.size w w' := by
  subst hv
  exact implTrace_any E _ rfl _ c hs hl w hA.es hkw hg
/-- A meaning that has just been made. -/
theorem St.made {w0 w1 : World} {f : List Nd} {L : List Evt} {mb : Nat} (hb : Below w0.heap.size w0 w1) (hm : KM w1 mb 0 (fun _ _ => 0)) (n : Nat) : St w0 f L mb w1 (fun _ _ => 0) 0 n :=
  ⟨hb, hm, Nat.zero_le _, fun m j _ _ => Or.inl rfl⟩
theorem mg_below (w : World) (o : Obj) : Below w.heap.size w (w.alloc o) := (Below.refl w.heap.size w).alloc (Nat.le_refl _) o
/-- The box of a meaning. -/
structure MgBox (W : World) (q : Nat) (f : List Nd) (L : List Evt) (fb fc eb ec mb : Nat) : Prop where
  lt : q < W.heap.size
  m0 : W.cell? ⟨q, 0, none⟩ = some (.slice (some ⟨fb, 0, none⟩) f.length fc)
  m1 : W.cell? ⟨q, 1, none⟩ = some (.slice (some ⟨eb, 0, none⟩) L.length ec)
  m2 : W.cell? ⟨q, 2, none⟩ = some (.map (some mb))
theorem MgBox.new (w : World) (f : List Nd) (L : List Evt) (fb fc eb ec mb : Nat) : MgBox (w.alloc (.cells #[.slice (some ⟨fb, 0, none⟩) f.length fc, .slice (some ⟨eb, 0, none⟩) L.length ec, .map (some mb)] 57)) w.heap.size f L fb fc eb ec mb :=
  ⟨by simp, by simp [go_sem], by simp [go_sem], by simp [go_sem]⟩
theorem MgBox.save {W W' : World} {q : Nat} {f : List Nd} {L : List Evt} {fb fc eb ec mb : Nat} {S : Nat → Prop} (h : MgBox W q f L fb fc eb ec mb) (hs : Save W W' S) (h1 : ¬ S q) : MgBox W' q f L fb fc eb ec mb :=
  ⟨Nat.lt_of_lt_of_le h.lt hs.size, (hs.cell (p := ⟨q, _, none⟩) h.lt h1).trans h.m0, (hs.cell (p := ⟨q, _, none⟩) h.lt h1).trans h.m1, (hs.cell (p := ⟨q, _, none⟩) h.lt h1).trans h.m2⟩
theorem MgBox.on {W W' : World} {q : Nat} {f : List Nd} {L : List Evt} {fb fc eb ec mb : Nat} (h : MgBox W q f L fb fc eb ec mb) (hb : Below W.heap.size W W') : MgBox W' q f L fb fc eb ec mb :=
  h.save (S := fun _ => False) (Save.of_below hb _ (fun j h1 h2 => absurd h1 (by omega))) (fun h => h)
set_option maxRecDepth 20000 in
set_option maxHeartbeats 2000000 in
theorem has_any (f : List Nd) (L : List Evt) (fb fc eb ec mb : Nat) (node i : Int) (v : Bool) (hv : (inLen node f.length && inLen i L.length) = v) (hf : f.length ≤ 1048576) (hl : L.length ≤ 1048576) (w : World) :
    Calls Tryd.prog 28 #[.agg #[.slice (some ⟨fb, 0, none⟩) f.length fc, .slice (some ⟨eb, 0, none⟩) L.length ec, .map (some mb)], .int .i64 node, .int .i64 i] w fun e w' => e = .returned (.bool v) ∧ Below w.heap.size w w' := by
  have HB := hid (mg_below w (.cells #[.slice (some ⟨fb, 0, none⟩) f.length fc, .slice (some ⟨eb, 0, none⟩) L.length ec, .map (some mb)] 57))
  have hv' : (decide (0 ≤ node ∧ node ≤ (f.length : Int) - 1) && decide (0 ≤ i ∧ i ≤ (L.length : Int) - 1)) = v := hv
  by_cases h1 : 0 ≤ node
  · by_cases h2 : node < (f.length : Int)
    · by_cases h3 : 0 ≤ i
      · by_cases h4 : i < (L.length : Int)
        · have hV : Hid (true = v) := hid (by rw [← hv']; symm; simp; omega)
          clear hv hv'
          go_enter Tryd.func28, Tryd.ntmps28
          go_wp2_with fail
          go_ret
          exact ⟨ret_bool hV.out, HB.out⟩
        · have hV : Hid (false = v) := hid (by rw [← hv']; symm; simp; omega)
          clear hv hv'
          go_enter Tryd.func28, Tryd.ntmps28
          go_wp2_with fail
          go_ret
          exact ⟨ret_bool hV.out, HB.out⟩
      · have hV : Hid (false = v) := hid (by rw [← hv']; symm; simp; omega)
        clear hv hv'
        go_enter Tryd.func28, Tryd.ntmps28
        go_wp2_with fail
        go_ret
        exact ⟨ret_bool hV.out, HB.out⟩
    · have hV : Hid (false = v) := hid (by rw [← hv']; symm; simp; omega)
      clear hv hv'
      go_enter Tryd.func28, Tryd.ntmps28
      go_wp2_with fail
      go_ret
      exact ⟨ret_bool hV.out, HB.out⟩
  · have hV : Hid (false = v) := hid (by rw [← hv']; symm; simp; omega)
    clear hv hv'
    go_enter Tryd.func28, Tryd.ntmps28
    go_wp2_with fail
    go_ret
    exact ⟨ret_bool hV.out, HB.out⟩
set_option maxRecDepth 20000 in
set_option maxHeartbeats 4000000 in
theorem implHoldsAt_any (f : List Nd) (L : List Evt) (node i : Int) (fb eb fc ec : Nat) (w : World) (h : MeanIn w f L fb eb) (hkw : Kw w) (hg : 1 < w.heap.size) :
    Calls Tryd.prog 14 #[.slice (some ⟨fb, 0, none⟩) f.length fc, .int .i64 node, .slice (some ⟨eb, 0, none⟩) L.length ec, .int .i64 i] w fun e w' => e = .returned (.bool (haB f L node i)) ∧ Below w.heap.size w w' := by
  have H := hid h
  have HK := hid hkw
  have hfl := h.fl
  have hll := h.ll
  have hm1 : f.length ≤ maxLen := by unfold maxLen; omega
  have hm2 : L.length ≤ maxLen := by unfold maxLen; omega
  have HM1 := hid hm1
  have HM2 := hid hm2
  clear h hkw hm1 hm2
  rcases (Bool.eq_false_or_eq_true (rightB f)).symm with hr | hr
  · have HV : Hid (haB f L node i = false) := by show haB f L node i = _; simp [haB, hr]
    have HR := hid hr
    clear hr
    go_enter Tryd.func14, Tryd.ntmps14
    go_wp2_with ((go_at_call 25; refine (implRight_is f false HR.out fb fc _ H.out.nodes H.out.fok HM1.out HK.out hg).mono ?_; rintro e w1 ⟨rfl, hb1⟩; have HB1 := hid hb1; have HM := hid (H.out.below hb1); have hg1 := Nat.lt_of_lt_of_le hg hb1.size; clear hb1))
    go_ret
    exact ⟨ret_bool HV.out.symm, HB1.out⟩
  have HR := hid hr
  clear hr
  rcases (Bool.eq_false_or_eq_true (trB L)).symm with ht | ht
  · have HV : Hid (haB f L node i = false) := by show haB f L node i = _; simp [haB, ht]
    have HT := hid ht
    clear ht
    go_enter Tryd.func14, Tryd.ntmps14
    go_wp2_with (first | ((go_at_call 25; refine (implRight_is f true HR.out fb fc _ H.out.nodes H.out.fok HM1.out HK.out hg).mono ?_; rintro e w1 ⟨rfl, hb1⟩; have HB1 := hid hb1; have HM := hid (H.out.below hb1); have hg1 := Nat.lt_of_lt_of_le hg hb1.size; clear hb1)) | ((go_at_call 26; refine (implTrace_is L false HT.out eb ec H.out.lok HM2.out _ HM.out.evs (HK.out.below HB1.out hg) hg1).mono ?_; rintro e w2 ⟨rfl, hb2⟩; have HB2 := hid (HB1.out.trans (hb2.mono HB1.out.size)); have HMM := hid (HM.out.below hb2); have hz2 := HB2.out.size; clear hb2)))
    go_ret
    exact ⟨ret_bool HV.out.symm, HB2.out⟩
  have HT := hid ht
  clear ht
  have HN := hid (fun mb v hv w => has_any f L fb fc eb ec mb node i v hv hfl hll w)
  rcases (Bool.eq_false_or_eq_true (inLen node f.length && inLen i L.length)).symm with hn | hn
  · have HV : Hid (haB f L node i = false) := by
      show haB f L node i = _
      unfold haB
      rw [← Bool.and_assoc (inLen node f.length), hn]
      simp
    have HN1 := hid hn
    clear hn
    go_enter Tryd.func14, Tryd.ntmps14
    go_wp2_with (first | ((go_at_call 25; refine (implRight_is f true HR.out fb fc _ H.out.nodes H.out.fok HM1.out HK.out hg).mono ?_; rintro e w1 ⟨rfl, hb1⟩; have HB1 := hid hb1; have HM := hid (H.out.below hb1); have hg1 := Nat.lt_of_lt_of_le hg hb1.size; clear hb1)) | ((go_at_call 26; refine (implTrace_is L true HT.out eb ec H.out.lok HM2.out _ HM.out.evs (HK.out.below HB1.out hg) hg1).mono ?_; rintro e w2 ⟨rfl, hb2⟩; have HB2 := hid (HB1.out.trans (hb2.mono HB1.out.size)); have HMM := hid (HM.out.below hb2); have hz2 := HB2.out.size; clear hb2)) | ((go_at_call 27; refine (newMeaning_any f L fb fc eb ec _).mono ?_; rintro e w3 ⟨mb, rfl, hmb, hKM, hb3⟩; have HC := hid (Ctx.mk HMM.out HR.out HT.out hmb : Ctx w2 f L fb eb mb); have HKM := hid hKM; have HB3 := hid hb3; have hml := hKM.lt; have hz3 := hb3.size; unfold mV; clear hKM hb3)))
    have HX0 := hid (MgBox.new w3 f L fb fc eb ec mb)
    have HBX := hid (HB3.out.trans ((mg_below w3 (.cells #[.slice (some ⟨fb, 0, none⟩) f.length fc, .slice (some ⟨eb, 0, none⟩) L.length ec, .map (some mb)] 57)).mono hz3))
    have hzW : w2.heap.size ≤ (w3.alloc (.cells #[.slice (some ⟨fb, 0, none⟩) f.length fc, .slice (some ⟨eb, 0, none⟩) L.length ec, .map (some mb)] 57)).heap.size := HBX.out.size
    obtain ⟨xl, m0, m1, m2⟩ := HX0.out
    generalize w3.alloc (.cells #[.slice (some ⟨fb, 0, none⟩) f.length fc, .slice (some ⟨eb, 0, none⟩) L.length ec, .map (some mb)] 57) = W at *
    go_wp2_with (go_at_call 28; refine (HN.out mb false HN1.out _).mono ?_; rintro e w4 ⟨rfl, hb4⟩; have HB4 := hid (HB2.out.trans ((HBX.out.trans (hb4.mono hzW)).mono hz2)); clear hb4)
    go_ret
    exact ⟨ret_bool HV.out.symm, HB4.out⟩
  have hn' := hn
  rw [Bool.and_eq_true] at hn'
  obtain ⟨p, rfl, hp⟩ := inLen_nat hn'.1
  obtain ⟨q, rfl, hq⟩ := inLen_nat hn'.2
  have HV : Hid (haB f L p q = hv f L p q) := by show haB f L p q = _; simp [haB, HR.out, HT.out, hn'.1, hn'.2]
  have HN1 := hid hn
  clear hn hn'
  go_enter Tryd.func14, Tryd.ntmps14
  go_wp2_with (first | ((go_at_call 25; refine (implRight_is f true HR.out fb fc _ H.out.nodes H.out.fok HM1.out HK.out hg).mono ?_; rintro e w1 ⟨rfl, hb1⟩; have HB1 := hid hb1; have HM := hid (H.out.below hb1); have hg1 := Nat.lt_of_lt_of_le hg hb1.size; clear hb1)) | ((go_at_call 26; refine (implTrace_is L true HT.out eb ec H.out.lok HM2.out _ HM.out.evs (HK.out.below HB1.out hg) hg1).mono ?_; rintro e w2 ⟨rfl, hb2⟩; have HB2 := hid (HB1.out.trans (hb2.mono HB1.out.size)); have HMM := hid (HM.out.below hb2); have hz2 := HB2.out.size; clear hb2)) | ((go_at_call 27; refine (newMeaning_any f L fb fc eb ec _).mono ?_; rintro e w3 ⟨mb, rfl, hmb, hKM, hb3⟩; have HC := hid (Ctx.mk HMM.out HR.out HT.out hmb : Ctx w2 f L fb eb mb); have HKM := hid hKM; have HB3 := hid hb3; have hml := hKM.lt; have hz3 := hb3.size; unfold mV; clear hKM hb3)))
  have HX0 := hid (MgBox.new w3 f L fb fc eb ec mb)
  have HBX := hid (HB3.out.trans ((mg_below w3 (.cells #[.slice (some ⟨fb, 0, none⟩) f.length fc, .slice (some ⟨eb, 0, none⟩) L.length ec, .map (some mb)] 57)).mono hz3))
  have HKX := hid (HKM.out.below (mg_below w3 (.cells #[.slice (some ⟨fb, 0, none⟩) f.length fc, .slice (some ⟨eb, 0, none⟩) L.length ec, .map (some mb)] 57)))
  have hzW : w2.heap.size ≤ (w3.alloc (.cells #[.slice (some ⟨fb, 0, none⟩) f.length fc, .slice (some ⟨eb, 0, none⟩) L.length ec, .map (some mb)] 57)).heap.size := HBX.out.size
  obtain ⟨xl, m0, m1, m2⟩ := HX0.out
  generalize w3.alloc (.cells #[.slice (some ⟨fb, 0, none⟩) f.length fc, .slice (some ⟨eb, 0, none⟩) L.length ec, .map (some mb)] 57) = W at *
  go_wp2_with (first | (go_at_call 28; refine (HN.out mb true HN1.out _).mono ?_; rintro e w4 ⟨rfl, hb4⟩; have HB4 := hid (HBX.out.trans (hb4.mono hzW)); have HK4 := hid (HKX.out.below hb4); have hz4 := Nat.le_trans hzW hb4.size; obtain ⟨xl4, n0, n1, n2⟩ := HX0.out.on hb4; clear hb4 xl m0 m1 m2) | (go_at_call 29; refine (holds_all HC.out p hp q _ _ _ hq (St.made HB4.out HK4.out (p + 1))).mono ?_; rintro e w5 ⟨rfl, K5, c5, hA⟩; have HB5 : Hid (Below w.heap.size w w5) := (HB2.out.trans (HB4.out.mono hz2)).trans (hA.save.below (B := w.heap.size) (Nat.le_trans hz2 hz4) (fun j e => (by omega))); clear hA))
  go_ret
  exact ⟨ret_bool HV.out.symm, HB5.out⟩
set_option maxRecDepth 20000 in
set_option maxHeartbeats 2000000 in
theorem implHolds_any (f : List Nd) (L : List Evt) (i : Int) (fb eb fc ec : Nat) (w : World) (h : MeanIn w f L fb eb) (hkw : Kw w) (hg : 1 < w.heap.size) :
    Calls Tryd.prog 10 #[.slice (some ⟨fb, 0, none⟩) f.length fc, .slice (some ⟨eb, 0, none⟩) L.length ec, .int .i64 i] w fun e w' => e = .returned (.bool (haB f L ((f.length : Int) - 1) i)) ∧ Below w.heap.size w w' := by
  have H := hid h
  have HK := hid hkw
  have hfl := h.fl
  clear h hkw
  go_enter Tryd.func10, Tryd.ntmps10
  go_wp2_with (go_at_call 14; refine (implHoldsAt_any f L ((f.length : Int) - 1) i fb eb fc ec _ H.out HK.out hg).mono ?_; rintro e w1 ⟨rfl, hb1⟩; have HB1 := hid hb1; clear hb1)
  go_ret
  exact ⟨rfl, HB1.out⟩
end Go.Proofs.YtnbegpplbjppoaaDoor
namespace Go.Proofs.YtnbegpplbjppoaaDoor
open Go.RowKit
set_option linter.unusedVariables false
set_option linter.unusedSimpArgs false
set_option maxRecDepth 20000 in
set_option maxHeartbeats 4000000 in
theorem walkHoldsAt (a : Option Addr) (cap : Nat) (f : List Nd) (a2 : Option Addr) (cap2 : Nat) (L : List Evt) (node i : Int) (w : World) (hI : InN w a cap f) (hJ : InEs w a2 L) (hkw : Kw w) (hg : 1 < w.heap.size) :
    Calls Tryd.prog 4 #[.slice a f.length cap, .int .i64 node, .slice a2 L.length cap2, .int .i64 i] w fun e w' => e = .returned (.bool true) ∧ Below w.heap.size w w' := by
  have HI := hid hI
  have HJ := hid hJ
  have HK := hid hkw
  clear hI hJ hkw
  go_enter Tryd.func4, Tryd.ntmps4
  go_wp2_with fail
  refine (szNodeS_le f a cap (fun i hi => (HI.out.ok i hi).nm) HI.out.len _ HI.out.arg).mono ?_
  rintro e w1 ⟨r, rfl, hr1, hr, hb1⟩
  have HB1 := hid hb1
  have hz1 := hb1.size
  by_cases hr0 : r < 0
  · clear hb1 hr
    go_wp2_with fail
    go_ret
    exact ⟨rfl, HB1.out⟩
  obtain ⟨hl, _⟩ := hr (by omega)
  clear hb1 hr
  go_wp2_with fail
  refine (szEventS_any L a2 cap2 HJ.out.ok HJ.out.len r (by omega) hr1 _ (HJ.out.arg.below HB1.out (Nat.le_refl _))).mono ?_
  rintro e w2 ⟨s, rfl, q1, q2, hs, hb2⟩
  have HB2 := hid (HB1.out.trans (hb2.mono hz1))
  have hz2 := hb2.size
  by_cases hs0 : s < 0
  · clear hb2 hs
    go_wp2_with fail
    go_ret
    exact ⟨rfl, HB2.out⟩
  obtain ⟨hl2, hl3, _⟩ := hs (by omega)
  have HL3 := hid hl3
  clear hb2 hs hl3
  go_wp2_with fail
  refine (toNodeS_any f a cap hl _ (HI.out.arg.below HB2.out (Nat.le_refl _))).mono ?_
  rintro e w3 ⟨b3, rfl, hb3, hn3, hf3, hbl3⟩
  have HB3 := hid (HB2.out.trans (hbl3.mono (by omega)))
  have hz3 := hbl3.size
  have HN3 := hid hn3
  clear hn3 hf3 hbl3
  go_wp2_with fail
  refine (toEventS_any L a2 cap2 hl2 HL3.out _ (HJ.out.arg.below HB3.out (Nat.le_refl _))).mono ?_
  rintro e w4 ⟨b4, A4, z4, rfl, hb4, hR4, hbl4⟩
  have HB4 := hid (HB3.out.trans (hbl4.mono (by omega)))
  have hz4 := hbl4.size
  have HM4 := hid (MeanIn.mk (HN3.out.below hbl4 HN3.out.1) hR4.at HI.out.ok HJ.out.ok hl hl2 : MeanIn w4 f L b3 b4)
  clear hR4 hbl4
  go_wp2_with fail
  refine (specHoldsAt_any f L node i b3 b4 f.length L.length _ HM4.out).mono ?_
  rintro e w5 ⟨rfl, hbl5⟩
  have HB5 := hid (HB4.out.trans (hbl5.mono (by omega)))
  have hz5 := hbl5.size
  clear hbl5
  go_wp2_with fail
  refine (toNodeS_any f a cap hl _ (HI.out.arg.below HB5.out (Nat.le_refl _))).mono ?_
  rintro e w6 ⟨b6, rfl, hb6, hn6, hf6, hbl6⟩
  have HB6 := hid (HB5.out.trans (hbl6.mono (by omega)))
  have hz6 := hbl6.size
  have HN6 := hid hn6
  clear hn6 hf6 hbl6
  go_wp2_with fail
  refine (toEventS_any L a2 cap2 hl2 HL3.out _ (HJ.out.arg.below HB6.out (Nat.le_refl _))).mono ?_
  rintro e w7 ⟨b7, A7, z7, rfl, hb7, hR7, hbl7⟩
  have HB7 := hid (HB6.out.trans (hbl7.mono (by omega)))
  have hz7 := hbl7.size
  have HM7 := hid (MeanIn.mk (HN6.out.below hbl7 HN6.out.1) hR7.at HI.out.ok HJ.out.ok hl hl2 : MeanIn w7 f L b6 b7)
  clear hR7 hbl7
  go_wp2_with fail
  refine (implHoldsAt_any f L node i b6 b7 f.length L.length _ HM7.out (HK.out.below HB7.out hg) (by omega)).mono ?_
  rintro e w8 ⟨rfl, hbl8⟩
  have HB8 := hid (HB7.out.trans (hbl8.mono (by omega)))
  have hz8 := hbl8.size
  have HM8 := hid (HM7.out.below hbl8)
  clear hbl8
  have hx : (haB f L node i != haB f L node i) = false := by simp
  go_wp2_with fail
  refine (toNodeS_any f a cap hl _ (HI.out.arg.below HB8.out (Nat.le_refl _))).mono ?_
  rintro e w9 ⟨b9, rfl, hb9, hn9, hf9, hbl9⟩
  have HB9 := hid (HB8.out.trans (hbl9.mono (by omega)))
  have hz9 := hbl9.size
  have HN9 := hid hn9
  have HM9 := hid (HM8.out.below hbl9)
  clear hn9 hf9 hbl9
  go_wp2_with fail
  refine (eqNodeS_same f b6 b9 f.length f.length hl _ HM9.out.nodes HN9.out).mono ?_
  rintro e w10 ⟨rfl, hbl10⟩
  have HB10 := hid (HB9.out.trans (hbl10.mono (by omega)))
  have hz10 := hbl10.size
  have HM10 := hid (HM9.out.below hbl10)
  clear hbl10
  go_wp2_with fail
  refine (toEventS_any L a2 cap2 hl2 HL3.out _ (HJ.out.arg.below HB10.out (Nat.le_refl _))).mono ?_
  rintro e w11 ⟨b11, A11, z11, rfl, hb11, hR11, hbl11⟩
  have HB11 := hid (HB10.out.trans (hbl11.mono (by omega)))
  have hz11 := hbl11.size
  have HR11 := hid hR11.at.es
  have HM11 := hid (HM10.out.below hbl11)
  clear hR11 hbl11
  go_wp2_with fail
  refine (eqEventS_any L _ rfl _ _ L.length L.length hl2 HL3.out _ HM11.out.evs.es HR11.out).mono ?_
  rintro e w12 ⟨rfl, hbl12⟩
  have HB12 := hid (HB11.out.trans (hbl12.mono (by omega)))
  clear hbl12
  go_wp2_with fail
  go_ret
  exact ⟨rfl, HB12.out⟩
set_option maxRecDepth 20000 in
set_option maxHeartbeats 4000000 in
theorem walkHolds (a : Option Addr) (cap : Nat) (f : List Nd) (a2 : Option Addr) (cap2 : Nat) (L : List Evt) (i : Int) (w : World) (hI : InN w a cap f) (hJ : InEs w a2 L) (hkw : Kw w) (hg : 1 < w.heap.size) :
    Calls Tryd.prog 3 #[.slice a f.length cap, .slice a2 L.length cap2, .int .i64 i] w fun e w' => e = .returned (.bool true) ∧ Below w.heap.size w w' := by
  have HI := hid hI
  have HJ := hid hJ
  have HK := hid hkw
  clear hI hJ hkw
  go_enter Tryd.func3, Tryd.ntmps3
  go_wp2_with fail
  refine (szNodeS_le f a cap (fun i hi => (HI.out.ok i hi).nm) HI.out.len _ HI.out.arg).mono ?_
  rintro e w1 ⟨r, rfl, hr1, hr, hb1⟩
  have HB1 := hid hb1
  have hz1 := hb1.size
  by_cases hr0 : r < 0
  · clear hb1 hr
    go_wp2_with fail
    go_ret
    exact ⟨rfl, HB1.out⟩
  obtain ⟨hl, _⟩ := hr (by omega)
  clear hb1 hr
  go_wp2_with fail
  refine (szEventS_any L a2 cap2 HJ.out.ok HJ.out.len r (by omega) hr1 _ (HJ.out.arg.below HB1.out (Nat.le_refl _))).mono ?_
  rintro e w2 ⟨s, rfl, q1, q2, hs, hb2⟩
  have HB2 := hid (HB1.out.trans (hb2.mono hz1))
  have hz2 := hb2.size
  by_cases hs0 : s < 0
  · clear hb2 hs
    go_wp2_with fail
    go_ret
    exact ⟨rfl, HB2.out⟩
  obtain ⟨hl2, hl3, _⟩ := hs (by omega)
  have HL3 := hid hl3
  clear hb2 hs hl3
  go_wp2_with fail
  refine (toNodeS_any f a cap hl _ (HI.out.arg.below HB2.out (Nat.le_refl _))).mono ?_
  rintro e w3 ⟨b3, rfl, hb3, hn3, hf3, hbl3⟩
  have HB3 := hid (HB2.out.trans (hbl3.mono (by omega)))
  have hz3 := hbl3.size
  have HN3 := hid hn3
  clear hn3 hf3 hbl3
  go_wp2_with fail
  refine (toEventS_any L a2 cap2 hl2 HL3.out _ (HJ.out.arg.below HB3.out (Nat.le_refl _))).mono ?_
  rintro e w4 ⟨b4, A4, z4, rfl, hb4, hR4, hbl4⟩
  have HB4 := hid (HB3.out.trans (hbl4.mono (by omega)))
  have hz4 := hbl4.size
  have HM4 := hid (MeanIn.mk (HN3.out.below hbl4 HN3.out.1) hR4.at HI.out.ok HJ.out.ok hl hl2 : MeanIn w4 f L b3 b4)
  clear hR4 hbl4
  go_wp2_with fail
  refine (specHolds_any f L i b3 b4 f.length L.length _ HM4.out).mono ?_
  rintro e w5 ⟨rfl, hbl5⟩
  have HB5 := hid (HB4.out.trans (hbl5.mono (by omega)))
  have hz5 := hbl5.size
  clear hbl5
  go_wp2_with fail
  refine (toNodeS_any f a cap hl _ (HI.out.arg.below HB5.out (Nat.le_refl _))).mono ?_
  rintro e w6 ⟨b6, rfl, hb6, hn6, hf6, hbl6⟩
  have HB6 := hid (HB5.out.trans (hbl6.mono (by omega)))
  have hz6 := hbl6.size
  have HN6 := hid hn6
  clear hn6 hf6 hbl6
  go_wp2_with fail
  refine (toEventS_any L a2 cap2 hl2 HL3.out _ (HJ.out.arg.below HB6.out (Nat.le_refl _))).mono ?_
  rintro e w7 ⟨b7, A7, z7, rfl, hb7, hR7, hbl7⟩
  have HB7 := hid (HB6.out.trans (hbl7.mono (by omega)))
  have hz7 := hbl7.size
  have HM7 := hid (MeanIn.mk (HN6.out.below hbl7 HN6.out.1) hR7.at HI.out.ok HJ.out.ok hl hl2 : MeanIn w7 f L b6 b7)
  clear hR7 hbl7
  go_wp2_with fail
  refine (implHolds_any f L i b6 b7 f.length L.length _ HM7.out (HK.out.below HB7.out hg) (by omega)).mono ?_
  rintro e w8 ⟨rfl, hbl8⟩
  have HB8 := hid (HB7.out.trans (hbl8.mono (by omega)))
  have hz8 := hbl8.size
  have HM8 := hid (HM7.out.below hbl8)
  clear hbl8
  have hx : (haB f L ((f.length : Int) - 1) i != haB f L ((f.length : Int) - 1) i) = false := by simp
  go_wp2_with fail
  refine (toNodeS_any f a cap hl _ (HI.out.arg.below HB8.out (Nat.le_refl _))).mono ?_
  rintro e w9 ⟨b9, rfl, hb9, hn9, hf9, hbl9⟩
  have HB9 := hid (HB8.out.trans (hbl9.mono (by omega)))
  have hz9 := hbl9.size
  have HN9 := hid hn9
  have HM9 := hid (HM8.out.below hbl9)
  clear hn9 hf9 hbl9
  go_wp2_with fail
  refine (eqNodeS_same f b6 b9 f.length f.length hl _ HM9.out.nodes HN9.out).mono ?_
  rintro e w10 ⟨rfl, hbl10⟩
  have HB10 := hid (HB9.out.trans (hbl10.mono (by omega)))
  have hz10 := hbl10.size
  have HM10 := hid (HM9.out.below hbl10)
  clear hbl10
  go_wp2_with fail
  refine (toEventS_any L a2 cap2 hl2 HL3.out _ (HJ.out.arg.below HB10.out (Nat.le_refl _))).mono ?_
  rintro e w11 ⟨b11, A11, z11, rfl, hb11, hR11, hbl11⟩
  have HB11 := hid (HB10.out.trans (hbl11.mono (by omega)))
  have hz11 := hbl11.size
  have HR11 := hid hR11.at.es
  have HM11 := hid (HM10.out.below hbl11)
  clear hR11 hbl11
  go_wp2_with fail
  refine (eqEventS_any L _ rfl _ _ L.length L.length hl2 HL3.out _ HM11.out.evs.es HR11.out).mono ?_
  rintro e w12 ⟨rfl, hbl12⟩
  have HB12 := hid (HB11.out.trans (hbl12.mono (by omega)))
  clear hbl12
  go_wp2_with fail
  go_ret
  exact ⟨rfl, HB12.out⟩
end Go.Proofs.YtnbegpplbjppoaaDoor
