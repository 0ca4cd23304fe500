/-
  The program's someWithin by its contract.
-/
import Derived.Test.YthjnlcjjhklfpaaDoorMeanK
namespace Go.Proofs.YthjnlcjjhklfpaaDoor
open Go.RowKit
set_option linter.unusedVariables false
set_option linter.unusedSimpArgs false
set_option maxRecDepth 20000 in
set_option maxHeartbeats 4000000 in
theorem some_any {w0 : World} {f : List Nd} {L : List Evt} {fb fc eb ec mb n p : Nat} (X : Ctx w0 f L fb eb mb) (H : HoldsC w0 f L fb fc eb ec mb p) (hp : p < n) (x : Nd) (hx : x.a = p) (i : Nat) (hi : i < L.length) (yes : Bool) {K : Nat → Nat → Int} {c : Nat} {w : World} (h : St w0 f L mb w K c n) :
    Calls Tryd.prog 151 #[mV f L fb fc eb ec mb, ndV x, .int .i64 i, .bool yes] w fun e w' => e = .returned (.bool (onceTo x L i (fun j => hv f L p j == yes) (i + 1))) ∧ ∃ K' c', Aft f L mb w w' K c K' c' n := by
  have HA0 := hid (h.below (below_boxes w (mO f L fb fc eb ec mb) (xO x)))
  have HBX := hid (Boxes.new w f L fb fc eb ec mb x)
  have hq := h.map.lt
  have HS := hid h
  have HX := hid X
  have HH := hid H
  have hx' := hid hx
  obtain ⟨hl60, hts⟩ := trB_times X.hl
  have HT := hid hts
  clear h X H hx hts
  unfold mV ndV
  go_enter Tryd.func151, Tryd.ntmps151
  go_wp2_with fail
  unfold mO xO at HA0 HBX
  generalize (w.alloc (.cells #[.slice (some ⟨fb, 0, none⟩) f.length fc, .slice (some ⟨eb, 0, none⟩) L.length ec, .map (some mb)] 105)).alloc (.cells #[.int .i64 x.k, .int .i64 x.a, .int .i64 x.b, .int .i64 x.lo, .int .i64 x.hi, .string x.nm] 74) = W at *
  go_loopw [12] (fun t wr => ∃ (k : Nat) (K' : Nat → Nat → Int) (c' : Nat), k ≤ i + 1 ∧ t = .int .i64 k ∧ (∀ m, m < k → (gapB x L m i && (hv f L p m == yes)) = false) ∧ Aft f L mb w wr K c K' c' n ∧ Boxes wr w.heap.size f L fb fc eb ec mb x) (fun t _ => i + 1 - (intOf t).toNat)
  case atStart => exact ⟨0, K, c, Nat.zero_le _, rfl, fun m h => by omega, HA0.out, HBX.out⟩
  case round =>
    clear HA0 HBX
    obtain ⟨k, K', c', hk, rfl, hno, hA, hB⟩ := hrel
    have HNo := hid hno
    have HA := hid hA
    have HBx := hid hB
    have HSt := hid (hA.st HX.out HS.out)
    clear hno hA hB
    by_cases hlt : k < i + 1
    · have hkl : k < L.length := by omega
      obtain ⟨hlq, hlq0, m0, m1, m2, x0, x1, x2, x3, x4, x5⟩ := HBx.out
      have HP := hid (fun (hb : (gapB x L k i && (hv f L p k == yes)) = false) m (h1 : m < k + 1) => (show (gapB x L m i && (hv f L p m == yes)) = false from if e : m = k then by rw [e]; exact hb else HNo.out m (by omega)))
      have HY := hid (fun (h1 : gapB x L k i = true) (h2 : (hv f L p k == yes) = true) => onceTo_yes x L i (fun j => hv f L p j == yes) (i + 1) k hlt h1 h2)
      have HW := hid (fun v hv => within_any f L fb fc eb ec mb x k i hkl hi hl60 HT.out wr (HSt.out.min HX.out).evs v hv)
      rcases (Bool.eq_false_or_eq_true (gapB x L k i)).symm with hg | hg
      · have HG := hid hg
        have HPf := hid (HP.out (by simp [hg]))
        clear hg
        go_wp2_with (go_at_call 150; refine (HW.out false HG.out).mono ?_; rintro e w1 ⟨rfl, hb1⟩; have HA1 := hid (HSt.out.below hb1); have HB1 := hid (HBx.out.below hb1); clear hb1)
        go_roundw
        case rel => exact ⟨k + 1, K', c', by omega, by go_num, HPf.out, HA.out.trans HA1.out, HB1.out⟩
        case measure => simp [intOf]; omega
      · have HG := hid hg
        clear hg
        rcases Bool.eq_false_or_eq_true (hv f L p k) with hh | hh
        all_goals
          have HV := hid hh
          clear hh
          cases yes
        · have HPf := hid (HP.out (by simp [HV.out]))
          clear HP HY HNo
          go_wp2_with (first | (go_at_call 150; refine (HW.out true HG.out).mono ?_; rintro e w1 ⟨rfl, hb1⟩; have HA1 := hid (HSt.out.below hb1); have HB1 := hid (HBx.out.below hb1); obtain ⟨ulq, ulq0, y0, y1, y2, z0, z1, z2, z3, z4, z5⟩ := HB1.out; rw [hx'.out] at z1; clear hb1) | (go_at_call 91; refine (HH.out.is hp k hkl true HV.out (HA1.out.st HX.out HSt.out)).mono ?_; rintro e w2 ⟨rfl, K2, c2, hA2⟩; have HA2 := hid hA2; have HB2 := hid (HB1.out.aft hA2 hq); clear hA2))
          go_roundw
          case rel => exact ⟨k + 1, K2, c2, by omega, by go_num, HPf.out, (HA.out.trans HA1.out).trans HA2.out, HB2.out⟩
          case measure => simp [intOf]; omega
        · have HYt := hid (HY.out HG.out (by simp [HV.out]))
          clear HP HY HNo
          go_wp2_with (first | (go_at_call 150; refine (HW.out true HG.out).mono ?_; rintro e w1 ⟨rfl, hb1⟩; have HA1 := hid (HSt.out.below hb1); have HB1 := hid (HBx.out.below hb1); obtain ⟨ulq, ulq0, y0, y1, y2, z0, z1, z2, z3, z4, z5⟩ := HB1.out; rw [hx'.out] at z1; clear hb1) | (go_at_call 91; refine (HH.out.is hp k hkl true HV.out (HA1.out.st HX.out HSt.out)).mono ?_; rintro e w2 ⟨rfl, K2, c2, hA2⟩; have HA2 := hid hA2; have HB2 := hid (HB1.out.aft hA2 hq); clear hA2))
          go_ret
          exact ⟨ret_bool HYt.out.symm, K2, c2, (HA.out.trans HA1.out).trans HA2.out⟩
        · have HYt := hid (HY.out HG.out (by simp [HV.out]))
          clear HP HY HNo
          go_wp2_with (first | (go_at_call 150; refine (HW.out true HG.out).mono ?_; rintro e w1 ⟨rfl, hb1⟩; have HA1 := hid (HSt.out.below hb1); have HB1 := hid (HBx.out.below hb1); obtain ⟨ulq, ulq0, y0, y1, y2, z0, z1, z2, z3, z4, z5⟩ := HB1.out; rw [hx'.out] at z1; clear hb1) | (go_at_call 91; refine (HH.out.is hp k hkl false HV.out (HA1.out.st HX.out HSt.out)).mono ?_; rintro e w2 ⟨rfl, K2, c2, hA2⟩; have HA2 := hid hA2; have HB2 := hid (HB1.out.aft hA2 hq); clear hA2))
          go_ret
          exact ⟨ret_bool HYt.out.symm, K2, c2, (HA.out.trans HA1.out).trans HA2.out⟩
        · have HPf := hid (HP.out (by simp [HV.out]))
          clear HP HY HNo
          go_wp2_with (first | (go_at_call 150; refine (HW.out true HG.out).mono ?_; rintro e w1 ⟨rfl, hb1⟩; have HA1 := hid (HSt.out.below hb1); have HB1 := hid (HBx.out.below hb1); obtain ⟨ulq, ulq0, y0, y1, y2, z0, z1, z2, z3, z4, z5⟩ := HB1.out; rw [hx'.out] at z1; clear hb1) | (go_at_call 91; refine (HH.out.is hp k hkl false HV.out (HA1.out.st HX.out HSt.out)).mono ?_; rintro e w2 ⟨rfl, K2, c2, hA2⟩; have HA2 := hid hA2; have HB2 := hid (HB1.out.aft hA2 hq); clear hA2))
          go_roundw
          case rel => exact ⟨k + 1, K2, c2, by omega, by go_num, HPf.out, (HA.out.trans HA1.out).trans HA2.out, HB2.out⟩
          case measure => simp [intOf]; omega
    · have HN := hid (onceTo_no x L i (fun j => hv f L p j == yes) (i + 1) (fun m hm => HNo.out m (by omega)))
      go_wp2_with fail
      go_ret
      exact ⟨ret_bool HN.out.symm, K', c', HA.out⟩
end Go.Proofs.YthjnlcjjhklfpaaDoor
