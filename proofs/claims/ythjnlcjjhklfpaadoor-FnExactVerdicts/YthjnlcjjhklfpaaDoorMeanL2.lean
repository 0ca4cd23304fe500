/-
  The program's since by its contract.
-/
import Derived.Test.YthjnlcjjhklfpaaDoorMeanL
import Derived.WalkMore
namespace Go.Proofs.YthjnlcjjhklfpaaDoor
open Go.RowKit
set_option linter.unusedVariables false
set_option linter.unusedSimpArgs false
set_option maxRecDepth 20000 in
set_option maxHeartbeats 12000000 in
theorem since_any {w0 : World} {f : List Nd} {L : List Evt} {fb fc eb ec mb n p q : Nat} (X : Ctx w0 f L fb eb mb) (H : HoldsC w0 f L fb fc eb ec mb p) (hp : p < n) (H' : HoldsC w0 f L fb fc eb ec mb q) (hqn : q < n) (x : Nd) (hx : x.a = p) (hxb : x.b = q) (i : Nat) (hi : i < L.length) {K : Nat → Nat → Int} {c : Nat} {w : World} (h : St w0 f L mb w K c n) :
    Calls Tryd.prog 152 #[mV f L fb fc eb ec mb, ndV x, .int .i64 i] w fun e w' => e = .returned (.bool (sinceTo x L i (hv f L p) (hv f L q) (i + 1))) ∧ ∃ K' c', Aft f L mb w w' K c K' c' n := by
  have HA0 := hid (h.below (below_boxes w (mO f L fb fc eb ec mb) (xO x)))
  have HBX := hid (Boxes.new w f L fb fc eb ec mb x)
  have hq := h.map.lt
  have HS := hid h
  have HX := hid X
  have HH := hid H
  have HH' := hid H'
  have hx' := hid hx
  have hxb' := hid hxb
  obtain ⟨hl60, hts⟩ := trB_times X.hl
  have HT := hid hts
  clear h X H H' hx hxb hts
  unfold mV ndV
  go_enter Tryd.func152, Tryd.ntmps152
  go_wp2_with fail
  go_step3
  unfold mO xO at HA0 HBX
  generalize (w.alloc (.cells #[.slice (some ⟨fb, 0, none⟩) f.length fc, .slice (some ⟨eb, 0, none⟩) L.length ec, .map (some mb)] 105)).alloc (.cells #[.int .i64 x.k, .int .i64 x.a, .int .i64 x.b, .int .i64 x.lo, .int .i64 x.hi, .string x.nm] 74) = W at *
  go_wp2_with fail
  go_step3
  go_wp2_with fail
  go_loopw [7, 8] (fun s t wr => ∃ (k : Nat) (K' : Nat → Nat → Int) (c' : Nat), k ≤ i + 1 ∧ s = .bool false ∧ t = jV k ∧ sinceTo x L i (hv f L p) (hv f L q) (i + 1) = sinceTo x L i (hv f L p) (hv f L q) k ∧ Aft f L mb w wr K c K' c' n ∧ Boxes wr w.heap.size f L fb fc eb ec mb x) (fun _ t _ => (intOf t + 1).toNat)
  case atStart => exact ⟨i + 1, K, c, Nat.le_refl _, rfl, rfl, rfl, HA0.out, HBX.out⟩
  case round =>
    clear HA0 HBX
    obtain ⟨k, K', c', hk, rfl, rfl, hno, hA, hB⟩ := hrel
    have HE := hid hno
    have HA := hid hA
    have HBx := hid hB
    have HSt := hid (hA.st HX.out HS.out)
    clear hno hA hB
    cases k with
    | zero =>
      simp only [jV]
      go_wp2_with fail
      rw [Exit.noGoto_ret]
      go_ret
      exact ⟨ret_bool HE.out.symm, K', c', HA.out⟩
    | succ j =>
      simp only [jV]
      have hkl : j < L.length := by omega
      obtain ⟨hlq, hlq0, m0, m1, m2, x0, x1, x2, x3, x4, x5⟩ := HBx.out
      have HEq : Hid (sinceTo x L i (hv f L p) (hv f L q) (i + 1) = ((gapB x L j i && hv f L q j) || (hv f L p j && sinceTo x L i (hv f L p) (hv f L q) j))) := HE.out
      have HW := hid (fun v hv => within_any f L fb fc eb ec mb x j i hkl hi hl60 HT.out wr (HSt.out.min HX.out).evs v hv)
      rcases (Bool.eq_false_or_eq_true (gapB x L j i)).symm with hg | hg
      · have HG := hid hg
        clear hg
        rcases (Bool.eq_false_or_eq_true (hv f L p j)).symm with hh | hh
        · have HV := hid hh
          clear hh
          go_wp2_with (first | (go_at_call 150; refine (HW.out false HG.out).mono ?_; rintro e w1 ⟨rfl, hb1⟩; have HA1 := hid (HSt.out.below hb1); have HB1 := hid (HBx.out.below hb1); obtain ⟨ulq, ulq0, y0, y1, y2, z0, z1, z2, z3, z4, z5⟩ := HB1.out; rw [hx'.out] at z1; clear hb1) | (go_at_call 91; refine (HH.out.is hp j hkl false HV.out (HA1.out.st HX.out HSt.out)).mono ?_; rintro e w2 ⟨rfl, K2, c2, hA2⟩; have HA2 := hid hA2; have HB2 := hid (HB1.out.aft hA2 hq); clear hA2))
          rw [Exit.noGoto_ret]
          go_ret
          exact ⟨ret_bool (by rw [HEq.out, HG.out, HV.out]; rfl), K2, c2, (HA.out.trans HA1.out).trans HA2.out⟩
        · have HV := hid hh
          clear hh
          go_wp2_with (first | (go_at_call 150; refine (HW.out false HG.out).mono ?_; rintro e w1 ⟨rfl, hb1⟩; have HA1 := hid (HSt.out.below hb1); have HB1 := hid (HBx.out.below hb1); obtain ⟨ulq, ulq0, y0, y1, y2, z0, z1, z2, z3, z4, z5⟩ := HB1.out; rw [hx'.out] at z1; clear hb1) | (go_at_call 91; refine (HH.out.is hp j hkl true HV.out (HA1.out.st HX.out HSt.out)).mono ?_; rintro e w2 ⟨rfl, K2, c2, hA2⟩; have HA2 := hid hA2; have HB2 := hid (HB1.out.aft hA2 hq); clear hA2))
          go_roundw
          case rel => exact ⟨j, K2, c2, by omega, rfl, jV_step j, by rw [HEq.out, HG.out, HV.out]; simp, (HA.out.trans HA1.out).trans HA2.out, HB2.out⟩
          case measure => simp [intOf]
      · have HG := hid hg
        clear hg
        rcases (Bool.eq_false_or_eq_true (hv f L q j)).symm with hb | hb
        · have HVb := hid hb
          clear hb
          rcases (Bool.eq_false_or_eq_true (hv f L p j)).symm with hh | hh
          · have HV := hid hh
            clear hh
            go_wp2_with (first | (go_at_call 150; refine (HW.out true HG.out).mono ?_; rintro e w1 ⟨rfl, hb1⟩; have HA1 := hid (HSt.out.below hb1); have HB1 := hid (HBx.out.below hb1); have HS1 := hid (HA1.out.st HX.out HSt.out); obtain ⟨ulq, ulq0, y0, y1, y2, z0, z1, z2, z3, z4, z5⟩ := HB1.out; rw [hx'.out] at z1; rw [hxb'.out] at z2; clear hb1 x0 x1 x2 x3 x4 x5 m0 m1 m2) | (go_at_call 91; refine (HH'.out.is hqn j hkl false HVb.out HS1.out).mono ?_; rintro e w2 ⟨rfl, K2, c2, hA2⟩; have HA2 := hid hA2; have HB2 := hid (HB1.out.aft hA2 hq); have HS2 := hid (hA2.st HX.out HS1.out); clear HS1; obtain ⟨vlq, vlq0, r0, r1, r2, t0, t1, t2, t3, t4, t5⟩ := HB2.out; rw [hx'.out] at t1; clear hA2) | (go_at_call 91; refine (HH.out.is hp j hkl false HV.out HS2.out).mono ?_; rintro e w3 ⟨rfl, K3, c3, hA3⟩; have HA3 := hid hA3; have HB3 := hid (HB2.out.aft hA3 hq); clear hA3))
            rw [Exit.noGoto_ret]
            go_ret
            exact ⟨ret_bool (by rw [HEq.out, HVb.out, HV.out]; simp), K3, c3, ((HA.out.trans HA1.out).trans HA2.out).trans HA3.out⟩
          · have HV := hid hh
            clear hh
            go_wp2_with (first | (go_at_call 150; refine (HW.out true HG.out).mono ?_; rintro e w1 ⟨rfl, hb1⟩; have HA1 := hid (HSt.out.below hb1); have HB1 := hid (HBx.out.below hb1); have HS1 := hid (HA1.out.st HX.out HSt.out); obtain ⟨ulq, ulq0, y0, y1, y2, z0, z1, z2, z3, z4, z5⟩ := HB1.out; rw [hx'.out] at z1; rw [hxb'.out] at z2; clear hb1 x0 x1 x2 x3 x4 x5 m0 m1 m2) | (go_at_call 91; refine (HH'.out.is hqn j hkl false HVb.out HS1.out).mono ?_; rintro e w2 ⟨rfl, K2, c2, hA2⟩; have HA2 := hid hA2; have HB2 := hid (HB1.out.aft hA2 hq); have HS2 := hid (hA2.st HX.out HS1.out); clear HS1; obtain ⟨vlq, vlq0, r0, r1, r2, t0, t1, t2, t3, t4, t5⟩ := HB2.out; rw [hx'.out] at t1; clear hA2) | (go_at_call 91; refine (HH.out.is hp j hkl true HV.out HS2.out).mono ?_; rintro e w3 ⟨rfl, K3, c3, hA3⟩; have HA3 := hid hA3; have HB3 := hid (HB2.out.aft hA3 hq); clear hA3))
            go_roundw
            case rel => exact ⟨j, K3, c3, by omega, rfl, jV_step j, by rw [HEq.out, HVb.out, HV.out]; simp, ((HA.out.trans HA1.out).trans HA2.out).trans HA3.out, HB3.out⟩
            case measure => simp [intOf]
        · have HVb := hid hb
          clear hb
          go_wp2_with (first | (go_at_call 150; refine (HW.out true HG.out).mono ?_; rintro e w1 ⟨rfl, hb1⟩; have HA1 := hid (HSt.out.below hb1); have HB1 := hid (HBx.out.below hb1); have HS1 := hid (HA1.out.st HX.out HSt.out); obtain ⟨ulq, ulq0, y0, y1, y2, z0, z1, z2, z3, z4, z5⟩ := HB1.out; rw [hxb'.out] at z2; clear hb1) | (go_at_call 91; refine (HH'.out.is hqn j hkl true HVb.out HS1.out).mono ?_; rintro e w2 ⟨rfl, K2, c2, hA2⟩; have HA2 := hid hA2; have HB2 := hid (HB1.out.aft hA2 hq); clear hA2))
          rw [Exit.noGoto_ret]
          go_ret
          exact ⟨ret_bool (by rw [HEq.out, HG.out, HVb.out]; simp), K2, c2, (HA.out.trans HA1.out).trans HA2.out⟩
end Go.Proofs.YthjnlcjjhklfpaaDoor
