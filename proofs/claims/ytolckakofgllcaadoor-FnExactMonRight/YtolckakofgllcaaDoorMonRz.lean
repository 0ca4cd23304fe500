/-
  The model's l06Cell, by its contract.
  MonRight, the model's and the program's, by one contract: the loops.
  The walk of the law FnExactMonRight.
-/
import Derived.Test.YtolckakofgllcaaDoorMnS1
import Derived.Test.YtolckakofgllcaaDoorMnS2
import Derived.Test.YtolckakofgllcaaDoorMnS3
import Derived.Test.YtolckakofgllcaaDoorMnS4
import Derived.Test.YtolckakofgllcaaDoorMnU
namespace Go.Proofs.YtolckakofgllcaaDoor
open Go.RowKit
set_option linter.unusedVariables false
set_option linter.unusedSimpArgs false
theorem cellS_is (f : List Nd) (fb fc : Nat) (cnt now : Int) (h0 : 0 ≤ cnt) (C : List Cl) (cb co cc : Nat) (i : Nat) (hi : i < f.length) (hi2 : i < C.length) (hl : C.length ≤ 1048576) (hlf : f.length ≤ 1048576) (hlt : (clAt C i).ts.length ≤ 2000000) (v : Bool) (hv : cellB cnt now (ndAt f i) (clAt C i) = v) (w : World) (hN : NodeAt w fb (i * 6) (ndAt f i)) (hfb : fb < w.heap.size) (hC : CkAt w cb (co + i * 4) (clAt C i)) (hcb : cb < w.heap.size) :
    Calls Tryd.prog 41 #[.agg #[.slice (some ⟨fb, 0, none⟩) f.length fc, .int .i64 cnt, .int .i64 now, .slice (some ⟨cb, co, none⟩) C.length cc], .int .i64 i] w fun e w' => e = .returned (.bool v) ∧ Below w.heap.size w w' := by
  rcases Bool.eq_false_or_eq_true (wasB cnt (ndAt f i) (clAt C i).was) with hw | hw
  · rcases Bool.eq_false_or_eq_true (keepsK (ndAt f i).k) with hk | hk
    · rw [cellB_keeps cnt now _ _ hk, hw] at hv
      rcases Bool.eq_false_or_eq_true (krB (clAt C i).lo (clAt C i).hi (clAt C i).ts) with hkr | hkr
      · rcases Bool.eq_false_or_eq_true ((clAt C i).lo == (ndAt f i).lo) with e1 | e1
        · rcases Bool.eq_false_or_eq_true ((clAt C i).hi == (ndAt f i).hi) with e2 | e2
          · rw [hkr, e1, e2] at hv
            by_cases hn0 : (clAt C i).ts.length = 0
            · obtain rfl : true = v := by rw [← hv]; simp [hn0]
              exact cellS_6 f fb fc cnt now h0 C cb co cc i hi hi2 hl hlf hlt hw hk hkr e1 e2 hn0 w hN hfb hC hcb
            · by_cases hc : cnt = 0
              · obtain rfl : false = v := by rw [← hv]; simp [hn0, hc]
                exact cellS_7 f fb fc cnt now h0 C cb co cc i hi hi2 hl hlf hlt hw hk hkr e1 e2 (by omega) hc w hN hfb hC hcb
              · have hv2 : decide (lastT (clAt C i).ts ≤ now) = v := by rw [← hv]; simp [hn0, show 0 < cnt by omega]
                exact cellS_8 f fb fc cnt now h0 C cb co cc i hi hi2 hl hlf hlt hw hk hkr e1 e2 (by omega) (by omega) v hv2 w hN hfb hC hcb
          · obtain rfl : false = v := by rw [← hv, e2]; simp
            exact cellS_5 f fb fc cnt now h0 C cb co cc i hi hi2 hl hlf hlt hw hk hkr e1 e2 w hN hfb hC hcb
        · obtain rfl : false = v := by rw [← hv, e1]; simp
          exact cellS_4 f fb fc cnt now h0 C cb co cc i hi hi2 hl hlf hlt hw hk hkr e1 w hN hfb hC hcb
      · obtain rfl : false = v := by rw [← hv, hkr]; rfl
        exact cellS_3 f fb fc cnt now h0 C cb co cc i hi hi2 hl hlf hlt hw hk hkr w hN hfb hC hcb
    · rw [cellB_not cnt now _ _ hk, hw, Bool.true_and] at hv
      exact cellS_2 f fb fc cnt now h0 C cb co cc i hi hi2 hl hlf hlt hw hk v hv w hN hfb hC hcb
  · obtain rfl : false = v := by rw [← hv]; unfold cellB; rw [hw]; rfl
    exact cellS_1 f fb fc cnt now h0 C cb co cc i hi hi2 hl hlf hlt hw w hN hfb hC hcb
end Go.Proofs.YtolckakofgllcaaDoor
namespace Go.Proofs.YtolckakofgllcaaDoor
open Go.RowKit
set_option linter.unusedVariables false
set_option linter.unusedSimpArgs false
set_option maxRecDepth 20000 in
set_option maxHeartbeats 4000000 in
theorem specMon_any (f : List Nd) (fb fc : Nat) (cnt now : Int) (C : List Cl) (ca : Option Addr) (cc : Nat) (v : Bool) (hv : monB f cnt now C = v) (w : World) (hM : MonIn w fb f ca C) :
    Calls Tryd.prog 17 #[moV (some ⟨fb, 0, none⟩) f.length fc cnt now ca C.length cc] w fun e w' => e = .returned (.bool v) ∧ Below w.heap.size w w' := by
  have HV := hid hv
  have HM := hid hM
  have HB0 := hid (below_one' w (.cells #[.slice (some ⟨fb, 0, none⟩) f.length fc, .int .i64 cnt, .int .i64 now, .slice ca C.length cc] 27))
  have HX0 := hid (MBox.new w (some ⟨fb, 0, none⟩) f.length fc cnt now ca C.length cc 27)
  have HFr : Hid (∀ b, rightB f = b → ∀ w, NodesAt w fb f → Calls Tryd.prog 26 #[.slice (some ⟨fb, 0, none⟩) f.length fc] w fun e w' => e = .returned (.bool b) ∧ Below w.heap.size w w') := fun b hb w h => by subst hb; exact specRight_any f fb fc w h (fun i hi => (HM.out.ok i hi).nm) (lf_max HM.out.lf)
  have hlf := hM.lf
  have hlc := hM.lc
  unfold moV
  clear hv hM
  rcases Bool.eq_false_or_eq_true (rightB f) with hr | hr
  · have HF := hid (HFr.out true hr)
    clear HFr
    rcases Bool.eq_false_or_eq_true (timeB cnt) with ht | ht
    · have HT1 := hid (fun w => timeS_is cnt true ht w)
      rcases Bool.eq_false_or_eq_true (timeB now) with ht2 | ht2
      · have HT2 := hid (fun w => timeS_is now true ht2 w)
        have hcase : (cnt == 0) = true ∧ (now != 0) = true ∨ ((cnt == 0) && (now != 0)) = false ∧ ((cnt == 0) = false ∨ ((cnt == 0) = true ∧ (now != 0) = false)) := by cases (cnt == 0) <;> cases (now != 0) <;> simp
        rcases hcase with ⟨hz1, hz2⟩ | ⟨hzz, hz⟩
        · have HVF := hid (HV.out.symm.trans (monB_zero (by rw [hz1, hz2]; rfl)))
          clear HV hr ht ht2
          go_enter Tryd.func17, Tryd.ntmps17
          go_wp2_with (first | (go_at_call 26; refine (HF.out _ (HM.out.on HB0.out).nodes).mono ?_; rintro e w1 ⟨rfl, hb1⟩; have HB1 := hid (HB0.out.trans (hb1.mono HB0.out.size)); obtain ⟨_, m0, m1, m2, m3⟩ := HX0.out.on hb1; clear hb1) | (go_at_call 40; first | (refine (HT1.out _).mono ?_; rintro e w' ⟨rfl, rfl⟩) | (refine (HT2.out _).mono ?_; rintro e w' ⟨rfl, rfl⟩)))
          go_ret
          exact ⟨ret_bool HVF.out.symm, HB1.out⟩
        · by_cases hle : C.length = f.length
          · have HVC := hid (HV.out.symm.trans (monB_cells hr hle ht ht2 hzz))
            have h0 := (timeB_not ht).1
            have hne : ((C.length : Int) != (f.length : Int)) = false := by simp [hle]
            have HLe := hid hle
            clear HV hr ht ht2 hzz hle
            rcases hz with hz | ⟨hz, hz2⟩
            all_goals
              go_enter Tryd.func17, Tryd.ntmps17
              go_wp2_with (first | (go_at_call 26; refine (HF.out _ (HM.out.on HB0.out).nodes).mono ?_; rintro e w1 ⟨rfl, hb1⟩; have HB1 := hid (HB0.out.trans (hb1.mono HB0.out.size)); have HX1 := hid (HX0.out.on hb1); obtain ⟨_, m0, m1, m2, m3⟩ := HX1.out; clear hb1) | (go_at_call 40; first | (refine (HT1.out _).mono ?_; rintro e w' ⟨rfl, rfl⟩) | (refine (HT2.out _).mono ?_; rintro e w' ⟨rfl, rfl⟩)))
              clear m0 m1 m2 m3
              go_loopw [3] (fun t wr => ∃ k : Nat, k ≤ C.length ∧ t = .int .i64 k ∧ cellsTo f cnt now C k = true ∧ Below w1.heap.size w1 wr) (fun t _ => C.length - (intOf t).toNat)
              case atStart => exact ⟨0, Nat.zero_le _, rfl, rfl, Below.refl _ _⟩
              case round =>
                obtain ⟨k, hk, rfl, hg, hbel⟩ := hrel
                have HG := hid hg
                have HBr := hid hbel
                have HBE := hid (HB1.out.trans (hbel.mono HB1.out.size))
                obtain ⟨hq, m0, m1, m2, m3⟩ := HX1.out.on hbel
                clear hg hbel
                by_cases hlt : k < C.length
                · have HMr := hid (HM.out.on HBE.out)
                  rcases HMr.out.cells with hz0 | ⟨cb, co, rfl, hcb, hcells⟩
                  · omega
                  have HNk := hid (HMr.out.nodes.2 k (by have := HLe.out; omega))
                  have HCk := hid (hcells k hlt)
                  have hfb := HMr.out.nodes.1
                  have HC : Hid (∀ b, cellB cnt now (ndAt f k) (clAt C k) = b → Calls Tryd.prog 41 #[.agg #[.slice (some ⟨fb, 0, none⟩) f.length fc, .int .i64 cnt, .int .i64 now, .slice (some ⟨cb, co, none⟩) C.length cc], .int .i64 k] wr fun e w' => e = .returned (.bool b) ∧ Below wr.heap.size wr w') := fun b hb => cellS_is f fb fc cnt now h0 C cb co cc k (by have := HLe.out; omega) hlt hlc hlf (HMr.out.lt k hlt) b hb wr HNk.out hfb HCk.out hcb
                  have HSu := hid (cellsTo_succ f cnt now C k)
                  clear hcells hfb hcb
                  rcases Bool.eq_false_or_eq_true (cellB cnt now (ndAt f k) (clAt C k)) with hcb | hcb
                  · have HC1 := hid (HC.out true hcb)
                    have HS2 : Hid (cellsTo f cnt now C (k + 1) = true) := by show cellsTo f cnt now C (k + 1) = true; rw [HSu.out, HG.out, hcb]; rfl
                    clear HC hcb
                    go_wp2_with (go_at_call 41; refine HC1.out.mono ?_; rintro e w2 ⟨rfl, hb2⟩; have HB2 := hid (HBr.out.trans (hb2.mono HBr.out.size)); clear hb2)
                    go_roundw
                    case rel => exact ⟨k + 1, by omega, by go_num, HS2.out, HB2.out⟩
                    case measure => simp [intOf]; omega
                  · have HC1 := hid (HC.out false hcb)
                    have HVF := hid (HVC.out.trans (cellsTo_false f cnt now C k _ (by have := HLe.out; omega) hcb))
                    clear HC hcb
                    go_wp2_with (go_at_call 41; refine HC1.out.mono ?_; rintro e w2 ⟨rfl, hb2⟩; have HB2 := hid (HBE.out.trans (hb2.mono HBE.out.size)); clear hb2)
                    go_ret
                    exact ⟨ret_bool HVF.out.symm, HB2.out⟩
                · have hk' : k = C.length := by omega
                  subst hk'
                  go_wp2_with fail
                  go_ret
                  exact ⟨ret_bool (by rw [HVC.out, ← HLe.out, HG.out]), HBE.out⟩
          · have HVF := hid (HV.out.symm.trans (monB_len hle))
            have hne : ((C.length : Int) != (f.length : Int)) = true := by simp; omega
            clear HV hr ht ht2 hle
            rcases hz with hz | ⟨hz, hz2⟩
            all_goals
              go_enter Tryd.func17, Tryd.ntmps17
              go_wp2_with (first | (go_at_call 26; refine (HF.out _ (HM.out.on HB0.out).nodes).mono ?_; rintro e w1 ⟨rfl, hb1⟩; have HB1 := hid (HB0.out.trans (hb1.mono HB0.out.size)); obtain ⟨_, m0, m1, m2, m3⟩ := HX0.out.on hb1; clear hb1) | (go_at_call 40; first | (refine (HT1.out _).mono ?_; rintro e w' ⟨rfl, rfl⟩) | (refine (HT2.out _).mono ?_; rintro e w' ⟨rfl, rfl⟩)))
              go_ret
              exact ⟨ret_bool HVF.out.symm, HB1.out⟩
      · have HT2 := hid (fun w => timeS_is now false ht2 w)
        have HVF := hid (HV.out.symm.trans (monB_now ht2))
        clear HV hr ht ht2
        go_enter Tryd.func17, Tryd.ntmps17
        go_wp2_with (first | (go_at_call 26; refine (HF.out _ (HM.out.on HB0.out).nodes).mono ?_; rintro e w1 ⟨rfl, hb1⟩; have HB1 := hid (HB0.out.trans (hb1.mono HB0.out.size)); obtain ⟨_, m0, m1, m2, m3⟩ := HX0.out.on hb1; clear hb1) | (go_at_call 40; first | (refine (HT1.out _).mono ?_; rintro e w' ⟨rfl, rfl⟩) | (refine (HT2.out _).mono ?_; rintro e w' ⟨rfl, rfl⟩)))
        go_ret
        exact ⟨ret_bool HVF.out.symm, HB1.out⟩
    · have HT1 := hid (fun w => timeS_is cnt false ht w)
      have HVF := hid (HV.out.symm.trans (monB_cnt ht))
      clear HV hr ht
      go_enter Tryd.func17, Tryd.ntmps17
      go_wp2_with (first | (go_at_call 26; refine (HF.out _ (HM.out.on HB0.out).nodes).mono ?_; rintro e w1 ⟨rfl, hb1⟩; have HB1 := hid (HB0.out.trans (hb1.mono HB0.out.size)); obtain ⟨_, m0, m1, m2, m3⟩ := HX0.out.on hb1; clear hb1) | (go_at_call 40; refine (HT1.out _).mono ?_; rintro e w' ⟨rfl, rfl⟩))
      go_ret
      exact ⟨ret_bool HVF.out.symm, HB1.out⟩
  · have HF := hid (HFr.out false hr)
    have HVF := hid (HV.out.symm.trans (monB_right hr))
    clear HFr HV hr
    go_enter Tryd.func17, Tryd.ntmps17
    go_wp2_with (go_at_call 26; refine (HF.out _ (HM.out.on HB0.out).nodes).mono ?_; rintro e w1 ⟨rfl, hb1⟩; have HB1 := hid (HB0.out.trans (hb1.mono HB0.out.size)); obtain ⟨_, m0, m1, m2, m3⟩ := HX0.out.on hb1; clear hb1)
    go_ret
    exact ⟨ret_bool HVF.out.symm, HB1.out⟩
end Go.Proofs.YtolckakofgllcaaDoor
namespace Go.Proofs.YtolckakofgllcaaDoor
open Go.RowKit
set_option linter.unusedVariables false
set_option linter.unusedSimpArgs false
theorem sumT_each {C : List Cl} (h : sumT C C.length ≤ 1048576) : ∀ i, i < C.length → (clAt C i).ts.length ≤ 1048576 := fun i hi => by have := sumT_one C hi; omega
set_option maxRecDepth 20000 in
set_option maxHeartbeats 4000000 in
theorem walkMonR (f : List Nd) (fa : Option Addr) (fc : Nat) (cnt now : Int) (C : List Cl) (ca : Option Addr) (cc : Nat) (w : World) (hF : InN w fa fc f) (hC : InCs w ca C) (hkw : Kw w) (hg : 1 < w.heap.size) :
    Calls Tryd.prog 4 #[moV fa f.length fc cnt now ca C.length cc] w fun e w' => e = .returned (.bool true) ∧ Below w.heap.size w w' := by
  have HF := hid hF
  have HC := hid hC
  have HK := hid hkw
  have HU : Hid (∀ fa fn fc cnt now ca cn cc, moV fa fn fc cnt now ca cn cc = .agg #[.slice fa fn fc, .int .i64 cnt, .int .i64 now, .slice ca cn cc]) := fun _ _ _ _ _ _ _ _ => rfl
  clear hF hC hkw
  rw [HU.out]
  go_enter Tryd.func4, Tryd.ntmps4
  go_wp2_with fail
  have HB0 := hid (below_one' w (.cells #[.slice fa f.length fc, .int .i64 cnt, .int .i64 now, .slice ca C.length cc] 40))
  have HX0 := hid (MBox.new w fa f.length fc cnt now ca C.length cc 40)
  generalize w.alloc (.cells #[.slice fa f.length fc, .int .i64 cnt, .int .i64 now, .slice ca C.length cc] 40) = W0 at *
  have hz0 := HB0.out.size
  refine (szMon_any f fa fc cnt now C ca cc _ ⟨HF.out.arg.below HB0.out (Nat.le_refl _), HF.out.ok, HF.out.len⟩ ⟨HC.out.arg.below HB0.out (Nat.le_refl _), HC.out.ok, HC.out.len⟩).mono ?_
  rintro e w1 ⟨r, rfl, q1, q2, hr, hb1⟩
  have HB1 := hid (HB0.out.trans (hb1.mono hz0))
  have hz1 := hb1.size
  have HX1 := hid (HX0.out.on hb1)
  by_cases hr0 : r < 0
  · clear hb1 hr
    go_wp2_with fail
    go_ret
    exact ⟨rfl, HB1.out⟩
  obtain ⟨⟨hl, _⟩, hl1, hl2'⟩ := hr (by omega)
  have hl2 := sumT_each hl2'
  have HL2 := hid hl2
  have HTM := hid (fun w h1 h2 => toMon_any f fa fc cnt now C ca cc hl hl1 hl2 w h1 h2)
  have HMI : Hid (∀ w b c A z, NodesAt w b f → CkRow w c C A z C.length → MonIn w b f (some ⟨c, 0, none⟩) C) := fun w b c A z h1 h2 => ⟨h1, HF.out.ok, hl, h2.at hl2, hl1, fun i hi => by have := hl2 i hi; omega⟩
  clear hb1 hr hl2 hl2'
  obtain ⟨u0, x0, x1, x2, x3⟩ := HX1.out
  go_wp2_with fail
  refine (HTM.out _ (HF.out.arg.below HB1.out (Nat.le_refl _)) (HC.out.arg.below HB1.out (Nat.le_refl _))).mono ?_
  rintro e w2 ⟨b2, c2, A2, z2, rfl, hb2, hbc2, hn2, _, hr2, hbl2⟩
  have HB2 := hid (HB1.out.trans (hbl2.mono (by omega)))
  have hz2 := hbl2.size
  have HX2 := hid (HX1.out.on hbl2)
  have HM2 := hid (HMI.out _ _ _ _ _ hn2 hr2)
  clear hn2 hr2 hbl2 u0 x0 x1 x2 x3
  go_wp2_with fail
  refine (specMon_any f b2 f.length cnt now C (some ⟨c2, 0, none⟩) C.length _ rfl _ HM2.out).mono ?_
  rintro e w3 ⟨rfl, hbl3⟩
  have HB3 := hid (HB2.out.trans (hbl3.mono (by omega)))
  have hz3 := hbl3.size
  have HX3 := hid (HX2.out.on hbl3)
  clear hbl3
  obtain ⟨u0, x0, x1, x2, x3⟩ := HX3.out
  go_wp2_with fail
  refine (HTM.out _ (HF.out.arg.below HB3.out (Nat.le_refl _)) (HC.out.arg.below HB3.out (Nat.le_refl _))).mono ?_
  rintro e w4 ⟨b4, c4, A4, z4, rfl, hb4, hbc4, hn4, _, hr4, hbl4⟩
  have HB4 := hid (HB3.out.trans (hbl4.mono (by omega)))
  have hz4 := hbl4.size
  have HX4 := hid (HX3.out.on hbl4)
  have HM4 := hid (HMI.out _ _ _ _ _ hn4 hr4)
  clear hn4 hr4 hbl4 u0 x0 x1 x2 x3
  rw [HU.out]
  go_wp2_with fail
  have hbo := below_one' w4 (.cells #[.slice (some ⟨b4, 0, none⟩) f.length f.length, .int .i64 cnt, .int .i64 now, .slice (some ⟨c4, 0, none⟩) C.length C.length] 27)
  have HB5 := hid (below_new HB4.out (.cells #[.slice (some ⟨b4, 0, none⟩) f.length f.length, .int .i64 cnt, .int .i64 now, .slice (some ⟨c4, 0, none⟩) C.length C.length] 27))
  have HX5 := hid (HX4.out.on hbo)
  have HY5 := hid (MBox.new w4 (some ⟨b4, 0, none⟩) f.length f.length cnt now (some ⟨c4, 0, none⟩) C.length C.length 27)
  have HM5 := hid (HM4.out.on hbo)
  have hz5 := HB5.out.size
  clear hbo
  generalize w4.alloc (.cells #[.slice (some ⟨b4, 0, none⟩) f.length f.length, .int .i64 cnt, .int .i64 now, .slice (some ⟨c4, 0, none⟩) C.length C.length] 27) = W5 at *
  refine (implMon_any f b4 f.length cnt now C (some ⟨c4, 0, none⟩) C.length _ rfl _ HM5.out (HK.out.below HB5.out hg) (by omega)).mono ?_
  rintro e w6 ⟨rfl, hbl6⟩
  have HB6 := hid (HB5.out.trans (hbl6.mono (by omega)))
  have hz6 := hbl6.size
  have HX6 := hid (HX5.out.on hbl6)
  have HY6 := hid (HY5.out.on hbl6)
  have HM6 := hid (HM5.out.on hbl6)
  clear hbl6
  generalize monB f cnt now C = ANS at *
  have hx : (ANS != ANS) = false := by simp
  obtain ⟨u0, x0, x1, x2, x3⟩ := HX6.out
  obtain ⟨u1, y0, y1, y2, y3⟩ := HY6.out
  have HEQ := hid (fun b1 b2 d1 d2 a1 a2 c1 c2 w n1 n2 h1 h2 => eqMon_any f b1 b2 d1 d2 cnt now C a1 a2 c1 c2 hl hl1 (fun i hi => by have := HL2.out i hi; omega) w n1 n2 h1 h2)
  go_wp2_with fail
  go_region_with (first
    | (go_at_call 18; refine (HTM.out _ (HF.out.arg.below (below_drew HB6.out) (Nat.le_refl _)) (HC.out.arg.below (below_drew HB6.out) (Nat.le_refl _))).mono ?_; rintro e w7 ⟨b7, c7, A7, z7, rfl, hb7, hbc7, hn7, _, hr7, hbl7'⟩; have hbl7 := below_undrew hbl7'; clear hbl7'; have HB7 := hid (HB6.out.trans (hbl7.mono (by omega))); have hz7 := hbl7.size; have HY7 := hid (HY6.out.on hbl7); have HM7 := hid (HM6.out.on hbl7); have HQ7 := hid (HMI.out _ _ _ _ _ hn7 hr7); obtain ⟨u7, t0, t1, t2, t3⟩ := HY7.out; rw [HU.out]; clear hn7 hr7 hbl7)
    | (go_at_call 20; refine (HEQ.out b4 b7 f.length f.length (some ⟨c4, 0, none⟩) (some ⟨c7, 0, none⟩) C.length C.length _ HM7.out.nodes HQ7.out.nodes HM7.out.cells HQ7.out.cells).mono ?_; rintro e w8 ⟨rfl, hbl8⟩; have HB8 := hid (HB7.out.trans (hbl8.mono (by omega))); clear hbl8))
  all_goals
    go_wp2_with fail
    go_ret
    exact ⟨rfl, HB8.out⟩
end Go.Proofs.YtolckakofgllcaaDoor
