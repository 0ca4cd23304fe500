/-
  TraceRight, the model's and the program's, by one contract.
-/
import Derived.Test.YtnbegpplbjppoaaDoorEvS
import Derived.Lib.QuietBelow
import Derived.BigQuiet
namespace Go.Proofs.YtnbegpplbjppoaaDoor
open Go.RowKit
set_option linter.unusedVariables false
set_option linter.unusedSimpArgs false
def evR (e : Evt) : Bool := evB e.1 e.2
/-- The first events may stand in a trace. -/
def trTo (E : List Evt) (k : Nat) : Bool := (List.range k).all fun i => evR (evAt E i) && (i == 0 || decide ((evAt E (i - 1)).1 ≤ (evAt E i).1))
def trB (E : List Evt) : Bool := decide (E.length ≤ 60) && trTo E E.length
theorem trTo_succ (E : List Evt) (k : Nat) : trTo E (k + 1) = (trTo E k && (evR (evAt E k) && (k == 0 || decide ((evAt E (k - 1)).1 ≤ (evAt E k).1)))) := by
  simp [trTo, List.range_succ]
theorem trTo_false (E : List Evt) (k m : Nat) (hm : k < m) (h : trTo E (k + 1) = false) : trTo E m = false := by
  simp only [trTo, List.all_eq_false, List.mem_range] at h ⊢
  obtain ⟨i, hi, h⟩ := h
  exact ⟨i, by omega, h⟩
theorem trB_long (E : List Evt) (h : 60 < E.length) : trB E = false := by simp [trB]; omega
theorem trB_no (E : List Evt) (k : Nat) (hm : k < E.length) (h : trTo E (k + 1) = false) : trB E = false := by simp [trB, trTo_false E k _ hm h]
theorem trB_yes (E : List Evt) (h8 : E.length ≤ 60) (h : trTo E E.length = true) : trB E = true := by simp [trB, h8, h]
theorem trTo_ev (E : List Evt) (k m : Nat) (hk : k < m) (h : trTo E m = true) : evR (evAt E k) = true ∧ (0 < k → (evAt E (k - 1)).1 ≤ (evAt E k).1) := by
  simp only [trTo, List.all_eq_true, List.mem_range, Bool.and_eq_true, Bool.or_eq_true, beq_iff_eq, decide_eq_true_eq] at h
  have := h k hk
  exact ⟨this.1, fun h0 => this.2.resolve_left (by omega)⟩
theorem evR_time (e : Evt) (h : evR e = true) : 0 ≤ e.1 ∧ e.1 ≤ 1000000 := by
  simp only [evR, evB, Bool.and_eq_true, decide_eq_true_eq] at h
  exact h.1
theorem specEvent_is (T : Evt) (v : Bool) (hv : evR T = v) (hok : EvOk T) (a : Option Addr) (c : Nat) (w : World) (hA : TsAt w a T.2) :
    Calls Tryd.prog 35 #[.agg #[.int .i64 T.1, .slice a T.2.length c]] w fun e w' => e = .returned (.bool v) ∧ Below w.heap.size w w' := by
  subst hv
  exact specEvent_any T.1 T.2 _ rfl a c hok.2.1 hok.2.2 w hA
set_option maxRecDepth 20000 in
set_option maxHeartbeats 2000000 in
theorem specTrace_any (E : List Evt) (n : Nat) (hn : E.length = n) (a : Option Addr) (c : Nat) (hs : ∀ i, i < E.length → EvOk (evAt E i)) (hl : n ≤ maxLen) (w : World) (hA : EsAt w a E) :
    Calls Tryd.prog 22 #[.slice a n c] w fun e w' => e = .returned (.bool (trB E)) ∧ Below w.heap.size w w' := by
  unfold maxLen at hl
  subst hn
  have HS := hid hs
  have HA := hid hA
  clear hs hA
  by_cases h8 : 60 < E.length
  · have HN := hid (trB_long E h8)
    go_enter Tryd.func22, Tryd.ntmps22
    go_wp2_with fail
    go_ret
    exact ⟨ret_bool HN.out.symm, Below.refl _ _⟩
  go_enter Tryd.func22, Tryd.ntmps22
  go_wp2_with fail
  go_loopw [3] (fun t wr => ∃ k : Nat, k ≤ E.length ∧ t = .int .i64 k ∧ trTo E k = true ∧ Below w.heap.size w wr) (fun t _ => E.length - (intOf t).toNat)
  case atStart => exact ⟨0, Nat.zero_le _, rfl, rfl, Below.refl _ _⟩
  case round =>
    obtain ⟨k, hk, rfl, hg, hbel⟩ := hrel
    have HG := hid hg
    have HB := hid hbel
    clear hg hbel
    by_cases hlt : k < E.length
    · have HS1 := hid (trTo_succ E k)
      have HNo := hid (trB_no E k hlt)
      rcases HA.out with h0 | ⟨b, rfl, hb, hc⟩
      · omega
      obtain ⟨d0, a1, c1, d1, hT⟩ := (hc k hlt).below HB.out hb
      have HT := hid hT
      have HX := hid (HS.out k hlt)
      have hbl : b < wr.heap.size := Nat.lt_of_lt_of_le hb HB.out.size
      clear hT
      cases k with
      | zero =>
        generalize evAt E 0 = T at *
        clear hc
        rcases Bool.eq_false_or_eq_true (evR T) with hw | hw
        · have HW := hid hw
          clear hw
          have HC := hid (fun d os => Calls.regrown_of (specEvent_is T true HW.out HX.out a1 c1 (Sort.grow (redrawn wr d) os) (HT.out.below (below_regrown wr d os))))
          have d0' := cell_regrown d0
          have d1' := cell_regrown d1
          go_wp2_with fail
          refine wp_region_quiet_below (by kernel_rfl) (by kernel_rfl) ?_
          repeat (go_big_quiet_step (exact HC.out _ _))
          refine wpQuiet_nil ?_
          intro _ hw'
          obtain ⟨⟨dq, osq⟩, hw''⟩ := hw'
          subst hw''
          have HB1 := hid (HB.out.trans ((below_regrown wr dq osq).mono HB.out.size))
          go_wp2_with fail
          go_roundw
          case rel => exact ⟨1, by omega, by go_num, by rw [HS1.out, HG.out, HW.out]; rfl, HB1.out⟩
          case measure => simp [intOf]; omega
        · have HW := hid hw
          clear hw
          have HC := hid (fun d os => Calls.regrown_of (specEvent_is T false HW.out HX.out a1 c1 (Sort.grow (redrawn wr d) os) (HT.out.below (below_regrown wr d os))))
          have d0' := cell_regrown d0
          have d1' := cell_regrown d1
          go_wp2_with fail
          refine wp_region_quiet_below (by kernel_rfl) (by kernel_rfl) ?_
          repeat (go_big_quiet_step (exact HC.out _ _))
          refine wpQuiet_nil ?_
          intro _ hw'
          obtain ⟨⟨dq, osq⟩, hw''⟩ := hw'
          subst hw''
          have HB1 := hid (HB.out.trans ((below_regrown wr dq osq).mono HB.out.size))
          go_wp2_with fail
          go_ret
          exact ⟨ret_bool (HNo.out (by rw [HS1.out, HW.out]; simp)).symm, HB1.out⟩
      | succ j =>
        obtain ⟨p0, _⟩ := (hc j (by omega)).below HB.out hb
        simp only [Nat.add_sub_cancel] at HS1
        generalize evAt E (j + 1) = T at *
        generalize evAt E j = U at *
        clear hc
        rcases Bool.eq_false_or_eq_true (evR T) with hw | hw
        · have HW := hid hw
          clear hw
          by_cases hx : U.1 ≤ T.1
          · have HC := hid (fun d os => Calls.regrown_of (specEvent_is T true HW.out HX.out a1 c1 (Sort.grow (redrawn wr d) os) (HT.out.below (below_regrown wr d os))))
            have d0' := cell_regrown d0
            have d1' := cell_regrown d1
            have p0' := cell_regrown p0
            go_wp2_with fail
            refine wp_region_quiet_below (by kernel_rfl) (by kernel_rfl) ?_
            repeat (go_big_quiet_step (exact HC.out _ _))
            refine wpQuiet_nil ?_
            intro _ hw'
            obtain ⟨⟨dq, osq⟩, hw''⟩ := hw'
            subst hw''
            have HB1 := hid (HB.out.trans ((below_regrown wr dq osq).mono HB.out.size))
            go_wp2_with fail
            go_roundw
            case rel => exact ⟨j + 2, by omega, by go_num, by rw [HS1.out, HG.out, HW.out]; simp [hx], HB1.out⟩
            case measure => simp [intOf]; omega
          · have HC := hid (fun d os => Calls.regrown_of (specEvent_is T true HW.out HX.out a1 c1 (Sort.grow (redrawn wr d) os) (HT.out.below (below_regrown wr d os))))
            have d0' := cell_regrown d0
            have d1' := cell_regrown d1
            have p0' := cell_regrown p0
            go_wp2_with fail
            refine wp_region_quiet_below (by kernel_rfl) (by kernel_rfl) ?_
            repeat (go_big_quiet_step (exact HC.out _ _))
            refine wpQuiet_nil ?_
            intro _ hw'
            obtain ⟨⟨dq, osq⟩, hw''⟩ := hw'
            subst hw''
            have HB1 := hid (HB.out.trans ((below_regrown wr dq osq).mono HB.out.size))
            go_wp2_with fail
            go_ret
            exact ⟨ret_bool (HNo.out (by rw [HS1.out, HW.out]; simp; omega)).symm, HB1.out⟩
        · have HW := hid hw
          clear hw
          have HC := hid (fun d os => Calls.regrown_of (specEvent_is T false HW.out HX.out a1 c1 (Sort.grow (redrawn wr d) os) (HT.out.below (below_regrown wr d os))))
          have d0' := cell_regrown d0
          have d1' := cell_regrown d1
          go_wp2_with fail
          refine wp_region_quiet_below (by kernel_rfl) (by kernel_rfl) ?_
          repeat (go_big_quiet_step (exact HC.out _ _))
          refine wpQuiet_nil ?_
          intro _ hw'
          obtain ⟨⟨dq, osq⟩, hw''⟩ := hw'
          subst hw''
          have HB1 := hid (HB.out.trans ((below_regrown wr dq osq).mono HB.out.size))
          go_wp2_with fail
          go_ret
          exact ⟨ret_bool (HNo.out (by rw [HS1.out, HW.out]; simp)).symm, HB1.out⟩
    · have hk' : k = E.length := by omega
      subst hk'
      have HN := hid (trB_yes E (by omega) HG.out)
      go_wp2_with fail
      go_ret
      exact ⟨ret_bool HN.out.symm, HB.out⟩
/-- The latest Time of the first k. -/
def lastTr (E : List Evt) (k : Nat) : Int := if k = 0 then 0 else (evAt E (k - 1)).1
theorem lastTr_le (E : List Evt) (k : Nat) (h : evR (evAt E k) = true) : (k == 0 || decide ((evAt E (k - 1)).1 ≤ (evAt E k).1)) = decide (lastTr E k ≤ (evAt E k).1) := by
  have := (evR_time _ h).1
  unfold lastTr
  by_cases e : k = 0
  · subst e; simp; omega
  · simp [e]
theorem implEvent_is (T : Evt) (v : Bool) (hv : evR T = v) (hok : EvOk T) (a : Option Addr) (c : Nat) (w : World) (hA : TsAt w a T.2) (hkw : Kw w) (hgl : 1 < w.heap.size) :
    Calls Tryd.prog 42 #[.agg #[.int .i64 T.1, .slice a T.2.length c]] w fun e w' => e = .returned (.bool v) ∧ Below w.heap.size w w' := by
  subst hv
  exact implEvent_any T.1 T.2 _ rfl a c hok.2.1 hok.2.2 w hA hkw hgl
set_option maxRecDepth 20000 in
set_option maxHeartbeats 2000000 in
theorem implTrace_any (E : List Evt) (n : Nat) (hn : E.length = n) (a : Option Addr) (c : Nat) (hs : ∀ i, i < E.length → EvOk (evAt E i)) (hl : n ≤ maxLen) (w : World) (hA : EsAt w a E) (hkw : Kw w) (hgl : 1 < w.heap.size) :
    Calls Tryd.prog 26 #[.slice a n c] w fun e w' => e = .returned (.bool (trB E)) ∧ Below w.heap.size w w' := by
  unfold maxLen at hl
  subst hn
  have HS := hid hs
  have HA := hid hA
  have HK := hid hkw
  clear hs hA hkw
  by_cases h8 : 60 < E.length
  · have HN := hid (trB_long E h8)
    go_enter Tryd.func26, Tryd.ntmps26
    go_wp2_with fail
    go_ret
    exact ⟨ret_bool HN.out.symm, Below.refl _ _⟩
  go_enter Tryd.func26, Tryd.ntmps26
  go_wp2_with fail
  go_loopw [3, 11] (fun s t wr => ∃ k : Nat, k ≤ E.length ∧ t = .int .i64 k ∧ s = .int .i64 (lastTr E k) ∧ trTo E k = true ∧ Below w.heap.size w wr) (fun _ t _ => E.length - (intOf t).toNat)
  case atStart => exact ⟨0, Nat.zero_le _, rfl, rfl, rfl, Below.refl _ _⟩
  case round =>
    obtain ⟨k, hk, rfl, rfl, hg, hbel⟩ := hrel
    have HG := hid hg
    have HB := hid hbel
    clear hg hbel
    by_cases hlt : k < E.length
    · have HS1 := hid (trTo_succ E k)
      have HNo := hid (trB_no E k hlt)
      have HLe := hid (lastTr_le E k)
      have HL1 : Hid (lastTr E (k + 1) = (evAt E k).1) := by show lastTr E (k + 1) = _; simp [lastTr]
      rcases HA.out with h0 | ⟨b, rfl, hb, hc⟩
      · omega
      obtain ⟨d0, a1, c1, d1, hT⟩ := (hc k hlt).below HB.out hb
      have HX := hid (HS.out k hlt)
      have hbl : b < wr.heap.size := Nat.lt_of_lt_of_le hb HB.out.size
      have hgr : 1 < wr.heap.size := Nat.lt_of_lt_of_le hgl HB.out.size
      have HK1 := hid (HK.out.below HB.out hgl)
      have HT := hid hT
      clear hT hc
      generalize evAt E k = T at *
      have HB2 := hid ((Below.refl wr.heap.size wr).alloc (Nat.le_refl _) (.cells #[.int .i64 T.1, .slice a1 T.2.length c1] 45))
      have HX2 := hid (BoxE.new wr T.1 (.slice a1 T.2.length c1) 45)
      have HT2 := hid (HT.out.below HB2.out)
      generalize lastTr E k = last at *
      rcases Bool.eq_false_or_eq_true (evR T) with hw | hw
      · have HW := hid hw
        clear hw
        by_cases hx : last ≤ T.1
        · go_wp2_with (go_at_call 42; refine (implEvent_is T true HW.out HX.out a1 c1 _ HT2.out (HK1.out.below HB2.out hgr) (Nat.lt_of_lt_of_le hgr HB2.out.size)).mono ?_; rintro e w1 ⟨rfl, hb1⟩; have HB1 : Hid (Below w.heap.size w w1) := (HB.out.trans (HB2.out.mono HB.out.size)).trans (hb1.mono (Nat.le_trans HB.out.size HB2.out.size)); obtain ⟨hq, x0, x1⟩ := HX2.out.below hb1; clear hb1)
          go_roundw
          case rel => exact ⟨k + 1, by omega, by go_num, by rw [HL1.out], by rw [HS1.out, HG.out, HW.out, HLe.out HW.out]; simp [hx], HB1.out⟩
          case measure => simp [intOf]; omega
        · go_wp2_with (go_at_call 42; refine (implEvent_is T true HW.out HX.out a1 c1 _ HT2.out (HK1.out.below HB2.out hgr) (Nat.lt_of_lt_of_le hgr HB2.out.size)).mono ?_; rintro e w1 ⟨rfl, hb1⟩; have HB1 : Hid (Below w.heap.size w w1) := (HB.out.trans (HB2.out.mono HB.out.size)).trans (hb1.mono (Nat.le_trans HB.out.size HB2.out.size)); obtain ⟨hq, x0, x1⟩ := HX2.out.below hb1; clear hb1)
          go_ret
          exact ⟨ret_bool (HNo.out (by rw [HS1.out, HW.out, HLe.out HW.out]; simp; omega)).symm, HB1.out⟩
      · have HW := hid hw
        clear hw
        go_wp2_with (go_at_call 42; refine (implEvent_is T false HW.out HX.out a1 c1 _ HT2.out (HK1.out.below HB2.out hgr) (Nat.lt_of_lt_of_le hgr HB2.out.size)).mono ?_; rintro e w1 ⟨rfl, hb1⟩; have HB1 : Hid (Below w.heap.size w w1) := (HB.out.trans (HB2.out.mono HB.out.size)).trans (hb1.mono (Nat.le_trans HB.out.size HB2.out.size)); obtain ⟨hq, x0, x1⟩ := HX2.out.below hb1; clear hb1)
        go_ret
        exact ⟨ret_bool (HNo.out (by rw [HS1.out, HW.out]; simp)).symm, HB1.out⟩
    · have hk' : k = E.length := by omega
      subst hk'
      have HN := hid (trB_yes E (by omega) HG.out)
      generalize lastTr E E.length = q
      go_wp2_with fail
      go_ret
      exact ⟨ret_bool HN.out.symm, HB.out⟩
end Go.Proofs.YtnbegpplbjppoaaDoor
