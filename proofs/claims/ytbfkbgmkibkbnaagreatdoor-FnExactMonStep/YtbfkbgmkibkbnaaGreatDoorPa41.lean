/-
  The program's MonRight, by its contract.
-/
import Derived.Test.YtbfkbgmkibkbnaaGreatDoorPa27
namespace Go.Proofs.YtbfkbgmkibkbnaaGreatDoor
open Go.RowKit
set_option linter.unusedVariables false
set_option linter.unusedSimpArgs false
/-- What is asked of a Monitor that the program has. -/
structure MonIn (w : World) (fb : Nat) (f : List Nd) (ca : Option Addr) (C : List Cl) : Prop where
  nodes : NodesAt w fb f
  ok : ∀ i, i < f.length → ndOk (ndAt f i)
  lf : f.length ≤ 1048576
  cells : CksAt w ca C
  lc : C.length ≤ 1048576
  lt : ∀ i, i < C.length → (clAt C i).ts.length ≤ 2000000
theorem MonIn.on {w w' : World} {fb : Nat} {f : List Nd} {ca : Option Addr} {C : List Cl} (h : MonIn w fb f ca C) (hb : Below w.heap.size w w') : MonIn w' fb f ca C :=
  ⟨h.nodes.below hb h.nodes.1, h.ok, h.lf, h.cells.on hb, h.lc, h.lt⟩
theorem lf_max {n : Nat} (h : n ≤ 1048576) : n ≤ maxLen := by unfold maxLen; omega
theorem monB_right {f : List Nd} {cnt now : Int} {C : List Cl} (h : rightB f = false) : monB f cnt now C = false := by simp [monB, h]
theorem monB_len {f : List Nd} {cnt now : Int} {C : List Cl} (h : ¬ C.length = f.length) : monB f cnt now C = false := by simp [monB, h]
theorem monB_cnt {f : List Nd} {cnt now : Int} {C : List Cl} (h : timeB cnt = false) : monB f cnt now C = false := by simp [monB, h]
theorem monB_now {f : List Nd} {cnt now : Int} {C : List Cl} (h : timeB now = false) : monB f cnt now C = false := by simp [monB, h]
theorem monB_zero {f : List Nd} {cnt now : Int} {C : List Cl} (h : ((cnt == 0) && (now != 0)) = true) : monB f cnt now C = false := by simp only [monB, h, Bool.not_true, Bool.false_and, Bool.and_false]
theorem monB_cells {f : List Nd} {cnt now : Int} {C : List Cl} (h1 : rightB f = true) (h2 : C.length = f.length) (h3 : timeB cnt = true) (h4 : timeB now = true) (h5 : ((cnt == 0) && (now != 0)) = false) : monB f cnt now C = cellsTo f cnt now C f.length := by
  simp only [monB, h1, h2, h3, h4, h5, decide_true, Bool.true_and, Bool.not_false]
theorem timeB_not {t : Int} (h : timeB t = true) : 0 ≤ t ∧ t ≤ 1000000 := by simpa [timeB] using h
theorem timeB_no {t : Int} (h : timeB t = false) : t < 0 ∨ 1000000 < t := by
  simp only [timeB, decide_eq_false_iff_not] at h
  omega
theorem NBox6.new (w : World) (x : Nd) (t : TypeId) : NodeAt (w.alloc (.cells #[.int .i64 x.k, .int .i64 x.a, .int .i64 x.b, .int .i64 x.lo, .int .i64 x.hi, .string x.nm] t)) w.heap.size 0 x :=
  ⟨by simp [go_sem], by simp [go_sem], by simp [go_sem], by simp [go_sem], by simp [go_sem], by simp [go_sem]⟩
set_option maxRecDepth 20000 in
set_option maxHeartbeats 8000000 in
theorem implMon_any (f : List Nd) (fb fc : Nat) (cnt now : Int) (C : List Cl) (ca : Option Addr) (cc : Nat) (v : Bool) (hv : monB f cnt now C = v) (w : World) (hM : MonIn w fb f ca C) (hkw : Kw w) (hg : 1 < w.heap.size) :
    Calls Tryz.prog 53 #[moV (some ⟨fb, 0, none⟩) f.length fc cnt now ca C.length cc] w fun e w' => e = .returned (.bool v) ∧ Below w.heap.size w w' := by
  have HV := hid hv
  have HM := hid hM
  have HB0 := hid (below_one' w (.cells #[.slice (some ⟨fb, 0, none⟩) f.length fc, .int .i64 cnt, .int .i64 now, .slice ca C.length cc] 34))
  have HX0 := hid (MBox.new w (some ⟨fb, 0, none⟩) f.length fc cnt now ca C.length cc 34)
  have HFr : Hid (∀ b, rightB f = b → Calls Tryz.prog 44 #[.slice (some ⟨fb, 0, none⟩) f.length fc] (w.alloc (.cells #[.slice (some ⟨fb, 0, none⟩) f.length fc, .int .i64 cnt, .int .i64 now, .slice ca C.length cc] 34)) fun e w' => e = .returned (.bool b) ∧ Below (w.alloc (.cells #[.slice (some ⟨fb, 0, none⟩) f.length fc, .int .i64 cnt, .int .i64 now, .slice ca C.length cc] 34)).heap.size (w.alloc (.cells #[.slice (some ⟨fb, 0, none⟩) f.length fc, .int .i64 cnt, .int .i64 now, .slice ca C.length cc] 34)) w') := fun b hb => by subst hb; exact implRight_any f fb fc _ (hM.on HB0.out).nodes HM.out.ok (lf_max HM.out.lf) (hkw.below HB0.out hg) (by simp; omega)
  have hlf := hM.lf
  have hlc := hM.lc
  have HU : Hid (∀ x : Nd, ndV x = .agg #[.int .i64 x.k, .int .i64 x.a, .int .i64 x.b, .int .i64 x.lo, .int .i64 x.hi, .string x.nm]) := fun _ => rfl
  unfold moV
  clear hv hM hkw hg
  rcases Bool.eq_false_or_eq_true (rightB f) with hr | hr
  · have HF := hid (HFr.out true hr)
    clear HFr
    by_cases hle : C.length = f.length
    · have hne : ((C.length : Int) != (f.length : Int)) = false := by simp [hle]
      rcases Bool.eq_false_or_eq_true (timeB cnt) with ht | ht
      · obtain ⟨hc1, hc2⟩ := timeB_not ht
        rcases Bool.eq_false_or_eq_true (timeB now) with ht2 | ht2
        · have HT2 := hid (fun w => timeI_is now true ht2 w)
          have hcase : (cnt == 0) = true ∧ (now != 0) = true ∨ ((cnt == 0) && (now != 0)) = false ∧ ((cnt == 0) = false ∨ ((cnt == 0) = true ∧ (now != 0) = false)) := by cases (cnt == 0) <;> cases (now != 0) <;> simp
          rcases hcase with ⟨hz1, hz2⟩ | ⟨hzz, hz⟩
          · have HVF := hid (HV.out.symm.trans (monB_zero (by rw [hz1, hz2]; rfl)))
            clear HV hr ht ht2 hle
            go_enter Tryz.func53, Tryz.ntmps53
            go_wp2_with (first | (go_at_call 44; refine HF.out.mono ?_; rintro e w1 ⟨rfl, hb1⟩; have HB1 := hid (HB0.out.trans (hb1.mono HB0.out.size)); obtain ⟨_, m0, m1, m2, m3⟩ := HX0.out.on hb1; clear hb1) | (go_at_call 95; refine (HT2.out _).mono ?_; rintro e w' ⟨rfl, rfl⟩))
            go_ret
            exact ⟨ret_bool HVF.out.symm, HB1.out⟩
          · have HVC := hid (HV.out.symm.trans (monB_cells hr hle ht ht2 hzz))
            have HLe := hid hle
            clear HV hr ht ht2 hzz hle
            rcases hz with hz | ⟨hz, hz2⟩
            all_goals
              go_enter Tryz.func53, Tryz.ntmps53
              go_wp2_with (first | (go_at_call 44; refine HF.out.mono ?_; rintro e w1 ⟨rfl, hb1⟩; have HB1 := hid (HB0.out.trans (hb1.mono HB0.out.size)); have HX1 := hid (HX0.out.on hb1); obtain ⟨_, m0, m1, m2, m3⟩ := HX1.out; clear hb1) | (go_at_call 95; refine (HT2.out _).mono ?_; rintro e w' ⟨rfl, rfl⟩))
              clear m0 m1 m2 m3
              go_loopw [45] (fun t wr => ∃ k : Nat, k ≤ f.length ∧ t = .int .i64 k ∧ cellsTo f cnt now C k = true ∧ Below w1.heap.size w1 wr) (fun t _ => f.length - (intOf t).toNat)
              case atStart => exact ⟨0, Nat.zero_le _, rfl, rfl, Below.refl _ _⟩
              case round =>
                obtain ⟨k, hk, rfl, hg, hbel⟩ := hrel
                have HG := hid hg
                have HBr := hid hbel
                have HBE := hid (HB1.out.trans (hbel.mono HB1.out.size))
                have HXr := hid (HX1.out.on hbel)
                clear hg hbel
                by_cases hlt : k < f.length
                · have HMr := hid (HM.out.on HBE.out)
                  have hltC : k < C.length := by have := HLe.out; omega
                  rcases HMr.out.cells with hz0 | ⟨cb, co, rfl, hcb, hcells⟩
                  · omega
                  obtain ⟨n0, n1, n2, n3, n4, n5⟩ := HMr.out.nodes.2 k hlt
                  have hfb := HMr.out.nodes.1
                  have HCk := hid (hcells k hltC)
                  have HSu := hid (cellsTo_succ f cnt now C k)
                  have hltk := HMr.out.lt k hltC
                  have HCF := hid (fun h => HVC.out.trans (cellsTo_false f cnt now C k f.length hlt h))
                  have HBn := hid (below_one' wr (.cells #[.int .i64 (ndAt f k).k, .int .i64 (ndAt f k).a, .int .i64 (ndAt f k).b, .int .i64 (ndAt f k).lo, .int .i64 (ndAt f k).hi, .string (ndAt f k).nm] 81))
                  have HNn := hid (NBox6.new wr (ndAt f k) 81)
                  have HXn := hid (HXr.out.on HBn.out)
                  have HCn := hid (HCk.out.below HBn.out (Nat.le_refl _) hcb)
                  clear hcells HCk
                  generalize ndAt f k = x at *
                  generalize hcc : clAt C k = c at *
                  clear hcc
                  obtain ⟨lo, hi, ts, was⟩ := c
                  obtain ⟨q0, m0, m1, m2, m3⟩ := HXr.out
                  have hltk' : ts.length ≤ 2000000 := hltk
                  clear hltk
                  go_wp2_with fail
                  clear n0 n1 n2 n3 n4 n5 m0 m1 m2 m3 q0
                  generalize wr.alloc (.cells #[.int .i64 x.k, .int .i64 x.a, .int .i64 x.b, .int .i64 x.lo, .int .i64 x.hi, .string x.nm] 81) = V at *
                  generalize wr.heap.size = qn at HNn ⊢
                  obtain ⟨y0, y1, y2, y3, y4, y5⟩ := HNn.out
                  obtain ⟨_, m0, m1, m2, m3⟩ := HXn.out
                  obtain ⟨d0, d1, d3, ta, tc, d2, _, hT⟩ := HCn.out
                  have HT := hid hT
                  have m0' := cell_regrown m0
                  have m1' := cell_regrown m1
                  have m2' := cell_regrown m2
                  have m3' := cell_regrown m3
                  have y0' := cell_regrown y0
                  have y1' := cell_regrown y1
                  have y2' := cell_regrown y2
                  have y3' := cell_regrown y3
                  have y4' := cell_regrown y4
                  have y5' := cell_regrown y5
                  have d0' := cell_regrown d0
                  have d1' := cell_regrown d1
                  have d2' := cell_regrown d2
                  have d3' := cell_regrown d3
                  simp only at d0' d1' d2' d3'
                  clear m0 m1 m2 m3 y0 y1 y2 y3 y4 y5 d0 d1 d2 d3 hT HCn HNn HXn
                  have HW1 : Hid (∀ b, wasB cnt x was = b → ∀ d os, Calls Tryz.prog 96 #[.agg #[.slice (some ⟨fb, 0, none⟩) f.length fc, .int .i64 cnt, .int .i64 now, .slice (some ⟨cb, co, none⟩) C.length cc], .agg #[.int .i64 x.k, .int .i64 x.a, .int .i64 x.b, .int .i64 x.lo, .int .i64 x.hi, .string x.nm], .bool was] (Sort.grow (redrawn V d) os) fun e w'' => e = .returned (.bool b) ∧ ∃ p : Regrown, w'' = Sort.grow (redrawn V p.d) p.os) := fun b hb d os => Calls.regrown_of (by have := wasI_is (.bool true) (some ⟨fb, 0, none⟩) f.length fc cnt now (some ⟨cb, co, none⟩) C.length cc x was b hb (Sort.grow (redrawn V d) os); rw [HU.out] at this; exact this)
                  have HK1 : Hid (∀ b, keptB cnt now x ⟨lo, hi, ts, was⟩ = b → ∀ d os, Calls Tryz.prog 97 #[.agg #[.slice (some ⟨fb, 0, none⟩) f.length fc, .int .i64 cnt, .int .i64 now, .slice (some ⟨cb, co, none⟩) C.length cc], .agg #[.int .i64 x.k, .int .i64 x.a, .int .i64 x.b, .int .i64 x.lo, .int .i64 x.hi, .string x.nm], .agg #[.int .i64 lo, .int .i64 hi, .slice ta ts.length tc]] (Sort.grow (redrawn V d) os) fun e w'' => e = .returned (.bool b) ∧ ∃ p : Regrown, w'' = Sort.grow (redrawn V p.d) p.os) := fun b hb d os => Calls.regrown_of (by have := keptI_is (some ⟨fb, 0, none⟩) f.length fc cnt now hc1 (some ⟨cb, co, none⟩) C.length cc x ⟨lo, hi, ts, was⟩ ts.length rfl ta tc hltk' b hb (Sort.grow (redrawn V d) os) (HT.out.on (below_regrown V d os)); rw [HU.out] at this; exact this)
                  rcases Bool.eq_false_or_eq_true (wasB cnt x was) with hw | hw
                  · have HW := hid (HW1.out true hw)
                    rcases Bool.eq_false_or_eq_true (keptB cnt now x ⟨lo, hi, ts, was⟩) with hk2 | hk2
                    · have HK := hid (HK1.out true hk2)
                      have HS2 : Hid (cellsTo f cnt now C (k + 1) = true) := by show cellsTo f cnt now C (k + 1) = true; rw [HSu.out, HG.out]; unfold cellB; rw [hw, hk2]; rfl
                      clear HW1 HK1 hw hk2 HSu HCF
                      refine wp_region_quiet_below (by kernel_rfl) (by kernel_rfl) ?_
                      repeat (go_big_quiet_step (first | exact HW.out _ _ | exact HK.out _ _))
                      refine wpQuiet_nil ?_
                      intro _ hw'
                      obtain ⟨⟨dq, osq⟩, hw''⟩ := hw'
                      subst hw''
                      have HB2 := hid (HBr.out.trans ((HBn.out.trans ((below_regrown V dq osq).mono HBn.out.size)).mono HBr.out.size))
                      go_wp2_with fail
                      go_roundw
                      case rel => exact ⟨k + 1, by omega, by go_num, HS2.out, HB2.out⟩
                      case measure => simp [intOf]; omega
                    · have HK := hid (HK1.out false hk2)
                      have HVF := hid (HCF.out (by unfold cellB; rw [hk2]; simp))
                      clear HW1 HK1 hw hk2 HSu HCF
                      refine wp_region_quiet_below (by kernel_rfl) (by kernel_rfl) ?_
                      repeat (go_big_quiet_step (first | exact HW.out _ _ | exact HK.out _ _))
                      refine wpQuiet_nil ?_
                      intro _ hw'
                      obtain ⟨⟨dq, osq⟩, hw''⟩ := hw'
                      subst hw''
                      have HB2 := hid (HBE.out.trans ((HBn.out.trans ((below_regrown V dq osq).mono HBn.out.size)).mono HBE.out.size))
                      go_wp2_with fail
                      go_ret
                      exact ⟨ret_bool HVF.out.symm, HB2.out⟩
                  · have HW := hid (HW1.out false hw)
                    have HVF := hid (HCF.out (by unfold cellB; rw [hw]; rfl))
                    clear HW1 HK1 hw HSu HCF
                    refine wp_region_quiet_below (by kernel_rfl) (by kernel_rfl) ?_
                    repeat (go_big_quiet_step (exact HW.out _ _))
                    refine wpQuiet_nil ?_
                    intro _ hw'
                    obtain ⟨⟨dq, osq⟩, hw''⟩ := hw'
                    subst hw''
                    have HB2 := hid (HBE.out.trans ((HBn.out.trans ((below_regrown V dq osq).mono HBn.out.size)).mono HBE.out.size))
                    go_wp2_with fail
                    go_ret
                    exact ⟨ret_bool HVF.out.symm, HB2.out⟩
                · have hk' : k = f.length := by omega
                  subst hk'
                  go_wp2_with fail
                  go_ret
                  exact ⟨ret_bool (by rw [HVC.out, HG.out]), HBE.out⟩
        · have HT2 := hid (fun w => timeI_is now false ht2 w)
          have HVF := hid (HV.out.symm.trans (monB_now ht2))
          clear HV hr ht ht2 hle
          go_enter Tryz.func53, Tryz.ntmps53
          go_wp2_with (first | (go_at_call 44; refine HF.out.mono ?_; rintro e w1 ⟨rfl, hb1⟩; have HB1 := hid (HB0.out.trans (hb1.mono HB0.out.size)); obtain ⟨_, m0, m1, m2, m3⟩ := HX0.out.on hb1; clear hb1) | (go_at_call 95; refine (HT2.out _).mono ?_; rintro e w' ⟨rfl, rfl⟩))
          go_ret
          exact ⟨ret_bool HVF.out.symm, HB1.out⟩
      · have HVF := hid (HV.out.symm.trans (monB_cnt ht))
        have htc := timeB_no ht
        clear HV hr ht hle
        rcases htc with htc | htc
        · go_enter Tryz.func53, Tryz.ntmps53
          go_wp2_with (go_at_call 44; refine HF.out.mono ?_; rintro e w1 ⟨rfl, hb1⟩; have HB1 := hid (HB0.out.trans (hb1.mono HB0.out.size)); obtain ⟨_, m0, m1, m2, m3⟩ := HX0.out.on hb1; clear hb1)
          go_ret
          exact ⟨ret_bool HVF.out.symm, HB1.out⟩
        · have htd : ¬ cnt < 0 := by omega
          go_enter Tryz.func53, Tryz.ntmps53
          go_wp2_with (go_at_call 44; refine HF.out.mono ?_; rintro e w1 ⟨rfl, hb1⟩; have HB1 := hid (HB0.out.trans (hb1.mono HB0.out.size)); obtain ⟨_, m0, m1, m2, m3⟩ := HX0.out.on hb1; clear hb1)
          go_ret
          exact ⟨ret_bool HVF.out.symm, HB1.out⟩
    · have HVF := hid (HV.out.symm.trans (monB_len hle))
      have hne : ((C.length : Int) != (f.length : Int)) = true := by simp; omega
      clear HV hr hle
      go_enter Tryz.func53, Tryz.ntmps53
      go_wp2_with (go_at_call 44; refine HF.out.mono ?_; rintro e w1 ⟨rfl, hb1⟩; have HB1 := hid (HB0.out.trans (hb1.mono HB0.out.size)); obtain ⟨_, m0, m1, m2, m3⟩ := HX0.out.on hb1; clear hb1)
      go_ret
      exact ⟨ret_bool HVF.out.symm, HB1.out⟩
  · have HF := hid (HFr.out false hr)
    have HVF := hid (HV.out.symm.trans (monB_right hr))
    clear HFr HV hr
    go_enter Tryz.func53, Tryz.ntmps53
    go_wp2_with (go_at_call 44; refine HF.out.mono ?_; rintro e w1 ⟨rfl, hb1⟩; have HB1 := hid (HB0.out.trans (hb1.mono HB0.out.size)); obtain ⟨_, m0, m1, m2, m3⟩ := HX0.out.on hb1; clear hb1)
    go_ret
    exact ⟨ret_bool HVF.out.symm, HB1.out⟩
end Go.Proofs.YtbfkbgmkibkbnaaGreatDoor
