/-
  The model's l06Cell: a right Keep with times.
-/
import Derived.Test.YtljhokoojodjnaaGreatDoorMnS0
namespace Go.Proofs.YtljhokoojodjnaaGreatDoor
open Go.RowKit
set_option linter.unusedVariables false
set_option linter.unusedSimpArgs false
set_option maxRecDepth 20000 in
set_option maxHeartbeats 16000000 in
theorem cellS_8 (f : List Nd) (fb fc : Nat) (cnt now : Int) (h0 : 0 ≤ cnt) (C : List Cl) (cb co cc : Nat) (i : Nat) (hi : i < f.length) (hi2 : i < C.length) (hl : C.length ≤ 1048576) (hlf : f.length ≤ 1048576) (hlt : (clAt C i).ts.length ≤ 2000000) (hw : wasB cnt (ndAt f i) (clAt C i).was = true) (hk : keepsK (ndAt f i).k = true) (hkr : krB (clAt C i).lo (clAt C i).hi (clAt C i).ts = true) (e1 : ((clAt C i).lo == (ndAt f i).lo) = true) (e2 : ((clAt C i).hi == (ndAt f i).hi) = true) (hn0 : 0 < (clAt C i).ts.length) (hc : 0 < cnt) (v : Bool) (hv : decide (lastT (clAt C i).ts ≤ now) = v) (w : World) (hN : NodeAt w fb (i * 6) (ndAt f i)) (hfb : fb < w.heap.size) (hC : CkAt w cb (co + i * 4) (clAt C i)) (hcb : cb < w.heap.size) :
    Calls Tryz.prog 115 #[.agg #[.slice (some ⟨fb, 0, none⟩) f.length fc, .int .i64 cnt, .int .i64 now, .slice (some ⟨cb, co, none⟩) C.length cc], .int .i64 i] w fun e w' => e = .returned (.bool v) ∧ Below w.heap.size w w' := by
  obtain ⟨n0, n1, n2, n3, n4, n5⟩ := hN
  obtain ⟨d0, d1, d3, a, cap, d2, _, hA⟩ := hC
  have HA := hid hA
  clear hA
  have hf1 : fb < w.heap.size + 1 := by omega
  have hf2 : fb < w.heap.size + 1 + 1 := by omega
  have hc1 : cb < w.heap.size + 1 := by omega
  have hc2 : cb < w.heap.size + 1 + 1 := by omega
  generalize ndAt f i = x at *
  generalize clAt C i = c at *
  have HXa := hid (ckbox_a w (.slice (some ⟨fb, 0, none⟩) f.length fc) cnt now (.slice (some ⟨cb, co, none⟩) C.length cc) x c a cap 46 105 132)
  have HXb := hid (ckbox_b w (.slice (some ⟨fb, 0, none⟩) f.length fc) cnt now (.slice (some ⟨cb, co, none⟩) C.length cc) x c a cap 46 105 132)
  have Shw := hid hw
  have Shk := hid hk
  have Shkr := hid hkr
  have Se1 := hid e1
  have Se2 := hid e2
  have Shn0 := hid hn0
  have Shc := hid hc
  have Shv := hid hv
  clear hw hk hkr e1 e2 hn0 hc hv
  go_enter Tryz.func115, Tryz.ntmps115
  go_wp2_with fail
  go_region
  · have HX := HXa
    have HB := hid (bb3 w (.cells #[.slice (some ⟨fb, 0, none⟩) f.length fc, .int .i64 cnt, .int .i64 now, .slice (some ⟨cb, co, none⟩) C.length cc] 46) (.cells #[.int .i64 c.lo, .int .i64 c.hi, .slice a c.ts.length cap, .bool c.was] 105) (.cells #[.int .i64 x.k, .int .i64 x.a, .int .i64 x.b, .int .i64 x.lo, .int .i64 x.hi, .string x.nm] 132))
    clear HXa HXb n0 n1 n2 n3 n4 n5 d0 d1 d2 d3 hf1 hf2 hc1 hc2 hfb hcb hi hi2
    generalize (((w.alloc (.cells #[.slice (some ⟨fb, 0, none⟩) f.length fc, .int .i64 cnt, .int .i64 now, .slice (some ⟨cb, co, none⟩) C.length cc] 46)).alloc (.cells #[.int .i64 c.lo, .int .i64 c.hi, .slice a c.ts.length cap, .bool c.was] 105)).alloc (.cells #[.int .i64 x.k, .int .i64 x.a, .int .i64 x.b, .int .i64 x.lo, .int .i64 x.hi, .string x.nm] 132)).drew = W at *
    generalize w.heap.size + 1 + 1 = qx at *
    generalize w.heap.size + 1 = qc at *
    have HA1 := hid (HA.out.below HB.out (Nat.le_refl _))
    obtain ⟨l0, l1, l2, m1, m2, x0, x3, x4, k0, k1, k2, k3⟩ := HX.out
    obtain ⟨lo, hi, ts, was⟩ := c
    simp only at *
    generalize hn : ts.length = n at *
    have HNn := hid hn
    clear hn HX HA
    have hw := Shw.out
    have hk := Shk.out
    have hkr := Shkr.out
    have e1 := Se1.out
    have e2 := Se2.out
    have hn0 := Shn0.out
    have hc := Shc.out
    have hv := Shv.out
    clear Shw Shk Shkr Se1 Se2 Shn0 Shc Shv
    have HK := hid (fun w => keepsS_is x.k true hk w)
    have hpass := wasB_ways h0 hw
    clear hk hw
    have HC : Hid (∀ d os, Calls Tryz.prog 148 #[.agg #[.int .i64 lo, .int .i64 hi, .slice a n cap]] (Sort.grow (redrawn W d) os) fun e w'' => e = .returned (.bool true) ∧ ∃ p : Regrown, w'' = Sort.grow (redrawn W p.d) p.os) := fun d os => Calls.regrown_of (specKr_is lo hi ts true hkr n HNn.out a cap (by omega) _ (HA1.out.on (below_regrown W d os)))
    clear hkr
    obtain ⟨m, hm⟩ : ∃ m, n = m + 1 := ⟨n - 1, by omega⟩
    have hn1 : ((n : Int) == 0) = false := by simp; omega
    have hnm : (n : Int) - 1 = (m : Int) := by omega
    have hmn : m < n := by omega
    have hLa : lastT ts = zAt ts m := lastT_at (by rw [HNn.out, hm])
    rcases HA1.out with hA2 | ⟨b, off, rfl, hb, hcells⟩
    · have := HNn.out; omega
    have t0' := cell_regrown (hcells m (by have := HNn.out; omega))
    rw [hLa] at hv
    have HVv := hid hv
    clear hv
    have hc' : (cnt == 0) = false := by simp; omega
    generalize zAt ts m = T at *
    clear hcells hLa hm HA1 hb
    by_cases hT : T ≤ now
    all_goals
      rcases hpass with rfl | ⟨rfl, p1, p2⟩
      all_goals
        go_wp2_with (go_at_call 116; refine (HK.out _).mono ?_; rintro e w' ⟨rfl, rfl⟩)
        have m1' := cell_regrown m1
        have m2' := cell_regrown m2
        have x3' := cell_regrown x3
        have x4' := cell_regrown x4
        have k0' := cell_regrown k0
        have k1' := cell_regrown k1
        have k2' := cell_regrown k2
        clear m1 m2 x0 x3 x4 k0 k1 k2 k3 l0 l1 l2
        refine wp_region_quiet_below (by kernel_rfl) (by kernel_rfl) ?_
        repeat (go_big_quiet_step (exact HC.out _ _))
        refine wpQuiet_nil ?_
        intro _ hw'
        obtain ⟨⟨dq, osq⟩, hw''⟩ := hw'
        subst hw''
        have HB1 := hid (HB.out.trans ((below_regrown W dq osq).mono HB.out.size))
        go_wp2_with fail
        go_ret
        exact ⟨ret_bool (by rw [← HVv.out] <;> simp [hT]), HB1.out⟩
  · have HX := HXb
    have HB := hid (bb3 w (.cells #[.slice (some ⟨fb, 0, none⟩) f.length fc, .int .i64 cnt, .int .i64 now, .slice (some ⟨cb, co, none⟩) C.length cc] 46) (.cells #[.int .i64 x.k, .int .i64 x.a, .int .i64 x.b, .int .i64 x.lo, .int .i64 x.hi, .string x.nm] 132) (.cells #[.int .i64 c.lo, .int .i64 c.hi, .slice a c.ts.length cap, .bool c.was] 105))
    clear HXa HXb n0 n1 n2 n3 n4 n5 d0 d1 d2 d3 hf1 hf2 hc1 hc2 hfb hcb hi hi2
    generalize (((w.alloc (.cells #[.slice (some ⟨fb, 0, none⟩) f.length fc, .int .i64 cnt, .int .i64 now, .slice (some ⟨cb, co, none⟩) C.length cc] 46)).alloc (.cells #[.int .i64 x.k, .int .i64 x.a, .int .i64 x.b, .int .i64 x.lo, .int .i64 x.hi, .string x.nm] 132)).alloc (.cells #[.int .i64 c.lo, .int .i64 c.hi, .slice a c.ts.length cap, .bool c.was] 105)).drew = W at *
    generalize w.heap.size + 1 + 1 = qc at *
    generalize w.heap.size + 1 = qx at *
    have HA1 := hid (HA.out.below HB.out (Nat.le_refl _))
    obtain ⟨l0, l1, l2, m1, m2, x0, x3, x4, k0, k1, k2, k3⟩ := HX.out
    obtain ⟨lo, hi, ts, was⟩ := c
    simp only at *
    generalize hn : ts.length = n at *
    have HNn := hid hn
    clear hn HX HA
    have hw := Shw.out
    have hk := Shk.out
    have hkr := Shkr.out
    have e1 := Se1.out
    have e2 := Se2.out
    have hn0 := Shn0.out
    have hc := Shc.out
    have hv := Shv.out
    clear Shw Shk Shkr Se1 Se2 Shn0 Shc Shv
    have HK := hid (fun w => keepsS_is x.k true hk w)
    have hpass := wasB_ways h0 hw
    clear hk hw
    have HC : Hid (∀ d os, Calls Tryz.prog 148 #[.agg #[.int .i64 lo, .int .i64 hi, .slice a n cap]] (Sort.grow (redrawn W d) os) fun e w'' => e = .returned (.bool true) ∧ ∃ p : Regrown, w'' = Sort.grow (redrawn W p.d) p.os) := fun d os => Calls.regrown_of (specKr_is lo hi ts true hkr n HNn.out a cap (by omega) _ (HA1.out.on (below_regrown W d os)))
    clear hkr
    obtain ⟨m, hm⟩ : ∃ m, n = m + 1 := ⟨n - 1, by omega⟩
    have hn1 : ((n : Int) == 0) = false := by simp; omega
    have hnm : (n : Int) - 1 = (m : Int) := by omega
    have hmn : m < n := by omega
    have hLa : lastT ts = zAt ts m := lastT_at (by rw [HNn.out, hm])
    rcases HA1.out with hA2 | ⟨b, off, rfl, hb, hcells⟩
    · have := HNn.out; omega
    have t0' := cell_regrown (hcells m (by have := HNn.out; omega))
    rw [hLa] at hv
    have HVv := hid hv
    clear hv
    have hc' : (cnt == 0) = false := by simp; omega
    generalize zAt ts m = T at *
    clear hcells hLa hm HA1 hb
    by_cases hT : T ≤ now
    all_goals
      rcases hpass with rfl | ⟨rfl, p1, p2⟩
      all_goals
        go_wp2_with (go_at_call 116; refine (HK.out _).mono ?_; rintro e w' ⟨rfl, rfl⟩)
        have m1' := cell_regrown m1
        have m2' := cell_regrown m2
        have x3' := cell_regrown x3
        have x4' := cell_regrown x4
        have k0' := cell_regrown k0
        have k1' := cell_regrown k1
        have k2' := cell_regrown k2
        clear m1 m2 x0 x3 x4 k0 k1 k2 k3 l0 l1 l2
        refine wp_region_quiet_below (by kernel_rfl) (by kernel_rfl) ?_
        repeat (go_big_quiet_step (exact HC.out _ _))
        refine wpQuiet_nil ?_
        intro _ hw'
        obtain ⟨⟨dq, osq⟩, hw''⟩ := hw'
        subst hw''
        have HB1 := hid (HB.out.trans ((below_regrown W dq osq).mono HB.out.size))
        go_wp2_with fail
        go_ret
        exact ⟨ret_bool (by rw [← HVv.out] <;> simp [hT]), HB1.out⟩
end Go.Proofs.YtljhokoojodjnaaGreatDoor
