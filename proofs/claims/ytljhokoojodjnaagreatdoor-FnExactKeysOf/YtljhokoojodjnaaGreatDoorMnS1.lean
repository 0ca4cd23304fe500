/-
  The model's l06Cell: Was is not as it must be, or the node keeps no times.
-/
import Derived.Test.YtljhokoojodjnaaGreatDoorMnS0
namespace Go.Proofs.YtljhokoojodjnaaGreatDoor
open Go.RowKit
set_option linter.unusedVariables false
set_option linter.unusedSimpArgs false
set_option maxRecDepth 20000 in
set_option maxHeartbeats 16000000 in
theorem cellS_1 (f : List Nd) (fb fc : Nat) (cnt now : Int) (h0 : 0 ≤ cnt) (C : List Cl) (cb co cc : Nat) (i : Nat) (hi : i < f.length) (hi2 : i < C.length) (hl : C.length ≤ 1048576) (hlf : f.length ≤ 1048576) (hlt : (clAt C i).ts.length ≤ 2000000) (hw : wasB cnt (ndAt f i) (clAt C i).was = false) (w : World) (hN : NodeAt w fb (i * 6) (ndAt f i)) (hfb : fb < w.heap.size) (hC : CkAt w cb (co + i * 4) (clAt C i)) (hcb : cb < w.heap.size) :
    Calls Tryz.prog 115 #[.agg #[.slice (some ⟨fb, 0, none⟩) f.length fc, .int .i64 cnt, .int .i64 now, .slice (some ⟨cb, co, none⟩) C.length cc], .int .i64 i] w fun e w' => e = .returned (.bool false) ∧ Below w.heap.size w w' := by
  obtain ⟨n0, n1, n2, n3, n4, n5⟩ := hN
  obtain ⟨d0, d1, d3, a, cap, d2, _, hA⟩ := hC
  have HA := hid hA
  clear hA
  have hf1 : fb < w.heap.size + 1 := by omega
  have hf2 : fb < w.heap.size + 1 + 1 := by omega
  have hc1 : cb < w.heap.size + 1 := by omega
  have hc2 : cb < w.heap.size + 1 + 1 := by omega
  generalize ndAt f i = x at *
  generalize clAt C i = c at *
  have HXa := hid (ckbox_a w (.slice (some ⟨fb, 0, none⟩) f.length fc) cnt now (.slice (some ⟨cb, co, none⟩) C.length cc) x c a cap 46 105 132)
  have HXb := hid (ckbox_b w (.slice (some ⟨fb, 0, none⟩) f.length fc) cnt now (.slice (some ⟨cb, co, none⟩) C.length cc) x c a cap 46 105 132)
  have Shw := hid hw
  clear hw
  go_enter Tryz.func115, Tryz.ntmps115
  go_wp2_with fail
  go_region
  · have HX := HXa
    have HB := hid (bb3 w (.cells #[.slice (some ⟨fb, 0, none⟩) f.length fc, .int .i64 cnt, .int .i64 now, .slice (some ⟨cb, co, none⟩) C.length cc] 46) (.cells #[.int .i64 c.lo, .int .i64 c.hi, .slice a c.ts.length cap, .bool c.was] 105) (.cells #[.int .i64 x.k, .int .i64 x.a, .int .i64 x.b, .int .i64 x.lo, .int .i64 x.hi, .string x.nm] 132))
    clear HXa HXb n0 n1 n2 n3 n4 n5 d0 d1 d2 d3 hf1 hf2 hc1 hc2 hfb hcb hi hi2
    generalize (((w.alloc (.cells #[.slice (some ⟨fb, 0, none⟩) f.length fc, .int .i64 cnt, .int .i64 now, .slice (some ⟨cb, co, none⟩) C.length cc] 46)).alloc (.cells #[.int .i64 c.lo, .int .i64 c.hi, .slice a c.ts.length cap, .bool c.was] 105)).alloc (.cells #[.int .i64 x.k, .int .i64 x.a, .int .i64 x.b, .int .i64 x.lo, .int .i64 x.hi, .string x.nm] 132)).drew = W at *
    generalize w.heap.size + 1 + 1 = qx at *
    generalize w.heap.size + 1 = qc at *
    have HA1 := hid (HA.out.below HB.out (Nat.le_refl _))
    obtain ⟨l0, l1, l2, m1, m2, x0, x3, x4, k0, k1, k2, k3⟩ := HX.out
    obtain ⟨lo, hi, ts, was⟩ := c
    simp only at *
    generalize hn : ts.length = n at *
    have HNn := hid hn
    clear hn HX HA
    have hw := Shw.out
    clear Shw
    obtain ⟨rfl, hw2⟩ := wasB_nots h0 hw
    clear hw
    rcases hw2 with h6 | ⟨h6, hc0⟩
    all_goals
      go_wp2_with fail
      go_ret
      exact ⟨rfl, HB.out⟩
  · have HX := HXb
    have HB := hid (bb3 w (.cells #[.slice (some ⟨fb, 0, none⟩) f.length fc, .int .i64 cnt, .int .i64 now, .slice (some ⟨cb, co, none⟩) C.length cc] 46) (.cells #[.int .i64 x.k, .int .i64 x.a, .int .i64 x.b, .int .i64 x.lo, .int .i64 x.hi, .string x.nm] 132) (.cells #[.int .i64 c.lo, .int .i64 c.hi, .slice a c.ts.length cap, .bool c.was] 105))
    clear HXa HXb n0 n1 n2 n3 n4 n5 d0 d1 d2 d3 hf1 hf2 hc1 hc2 hfb hcb hi hi2
    generalize (((w.alloc (.cells #[.slice (some ⟨fb, 0, none⟩) f.length fc, .int .i64 cnt, .int .i64 now, .slice (some ⟨cb, co, none⟩) C.length cc] 46)).alloc (.cells #[.int .i64 x.k, .int .i64 x.a, .int .i64 x.b, .int .i64 x.lo, .int .i64 x.hi, .string x.nm] 132)).alloc (.cells #[.int .i64 c.lo, .int .i64 c.hi, .slice a c.ts.length cap, .bool c.was] 105)).drew = W at *
    generalize w.heap.size + 1 + 1 = qc at *
    generalize w.heap.size + 1 = qx at *
    have HA1 := hid (HA.out.below HB.out (Nat.le_refl _))
    obtain ⟨l0, l1, l2, m1, m2, x0, x3, x4, k0, k1, k2, k3⟩ := HX.out
    obtain ⟨lo, hi, ts, was⟩ := c
    simp only at *
    generalize hn : ts.length = n at *
    have HNn := hid hn
    clear hn HX HA
    have hw := Shw.out
    clear Shw
    obtain ⟨rfl, hw2⟩ := wasB_nots h0 hw
    clear hw
    rcases hw2 with h6 | ⟨h6, hc0⟩
    all_goals
      go_wp2_with fail
      go_ret
      exact ⟨rfl, HB.out⟩
set_option maxRecDepth 20000 in
set_option maxHeartbeats 16000000 in
theorem cellS_2 (f : List Nd) (fb fc : Nat) (cnt now : Int) (h0 : 0 ≤ cnt) (C : List Cl) (cb co cc : Nat) (i : Nat) (hi : i < f.length) (hi2 : i < C.length) (hl : C.length ≤ 1048576) (hlf : f.length ≤ 1048576) (hlt : (clAt C i).ts.length ≤ 2000000) (hw : wasB cnt (ndAt f i) (clAt C i).was = true) (hk : keepsK (ndAt f i).k = false) (v : Bool) (hv : ((clAt C i).lo == 0 && ((clAt C i).hi == 0 && decide ((clAt C i).ts.length = 0))) = v) (w : World) (hN : NodeAt w fb (i * 6) (ndAt f i)) (hfb : fb < w.heap.size) (hC : CkAt w cb (co + i * 4) (clAt C i)) (hcb : cb < w.heap.size) :
    Calls Tryz.prog 115 #[.agg #[.slice (some ⟨fb, 0, none⟩) f.length fc, .int .i64 cnt, .int .i64 now, .slice (some ⟨cb, co, none⟩) C.length cc], .int .i64 i] w fun e w' => e = .returned (.bool v) ∧ Below w.heap.size w w' := by
  obtain ⟨n0, n1, n2, n3, n4, n5⟩ := hN
  obtain ⟨d0, d1, d3, a, cap, d2, _, hA⟩ := hC
  have HA := hid hA
  clear hA
  have hf1 : fb < w.heap.size + 1 := by omega
  have hf2 : fb < w.heap.size + 1 + 1 := by omega
  have hc1 : cb < w.heap.size + 1 := by omega
  have hc2 : cb < w.heap.size + 1 + 1 := by omega
  generalize ndAt f i = x at *
  generalize clAt C i = c at *
  have HXa := hid (ckbox_a w (.slice (some ⟨fb, 0, none⟩) f.length fc) cnt now (.slice (some ⟨cb, co, none⟩) C.length cc) x c a cap 46 105 132)
  have HXb := hid (ckbox_b w (.slice (some ⟨fb, 0, none⟩) f.length fc) cnt now (.slice (some ⟨cb, co, none⟩) C.length cc) x c a cap 46 105 132)
  have Shw := hid hw
  have Shk := hid hk
  have Shv := hid hv
  clear hw hk hv
  go_enter Tryz.func115, Tryz.ntmps115
  go_wp2_with fail
  go_region
  · have HX := HXa
    have HB := hid (bb3 w (.cells #[.slice (some ⟨fb, 0, none⟩) f.length fc, .int .i64 cnt, .int .i64 now, .slice (some ⟨cb, co, none⟩) C.length cc] 46) (.cells #[.int .i64 c.lo, .int .i64 c.hi, .slice a c.ts.length cap, .bool c.was] 105) (.cells #[.int .i64 x.k, .int .i64 x.a, .int .i64 x.b, .int .i64 x.lo, .int .i64 x.hi, .string x.nm] 132))
    clear HXa HXb n0 n1 n2 n3 n4 n5 d0 d1 d2 d3 hf1 hf2 hc1 hc2 hfb hcb hi hi2
    generalize (((w.alloc (.cells #[.slice (some ⟨fb, 0, none⟩) f.length fc, .int .i64 cnt, .int .i64 now, .slice (some ⟨cb, co, none⟩) C.length cc] 46)).alloc (.cells #[.int .i64 c.lo, .int .i64 c.hi, .slice a c.ts.length cap, .bool c.was] 105)).alloc (.cells #[.int .i64 x.k, .int .i64 x.a, .int .i64 x.b, .int .i64 x.lo, .int .i64 x.hi, .string x.nm] 132)).drew = W at *
    generalize w.heap.size + 1 + 1 = qx at *
    generalize w.heap.size + 1 = qc at *
    have HA1 := hid (HA.out.below HB.out (Nat.le_refl _))
    obtain ⟨l0, l1, l2, m1, m2, x0, x3, x4, k0, k1, k2, k3⟩ := HX.out
    obtain ⟨lo, hi, ts, was⟩ := c
    simp only at *
    generalize hn : ts.length = n at *
    have HNn := hid hn
    clear hn HX HA
    have hw := Shw.out
    have hk := Shk.out
    have hv := Shv.out
    clear Shw Shk Shv
    have HVv := hid hv
    clear hv
    have HK := hid (fun w => keepsS_is x.k false hk w)
    have hpass := wasB_ways h0 hw
    clear hk hw
    rcases Bool.eq_false_or_eq_true (lo == 0) with e1 | e1
    · rcases Bool.eq_false_or_eq_true (hi == 0) with e2 | e2
      · have hcase : n = 0 ∨ ((n : Int) == 0) = false := by
          by_cases h : n = 0
          · exact Or.inl h
          · right; simpa using h
        rcases hcase with rfl | hn0 <;> rcases hpass with rfl | ⟨rfl, p1, p2⟩
        all_goals
          go_wp2_with (go_at_call 116; refine (HK.out _).mono ?_; rintro e w' ⟨rfl, rfl⟩)
          go_ret
          exact ⟨ret_bool (by rw [← HVv.out, e1, e2]; first | rfl | simp [show ¬ n = 0 by simpa using hn0]), HB.out⟩
      · rcases hpass with rfl | ⟨rfl, p1, p2⟩
        all_goals
          go_wp2_with (go_at_call 116; refine (HK.out _).mono ?_; rintro e w' ⟨rfl, rfl⟩)
          go_ret
          exact ⟨ret_bool (by rw [← HVv.out, e1, e2]; rfl), HB.out⟩
    · rcases hpass with rfl | ⟨rfl, p1, p2⟩
      all_goals
        go_wp2_with (go_at_call 116; refine (HK.out _).mono ?_; rintro e w' ⟨rfl, rfl⟩)
        go_ret
        exact ⟨ret_bool (by rw [← HVv.out, e1]; rfl), HB.out⟩
  · have HX := HXb
    have HB := hid (bb3 w (.cells #[.slice (some ⟨fb, 0, none⟩) f.length fc, .int .i64 cnt, .int .i64 now, .slice (some ⟨cb, co, none⟩) C.length cc] 46) (.cells #[.int .i64 x.k, .int .i64 x.a, .int .i64 x.b, .int .i64 x.lo, .int .i64 x.hi, .string x.nm] 132) (.cells #[.int .i64 c.lo, .int .i64 c.hi, .slice a c.ts.length cap, .bool c.was] 105))
    clear HXa HXb n0 n1 n2 n3 n4 n5 d0 d1 d2 d3 hf1 hf2 hc1 hc2 hfb hcb hi hi2
    generalize (((w.alloc (.cells #[.slice (some ⟨fb, 0, none⟩) f.length fc, .int .i64 cnt, .int .i64 now, .slice (some ⟨cb, co, none⟩) C.length cc] 46)).alloc (.cells #[.int .i64 x.k, .int .i64 x.a, .int .i64 x.b, .int .i64 x.lo, .int .i64 x.hi, .string x.nm] 132)).alloc (.cells #[.int .i64 c.lo, .int .i64 c.hi, .slice a c.ts.length cap, .bool c.was] 105)).drew = W at *
    generalize w.heap.size + 1 + 1 = qc at *
    generalize w.heap.size + 1 = qx at *
    have HA1 := hid (HA.out.below HB.out (Nat.le_refl _))
    obtain ⟨l0, l1, l2, m1, m2, x0, x3, x4, k0, k1, k2, k3⟩ := HX.out
    obtain ⟨lo, hi, ts, was⟩ := c
    simp only at *
    generalize hn : ts.length = n at *
    have HNn := hid hn
    clear hn HX HA
    have hw := Shw.out
    have hk := Shk.out
    have hv := Shv.out
    clear Shw Shk Shv
    have HVv := hid hv
    clear hv
    have HK := hid (fun w => keepsS_is x.k false hk w)
    have hpass := wasB_ways h0 hw
    clear hk hw
    rcases Bool.eq_false_or_eq_true (lo == 0) with e1 | e1
    · rcases Bool.eq_false_or_eq_true (hi == 0) with e2 | e2
      · have hcase : n = 0 ∨ ((n : Int) == 0) = false := by
          by_cases h : n = 0
          · exact Or.inl h
          · right; simpa using h
        rcases hcase with rfl | hn0 <;> rcases hpass with rfl | ⟨rfl, p1, p2⟩
        all_goals
          go_wp2_with (go_at_call 116; refine (HK.out _).mono ?_; rintro e w' ⟨rfl, rfl⟩)
          go_ret
          exact ⟨ret_bool (by rw [← HVv.out, e1, e2]; first | rfl | simp [show ¬ n = 0 by simpa using hn0]), HB.out⟩
      · rcases hpass with rfl | ⟨rfl, p1, p2⟩
        all_goals
          go_wp2_with (go_at_call 116; refine (HK.out _).mono ?_; rintro e w' ⟨rfl, rfl⟩)
          go_ret
          exact ⟨ret_bool (by rw [← HVv.out, e1, e2]; rfl), HB.out⟩
    · rcases hpass with rfl | ⟨rfl, p1, p2⟩
      all_goals
        go_wp2_with (go_at_call 116; refine (HK.out _).mono ?_; rintro e w' ⟨rfl, rfl⟩)
        go_ret
        exact ⟨ret_bool (by rw [← HVv.out, e1]; rfl), HB.out⟩
end Go.Proofs.YtljhokoojodjnaaGreatDoor
