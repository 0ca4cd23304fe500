/-
  The walk of the law FnExactRingNew.
-/
import Derived.Test.YtfafeomegoikkaaRgN
import Derived.Test.YtfafeomegoikkaaRgD
namespace Go.Proofs.Ytfafeomegoikkaa
open Go.RowKit
set_option linter.unusedVariables false
set_option linter.unusedSimpArgs false
set_option maxRecDepth 20000 in
set_option maxHeartbeats 8000000 in
theorem walkRgLN (size : Int) (w : World) :
    Calls Try.prog 5 #[.int .i64 size] w fun e w' => e = .returned (.bool true) ∧ Below w.heap.size w w' := by
  obtain ⟨r0, hr0⟩ : ∃ r0, newR size = r0 := ⟨_, rfl⟩
  have hok : r0.ok := by rw [← hr0]; exact newR_ok size
  have HS := hid (fun w => specNewR_any size w)
  have HG := hid (fun w => implNew_any size w)
  rw [hr0] at HS HG
  clear hr0
  obtain ⟨rc, rh, rt, rn, Y, rp, ri, rk⟩ := r0
  simp only at HS HG
  obtain ⟨hok1, hok2⟩ := hok
  simp only at hok1 hok2
  have HYN := hid hok1
  clear hok1
  have HO : Hid (∀ cap hd tl a n c p i k, roV cap hd tl a n c p i k = .agg #[.int .i64 cap, .int .i64 hd, .int .i64 tl, .slice a n c, .int .i64 p, .int .i64 i, .int .i64 k]) := fun _ _ _ _ _ _ _ _ _ => rfl
  have HB0 := hid (Below.refl w.heap.size w)
  have hz0 : w.heap.size ≤ w.heap.size := Nat.le_refl _
  obtain ⟨w0, hw0⟩ : ∃ w0, w0 = w := ⟨_, rfl⟩
  go_enter Try.func5, Try.ntmps5
  go_wp2_with fail
  refine (HS.out _).mono ?_
  rintro e w1 ⟨va, vc, rfl, hO1⟩
  have hbl1 := hO1.bel
  have HB1 := hid (HB0.out.trans (hbl1.mono (by omega)))
  have hz1 := hbl1.size
  have HA1 := hid hO1.arg
  have HF3 := hid hO1.fresh
  clear hO1 hbl1
  rw [HO.out]
  go_wp2_with fail
  have hbl2 := below_one' w1 (.cells #[.int .i64 rc, .int .i64 rh, .int .i64 rt, .slice va rn vc, .int .i64 rp, .int .i64 ri, .int .i64 rk] 32)
  have HB2 := hid (HB1.out.trans (hbl2.mono (by omega)))
  have HA2 := hid (HA1.out.on hbl2)
  have HV2 := hid (OBox.new w1 rc rh rt va rn vc rp ri rk 32)
  have hz2 : w1.heap.size < (w1.alloc (.cells #[.int .i64 rc, .int .i64 rh, .int .i64 rt, .slice va rn vc, .int .i64 rp, .int .i64 ri, .int .i64 rk] 32)).heap.size := by simp
  clear hbl2
  generalize w1.alloc (.cells #[.int .i64 rc, .int .i64 rh, .int .i64 rt, .slice va rn vc, .int .i64 rp, .int .i64 ri, .int .i64 rk] 32) = w2 at *
  refine (HG.out _).mono ?_
  rintro e w3 ⟨ga, gc, rfl, hO3⟩
  have hbl3 := hO3.bel
  have HB3 := hid (HB2.out.trans (hbl3.mono (by omega)))
  have hz3 := hbl3.size
  have HA3 := hid (HA2.out.on hbl3)
  have HV3 := hid (HV2.out.on hbl3)
  have HGa3 := hid hO3.arg
  have HGm3 := hid hO3.mu
  have HF7 := hid hO3.fresh
  clear hO3 hbl3
  rw [HO.out]
  obtain ⟨u0, c00, c01, c02, c03, c04, c05, c06⟩ := HV3.out
  go_wp2_with fail
  clear u0 c00 c01 c02 c03 c04 c05 c06
  have hbl4 := below_one' w3 (.cells #[.int .i64 rc, .int .i64 rh, .int .i64 rt, .slice ga rn gc, .int .i64 rp, .int .i64 ri, .int .i64 rk] 32)
  have HB4 := hid (HB3.out.trans (hbl4.mono (by omega)))
  have HA4 := hid (HA3.out.on hbl4)
  have HV4 := hid (HV3.out.on hbl4)
  have HGa4 := hid (HGa3.out.on hbl4)
  have HGm4 := hid (HGm3.out.on hbl4)
  have HQ4 := hid (OBox.new w3 rc rh rt ga rn gc rp ri rk 32)
  have hz4 : w3.heap.size < (w3.alloc (.cells #[.int .i64 rc, .int .i64 rh, .int .i64 rt, .slice ga rn gc, .int .i64 rp, .int .i64 ri, .int .i64 rk] 32)).heap.size := by simp
  clear hbl4
  generalize w3.alloc (.cells #[.int .i64 rc, .int .i64 rh, .int .i64 rt, .slice ga rn gc, .int .i64 rp, .int .i64 ri, .int .i64 rk] 32) = w4 at *
  refine (eqRingOut_any rc rh rt Y rn HYN.out _ _ gc vc (by omega) rp ri rk _ HGa4.out HA4.out).mono ?_
  rintro e w5 ⟨rfl, hbl5⟩
  have HB5 := hid (HB4.out.trans (hbl5.mono (by omega)))
  have hz5 := hbl5.size
  have HA5 := hid (HA4.out.on hbl5)
  have HV5 := hid (HV4.out.on hbl5)
  have HGa5 := hid (HGa4.out.on hbl5)
  have HGm5 := hid (HGm4.out.on hbl5)
  have HQ5 := hid (HQ4.out.on hbl5)
  clear hbl5
  obtain ⟨u0, c00, c01, c02, c03, c04, c05, c06⟩ := HQ5.out
  go_wp2_with fail
  refine (markRingOut_any rc rh rt rn ga gc rp ri rk (by omega) _ HGm5.out).mono ?_
  rintro e w6 ⟨rfl, hm6, hsv6⟩
  have HB6 := hid (HB5.out.trans (hsv6.below (B := w.heap.size) (by omega) (fun j hj => by obtain ⟨q, e, h⟩ := hj; have := HF7.out q e; omega)))
  have hz6 := hsv6.size
  have HV6 := hid (HV5.out.save hsv6 (fun h => by obtain ⟨q, e, h⟩ := h; have := HF7.out q e; omega))
  have HA6 := hid (HA5.out.save hsv6 (fun q e h => by obtain ⟨q2, e2, h⟩ := h; have := HF7.out q2 e2; have := HF3.out q e; omega))
  have HQ6 := hid (HQ5.out.save hsv6 (fun h => by obtain ⟨q, e, h⟩ := h; have := HF7.out q e; omega))
  have HGk6 := hid hm6
  clear hm6 hsv6 u0 c00 c01 c02 c03 c04 c05 c06
  obtain ⟨u0, c00, c01, c02, c03, c04, c05, c06⟩ := HQ6.out
  go_wp2_with fail
  refine (heldRingOut_any rc rh rt rn ga gc rp ri rk (by omega) _ HGk6.out).mono ?_
  rintro e w7 ⟨rfl, hbl7⟩
  have HB7 := hid (HB6.out.trans (hbl7.mono (by omega)))
  have hz7 := hbl7.size
  have HV7 := hid (HV6.out.on hbl7)
  have HA7 := hid (HA6.out.on hbl7)
  have HQ7 := hid (HQ6.out.on hbl7)
  have HGk7 := hid (HGk6.out.on hbl7)
  clear hbl7 u0 c00 c01 c02 c03 c04 c05 c06
  have hq0 : ¬ (((1 + rn * 2 : Nat) : Int) < 0) := by omega
  have hq1 : (((1 + rn * 2 : Nat) : Int) != ((1 + rn * 2 : Nat) : Int)) = false := by simp
  go_wp2_with fail
  refine (HG.out _).mono ?_
  rintro e w8 ⟨ha, hc, rfl, hO8⟩
  have hbl8 := hO8.bel
  have HB8 := hid (HB7.out.trans (hbl8.mono (by omega)))
  have hz8 := hbl8.size
  have HV8 := hid (HV7.out.on hbl8)
  have HA8 := hid (HA7.out.on hbl8)
  have HQ8 := hid (HQ7.out.on hbl8)
  have HGk8 := hid (HGk7.out.on hbl8)
  have HH8 := hid hO8.arg
  clear hO8 hbl8
  rw [HO.out]
  obtain ⟨u0, c00, c01, c02, c03, c04, c05, c06⟩ := HV8.out
  go_wp2_with fail
  clear u0 c00 c01 c02 c03 c04 c05 c06
  have hbl9 := below_one' w8 (.cells #[.int .i64 rc, .int .i64 rh, .int .i64 rt, .slice ha rn hc, .int .i64 rp, .int .i64 ri, .int .i64 rk] 32)
  have HB9 := hid (HB8.out.trans (hbl9.mono (by omega)))
  have HV9 := hid (HV8.out.on hbl9)
  have HA9 := hid (HA8.out.on hbl9)
  have HQ9 := hid (HQ8.out.on hbl9)
  have HGk9 := hid (HGk8.out.on hbl9)
  have HH9 := hid (HH8.out.on hbl9)
  have hz9 : w8.heap.size < (w8.alloc (.cells #[.int .i64 rc, .int .i64 rh, .int .i64 rt, .slice ha rn hc, .int .i64 rp, .int .i64 ri, .int .i64 rk] 32)).heap.size := by simp
  clear hbl9
  generalize w8.alloc (.cells #[.int .i64 rc, .int .i64 rh, .int .i64 rt, .slice ha rn hc, .int .i64 rp, .int .i64 ri, .int .i64 rk] 32) = w9 at *
  refine (eqRingOut_any rc rh rt Y rn HYN.out _ _ hc vc (by omega) rp ri rk _ HH9.out HA9.out).mono ?_
  rintro e w10 ⟨rfl, hbl10⟩
  have HB10 := hid (HB9.out.trans (hbl10.mono (by omega)))
  have hz10 := hbl10.size
  have HV10 := hid (HV9.out.on hbl10)
  have HA10 := hid (HA9.out.on hbl10)
  have HQ10 := hid (HQ9.out.on hbl10)
  have HGk10 := hid (HGk9.out.on hbl10)
  have HH10 := hid (HH9.out.on hbl10)
  clear hbl10
  obtain ⟨u0, c00, c01, c02, c03, c04, c05, c06⟩ := HQ10.out
  go_wp2_with fail
  refine (heldRingOut_any rc rh rt rn ga gc rp ri rk (by omega) _ HGk10.out).mono ?_
  rintro e w11 ⟨rfl, hbl11⟩
  have HB11 := hid (HB10.out.trans (hbl11.mono (by omega)))
  have hz11 := hbl11.size
  have HV11 := hid (HV10.out.on hbl11)
  have HA11 := hid (HA10.out.on hbl11)
  have HQ11 := hid (HQ10.out.on hbl11)
  have HGk11 := hid (HGk10.out.on hbl11)
  have HH11 := hid (HH10.out.on hbl11)
  clear hbl11 u0 c00 c01 c02 c03 c04 c05 c06
  go_wp2_with fail
  go_ret
  exact ⟨rfl, HB11.out⟩
end Go.Proofs.Ytfafeomegoikkaa
