/-
  The walk of the law FnExactRingPop.
-/
import Derived.Test.YtfafeomegoikkaaRgVP
import Derived.Test.YtfafeomegoikkaaRgS3
import Derived.Test.YtfafeomegoikkaaRgX
namespace Go.Proofs.Ytfafeomegoikkaa
open Go.RowKit
set_option linter.unusedVariables false
set_option linter.unusedSimpArgs false
set_option maxRecDepth 20000 in
set_option maxHeartbeats 8000000 in
theorem walkRgLP (cap hd tl : Int) (a : Option Addr) (c : Nat) (n : Nat) (Z : List Int) (hn : Z.length = n * 2) (w : World) (hml : n ≤ maxLen) (hI : ArgI w a Z) :
    Calls Try.prog 8 #[rgV cap hd tl a n c] w fun e w' => e = .returned (.bool true) ∧ Below w.heap.size w w' := by
  have HML := hid hml
  have HI := hid hI
  have HN := hid hn
  clear hI hml hn
  obtain ⟨r0, hr0⟩ : ∃ r0, popR cap hd tl n Z = r0 := ⟨_, rfl⟩
  have hok : r0.ok := by rw [← hr0]; exact popR_ok cap hd tl n Z HN.out
  have HS := hid (fun a c hl w h => specPop_any cap hd tl Z n HN.out a c hl w h)
  have HG := hid (fun a c hl w h => implPop_any cap hd tl Z n HN.out a c hl w h)
  rw [hr0] at HS HG
  clear hr0
  obtain ⟨rc, rh, rt, rn, Y, rp, ri, rk⟩ := r0
  simp only at HS HG
  obtain ⟨hok1, hok2⟩ := hok
  simp only at hok1 hok2
  have HYN := hid hok1
  clear hok1
  have HO : Hid (∀ cap hd tl a n c p i k, roV cap hd tl a n c p i k = .agg #[.int .i64 cap, .int .i64 hd, .int .i64 tl, .slice a n c, .int .i64 p, .int .i64 i, .int .i64 k]) := fun _ _ _ _ _ _ _ _ _ => rfl
  have HU : Hid (∀ cap hd tl a n c, rgV cap hd tl a n c = .agg #[.int .i64 cap, .int .i64 hd, .int .i64 tl, .slice a n c]) := fun _ _ _ _ _ _ => rfl
  rw [HU.out]
  go_enter Try.func8, Try.ntmps8
  go_wp2_with fail
  have HB0 := hid (below_one' w (.cells #[.int .i64 cap, .int .i64 hd, .int .i64 tl, .slice a n c] 44))
  have HX0 := hid (RBox.new w cap hd tl a n c 44)
  generalize w.alloc (.cells #[.int .i64 cap, .int .i64 hd, .int .i64 tl, .slice a n c] 44) = W0 at *
  have hz0 := HB0.out.size
  have hqq := HX0.out.lt
  refine (szRing_any cap hd tl n a c HML.out 1048576 (by omega) (by omega) _).mono ?_
  rintro e w1 ⟨r, rfl, q1, q2, hr, hb1⟩
  have HB1 := hid (HB0.out.trans (hb1.mono hz0))
  have hz1 := hb1.size
  have HX1 := hid (HX0.out.on hb1)
  by_cases hr0 : r < 0
  · clear hb1 hr
    go_wp2_with fail
    go_ret
    exact ⟨rfl, HB1.out⟩
  have hl := hr (by omega)
  have hl1 : n ≤ 1048576 := by omega
  clear hb1 hr hl
  obtain ⟨u0, c00, c01, c02, c03⟩ := HX1.out
  go_wp2_with fail
  refine (toRing_any cap hd tl Z n HN.out a c hl1 _ (HI.out.below HB1.out (Nat.le_refl _))).mono ?_
  rintro e w2 ⟨b2, rfl, hb2, hR2, hbl2⟩
  have HB2 := hid (HB1.out.trans (hbl2.mono (by omega)))
  have hz2 := hbl2.size
  have HX2 := hid (HX1.out.on hbl2)
  have HT2 := hid hR2.arg
  clear hR2
  clear hbl2 u0 c00 c01 c02 c03
  go_wp2_with fail
  refine (HS.out _ n (by omega) _ HT2.out).mono ?_
  rintro e w3 ⟨va, vc, rfl, hO3⟩
  have hbl3 := hO3.bel
  have HB3 := hid (HB2.out.trans (hbl3.mono (by omega)))
  have hz3 := hbl3.size
  have HX3 := hid (HX2.out.on hbl3)
  have HA3 := hid hO3.arg
  have HF3 := hid hO3.fresh
  clear hO3 hbl3
  rw [HO.out]
  obtain ⟨u0, c00, c01, c02, c03⟩ := HX3.out
  go_wp2_with fail
  clear u0 c00 c01 c02 c03
  have hbl4 := below_one' w3 (.cells #[.int .i64 rc, .int .i64 rh, .int .i64 rt, .slice va rn vc, .int .i64 rp, .int .i64 ri, .int .i64 rk] 32)
  have HB4 := hid (HB3.out.trans (hbl4.mono (by omega)))
  have HX4 := hid (HX3.out.on hbl4)
  have HA4 := hid (HA3.out.on hbl4)
  have HV4 := hid (OBox.new w3 rc rh rt va rn vc rp ri rk 32)
  have hz4 : w3.heap.size < (w3.alloc (.cells #[.int .i64 rc, .int .i64 rh, .int .i64 rt, .slice va rn vc, .int .i64 rp, .int .i64 ri, .int .i64 rk] 32)).heap.size := by simp
  clear hbl4
  generalize w3.alloc (.cells #[.int .i64 rc, .int .i64 rh, .int .i64 rt, .slice va rn vc, .int .i64 rp, .int .i64 ri, .int .i64 rk] 32) = w4 at *
  refine (toRing_any cap hd tl Z n HN.out a c hl1 _ (HI.out.below HB4.out (Nat.le_refl _))).mono ?_
  rintro e w5 ⟨b5, rfl, hb5, hR5, hbl5⟩
  have HB5 := hid (HB4.out.trans (hbl5.mono (by omega)))
  have hz5 := hbl5.size
  have HX5 := hid (HX4.out.on hbl5)
  have HA5 := hid (HA4.out.on hbl5)
  have HV5 := hid (HV4.out.on hbl5)
  have HR5 := hid hR5.arg
  have HM5 := hid (hR5.mu HN.out)
  have hb5l := hR5.lt
  clear hR5
  clear hbl5
  rw [HU.out]
  go_wp2_with fail
  have hbl6 := below_one' w5 (.cells #[.int .i64 cap, .int .i64 hd, .int .i64 tl, .slice (some ⟨b5, 0, none⟩) n n] 25)
  have HB6 := hid (HB5.out.trans (hbl6.mono (by omega)))
  have HX6 := hid (HX5.out.on hbl6)
  have HA6 := hid (HA5.out.on hbl6)
  have HV6 := hid (HV5.out.on hbl6)
  have HR6 := hid (HR5.out.on hbl6)
  have HM6 := hid (HM5.out.on hbl6)
  have HW6 := hid (RBox.new w5 cap hd tl (some ⟨b5, 0, none⟩) n n 25)
  have hz6 : w5.heap.size < (w5.alloc (.cells #[.int .i64 cap, .int .i64 hd, .int .i64 tl, .slice (some ⟨b5, 0, none⟩) n n] 25)).heap.size := by simp
  clear hbl6
  generalize w5.alloc (.cells #[.int .i64 cap, .int .i64 hd, .int .i64 tl, .slice (some ⟨b5, 0, none⟩) n n] 25) = w6 at *
  refine (HG.out _ n (by omega) _ HR6.out).mono ?_
  rintro e w7 ⟨ga, gc, rfl, hO7⟩
  have hbl7 := hO7.bel
  have HB7 := hid (HB6.out.trans (hbl7.mono (by omega)))
  have hz7 := hbl7.size
  have HX7 := hid (HX6.out.on hbl7)
  have HA7 := hid (HA6.out.on hbl7)
  have HV7 := hid (HV6.out.on hbl7)
  have HR7 := hid (HR6.out.on hbl7)
  have HM7 := hid (HM6.out.on hbl7)
  have HW7 := hid (HW6.out.on hbl7)
  have HGa7 := hid hO7.arg
  have HGm7 := hid hO7.mu
  have HF7 := hid hO7.fresh
  clear hO7 hbl7
  rw [HO.out]
  obtain ⟨u0, c00, c01, c02, c03, c04, c05, c06⟩ := HV7.out
  go_wp2_with fail
  clear u0 c00 c01 c02 c03 c04 c05 c06
  have hbl8 := below_one' w7 (.cells #[.int .i64 rc, .int .i64 rh, .int .i64 rt, .slice ga rn gc, .int .i64 rp, .int .i64 ri, .int .i64 rk] 32)
  have HB8 := hid (HB7.out.trans (hbl8.mono (by omega)))
  have HX8 := hid (HX7.out.on hbl8)
  have HA8 := hid (HA7.out.on hbl8)
  have HV8 := hid (HV7.out.on hbl8)
  have HR8 := hid (HR7.out.on hbl8)
  have HM8 := hid (HM7.out.on hbl8)
  have HW8 := hid (HW7.out.on hbl8)
  have HGa8 := hid (HGa7.out.on hbl8)
  have HGm8 := hid (HGm7.out.on hbl8)
  have HQ8 := hid (OBox.new w7 rc rh rt ga rn gc rp ri rk 32)
  have hz8 : w7.heap.size < (w7.alloc (.cells #[.int .i64 rc, .int .i64 rh, .int .i64 rt, .slice ga rn gc, .int .i64 rp, .int .i64 ri, .int .i64 rk] 32)).heap.size := by simp
  clear hbl8
  generalize w7.alloc (.cells #[.int .i64 rc, .int .i64 rh, .int .i64 rt, .slice ga rn gc, .int .i64 rp, .int .i64 ri, .int .i64 rk] 32) = w8 at *
  refine (eqRingOut_any rc rh rt Y rn HYN.out _ _ gc vc (by omega) rp ri rk _ HGa8.out HA8.out).mono ?_
  rintro e w9 ⟨rfl, hbl9⟩
  have HB9 := hid (HB8.out.trans (hbl9.mono (by omega)))
  have hz9 := hbl9.size
  have HX9 := hid (HX8.out.on hbl9)
  have HA9 := hid (HA8.out.on hbl9)
  have HV9 := hid (HV8.out.on hbl9)
  have HR9 := hid (HR8.out.on hbl9)
  have HM9 := hid (HM8.out.on hbl9)
  have HW9 := hid (HW8.out.on hbl9)
  have HGa9 := hid (HGa8.out.on hbl9)
  have HGm9 := hid (HGm8.out.on hbl9)
  have HQ9 := hid (HQ8.out.on hbl9)
  clear hbl9
  obtain ⟨u0, c00, c01, c02, c03⟩ := HX9.out
  obtain ⟨u1, c10, c11, c12, c13⟩ := HW9.out
  go_wp2_with fail
  have HTK := hid (fun w' => toRing_any cap hd tl Z n HN.out a c hl1 w')
  have HEQ := hid (fun w' a1 a2 => eqRing_any cap hd tl Z n HN.out a1 a2 n n (by omega) w')
  rw [HU.out] at HTK
  simp only [HU.out] at HEQ
  go_region_with (first
    | (go_at_call 33; refine (HTK.out _ (HI.out.below (below_drew HB9.out) (Nat.le_refl _))).mono ?_; rintro e w10 ⟨b10, rfl, hb10, hR10, hbl10'⟩; have hbl10 := below_undrew hbl10'; clear hbl10'; have HB10 := hid (HB9.out.trans (hbl10.mono (by omega))); have hz10 := hbl10.size; have HX10 := hid (HX9.out.on hbl10); have HA10 := hid (HA9.out.on hbl10); have HV10 := hid (HV9.out.on hbl10); have HR10 := hid (HR9.out.on hbl10); have HM10 := hid (HM9.out.on hbl10); have HW10 := hid (HW9.out.on hbl10); have HGa10 := hid (HGa9.out.on hbl10); have HGm10 := hid (HGm9.out.on hbl10); have HQ10 := hid (HQ9.out.on hbl10); have HT10 := hid hR10.arg; obtain ⟨v1, e10, e11, e12, e13⟩ := HW10.out; rw [HU.out]; clear hR10 hbl10)
    | (go_at_call 34; refine (HEQ.out _ _ _ HR10.out HT10.out).mono ?_; rintro e w11 ⟨rfl, hbl11⟩; have HB11 := hid (HB10.out.trans (hbl11.mono (by omega))); have hz11 := hbl11.size; have HX11 := hid (HX10.out.on hbl11); have HA11 := hid (HA10.out.on hbl11); have HV11 := hid (HV10.out.on hbl11); have HR11 := hid (HR10.out.on hbl11); have HM11 := hid (HM10.out.on hbl11); have HW11 := hid (HW10.out.on hbl11); have HGa11 := hid (HGa10.out.on hbl11); have HGm11 := hid (HGm10.out.on hbl11); have HQ11 := hid (HQ10.out.on hbl11); clear hbl11))
  all_goals
    clear u0 c00 c01 c02 c03 u1 c10 c11 c12 c13 v1 e10 e11 e12 e13
    obtain ⟨u0, c00, c01, c02, c03⟩ := HW11.out
    go_wp2_with fail
    refine (markRing_any cap hd tl n _ n (by omega) _ HM11.out).mono ?_
    rintro e w12 ⟨rfl, hm12, hsv12⟩
    have HB12 := hid (HB11.out.trans (hsv12.below (B := w.heap.size) (by omega) (fun j hj => by have := ofT_some hj; omega)))
    have hz12 := hsv12.size
    have HX12 := hid (HX11.out.save hsv12 (fun h => by have := ofT_some h; omega))
    have HV12 := hid (HV11.out.save hsv12 (fun h => by have := ofT_some h; omega))
    have HA12 := hid (HA11.out.save hsv12 (fun q e h => by have := ofT_some h; have := HF3.out q e; omega))
    have HQ12 := hid (HQ11.out.save hsv12 (fun h => by have := ofT_some h; omega))
    have HGa12 := hid (HGa11.out.save hsv12 (fun q e h => by have := ofT_some h; have := HF7.out q e; omega))
    have HGm12 := hid (HGm11.out.save hsv12 (fun q e h => by have := ofT_some h; have := HF7.out q e; omega))
    clear hm12 hsv12 u0 c00 c01 c02 c03
    have hk0 : ¬ (((1 + n * 2 : Nat) : Int) < 0) := by omega
    obtain ⟨u0, c00, c01, c02, c03, c04, c05, c06⟩ := HQ12.out
    obtain ⟨u1, c10, c11, c12, c13, c14, c15, c16⟩ := HV12.out
    go_wp2_with fail
    refine (eqRingOut_any rc rh rt Y rn HYN.out _ _ gc vc (by omega) rp ri rk _ HGa12.out HA12.out).mono ?_
    rintro e w13 ⟨rfl, hbl13⟩
    have HB13 := hid (HB12.out.trans (hbl13.mono (by omega)))
    have hz13 := hbl13.size
    have HX13 := hid (HX12.out.on hbl13)
    have HV13 := hid (HV12.out.on hbl13)
    have HA13 := hid (HA12.out.on hbl13)
    have HQ13 := hid (HQ12.out.on hbl13)
    have HGa13 := hid (HGa12.out.on hbl13)
    have HGm13 := hid (HGm12.out.on hbl13)
    clear hbl13 u0 c00 c01 c02 c03 c04 c05 c06 u1 c10 c11 c12 c13 c14 c15 c16
    obtain ⟨u0, c00, c01, c02, c03, c04, c05, c06⟩ := HQ13.out
    go_wp2_with fail
    refine (markRingOut_any rc rh rt rn ga gc rp ri rk (by omega) _ HGm13.out).mono ?_
    rintro e w14 ⟨rfl, hm14, hsv14⟩
    have HB14 := hid (HB13.out.trans (hsv14.below (B := w.heap.size) (by omega) (fun j hj => by obtain ⟨q, e, h⟩ := hj; have := HF7.out q e; omega)))
    have hz14 := hsv14.size
    have HX14 := hid (HX13.out.save hsv14 (fun h => by obtain ⟨q, e, h⟩ := h; have := HF7.out q e; omega))
    have HV14 := hid (HV13.out.save hsv14 (fun h => by obtain ⟨q, e, h⟩ := h; have := HF7.out q e; omega))
    have HA14 := hid (HA13.out.save hsv14 (fun q e h => by obtain ⟨q2, e2, h⟩ := h; have := HF7.out q2 e2; have := HF3.out q e; omega))
    have HQ14 := hid (HQ13.out.save hsv14 (fun h => by obtain ⟨q, e, h⟩ := h; have := HF7.out q e; omega))
    have HGk14 := hid hm14
    clear hm14 hsv14 u0 c00 c01 c02 c03 c04 c05 c06
    obtain ⟨u0, c00, c01, c02, c03, c04, c05, c06⟩ := HQ14.out
    go_wp2_with fail
    refine (heldRingOut_any rc rh rt rn ga gc rp ri rk (by omega) _ HGk14.out).mono ?_
    rintro e w15 ⟨rfl, hbl15⟩
    have HB15 := hid (HB14.out.trans (hbl15.mono (by omega)))
    have hz15 := hbl15.size
    have HX15 := hid (HX14.out.on hbl15)
    have HV15 := hid (HV14.out.on hbl15)
    have HA15 := hid (HA14.out.on hbl15)
    have HQ15 := hid (HQ14.out.on hbl15)
    have HGk15 := hid (HGk14.out.on hbl15)
    clear hbl15 u0 c00 c01 c02 c03 c04 c05 c06
    have hq0 : ¬ (((1 + rn * 2 : Nat) : Int) < 0) := by omega
    have hq1 : (((1 + rn * 2 : Nat) : Int) != ((1 + rn * 2 : Nat) : Int)) = false := by simp
    obtain ⟨u0, c00, c01, c02, c03⟩ := HX15.out
    go_wp2_with fail
    refine (toRing_any cap hd tl Z n HN.out a c hl1 _ (HI.out.below HB15.out (Nat.le_refl _))).mono ?_
    rintro e w16 ⟨b16, rfl, hb16, hR16, hbl16⟩
    have HB16 := hid (HB15.out.trans (hbl16.mono (by omega)))
    have hz16 := hbl16.size
    have HX16 := hid (HX15.out.on hbl16)
    have HV16 := hid (HV15.out.on hbl16)
    have HA16 := hid (HA15.out.on hbl16)
    have HQ16 := hid (HQ15.out.on hbl16)
    have HGk16 := hid (HGk15.out.on hbl16)
    have HT16 := hid hR16.arg
    clear hR16
    clear hbl16 u0 c00 c01 c02 c03
    go_wp2_with fail
    refine (HG.out _ n (by omega) _ HT16.out).mono ?_
    rintro e w17 ⟨ha, hc, rfl, hO17⟩
    have hbl17 := hO17.bel
    have HB17 := hid (HB16.out.trans (hbl17.mono (by omega)))
    have hz17 := hbl17.size
    have HX17 := hid (HX16.out.on hbl17)
    have HV17 := hid (HV16.out.on hbl17)
    have HA17 := hid (HA16.out.on hbl17)
    have HQ17 := hid (HQ16.out.on hbl17)
    have HGk17 := hid (HGk16.out.on hbl17)
    have HH17 := hid hO17.arg
    clear hO17 hbl17
    rw [HO.out]
    obtain ⟨u0, c00, c01, c02, c03, c04, c05, c06⟩ := HV17.out
    go_wp2_with fail
    clear u0 c00 c01 c02 c03 c04 c05 c06
    have hbl18 := below_one' w17 (.cells #[.int .i64 rc, .int .i64 rh, .int .i64 rt, .slice ha rn hc, .int .i64 rp, .int .i64 ri, .int .i64 rk] 32)
    have HB18 := hid (HB17.out.trans (hbl18.mono (by omega)))
    have HX18 := hid (HX17.out.on hbl18)
    have HV18 := hid (HV17.out.on hbl18)
    have HA18 := hid (HA17.out.on hbl18)
    have HQ18 := hid (HQ17.out.on hbl18)
    have HGk18 := hid (HGk17.out.on hbl18)
    have HH18 := hid (HH17.out.on hbl18)
    have hz18 : w17.heap.size < (w17.alloc (.cells #[.int .i64 rc, .int .i64 rh, .int .i64 rt, .slice ha rn hc, .int .i64 rp, .int .i64 ri, .int .i64 rk] 32)).heap.size := by simp
    clear hbl18
    generalize w17.alloc (.cells #[.int .i64 rc, .int .i64 rh, .int .i64 rt, .slice ha rn hc, .int .i64 rp, .int .i64 ri, .int .i64 rk] 32) = w18 at *
    refine (eqRingOut_any rc rh rt Y rn HYN.out _ _ hc vc (by omega) rp ri rk _ HH18.out HA18.out).mono ?_
    rintro e w19 ⟨rfl, hbl19⟩
    have HB19 := hid (HB18.out.trans (hbl19.mono (by omega)))
    have hz19 := hbl19.size
    have HX19 := hid (HX18.out.on hbl19)
    have HV19 := hid (HV18.out.on hbl19)
    have HA19 := hid (HA18.out.on hbl19)
    have HQ19 := hid (HQ18.out.on hbl19)
    have HGk19 := hid (HGk18.out.on hbl19)
    have HH19 := hid (HH18.out.on hbl19)
    clear hbl19
    obtain ⟨u0, c00, c01, c02, c03, c04, c05, c06⟩ := HQ19.out
    go_wp2_with fail
    refine (heldRingOut_any rc rh rt rn ga gc rp ri rk (by omega) _ HGk19.out).mono ?_
    rintro e w20 ⟨rfl, hbl20⟩
    have HB20 := hid (HB19.out.trans (hbl20.mono (by omega)))
    have hz20 := hbl20.size
    have HX20 := hid (HX19.out.on hbl20)
    have HV20 := hid (HV19.out.on hbl20)
    have HA20 := hid (HA19.out.on hbl20)
    have HQ20 := hid (HQ19.out.on hbl20)
    have HGk20 := hid (HGk19.out.on hbl20)
    have HH20 := hid (HH19.out.on hbl20)
    clear hbl20 u0 c00 c01 c02 c03 c04 c05 c06
    go_wp2_with fail
    go_ret
    exact ⟨rfl, HB20.out⟩
end Go.Proofs.Ytfafeomegoikkaa
