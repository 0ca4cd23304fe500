/-
  The walk of the law FnExactKeepPut.
-/
import Derived.Test.YtlikkjppknbnfaaKpM
import Derived.Test.YtlikkjppknbnfaaKpX
namespace Go.Proofs.Ytlikkjppknbnfaa
open Go.RowKit
set_option linter.unusedVariables false
set_option linter.unusedSimpArgs false
theorem putI_le (lo hi : Int) (Z : List Int) (tm lo' hi' : Int) (Y : List Int) (hY : (if okK lo hi Z tm then (lo, hi, putI hi tm Z) else (0, 0, [])) = (lo', hi', Y)) : Y.length ≤ Z.length + 1 := by
  have h1 := dropTo_len hi tm Z Z.length
  split at hY
  · injection hY with e1 hY
    injection hY with e2 e3
    rw [← e3]
    unfold putI dropI; split <;> simp <;> omega
  · injection hY with e1 hY
    injection hY with e2 e3
    rw [← e3]
    simp
theorem RowIs.on {w w' : World} {a : Option Addr} {n : Nat} (h : RowIs w a n) (hb : Below w.heap.size w w') : RowIs w' a n := h.below hb
theorem slMade (b n : Nat) (h : n ≤ 1048576) : SlV (some ⟨b, 0, none⟩) n n := Or.inr ⟨b, 0, rfl, Nat.le_refl _, by unfold maxLen; omega⟩
theorem ofT_some {b j : Nat} (h : OfT (some ⟨b, 0, none⟩) j) : j = b := by
  obtain ⟨q, e, h⟩ := h
  injection e with e
  subst e
  exact h.symm
set_option maxRecDepth 20000 in
set_option maxHeartbeats 8000000 in
theorem walkKPut (lo hi : Int) (a : Option Addr) (cap : Nat) (Z : List Int) (tm : Int) (w : World) (hml : Z.length ≤ maxLen) (hI : ArgI w a Z) :
    Calls Try.prog 4 #[kpV lo hi a Z.length cap, .int .i64 tm] w fun e w' => e = .returned (.bool true) ∧ Below w.heap.size w w' := by
  have HML := hid hml
  have HI := hid hI
  clear hI hml
  obtain ⟨lo', hi', Y, hY⟩ : ∃ lo' hi' Y, (if okK lo hi Z tm then (lo, hi, putI hi tm Z) else (0, 0, [])) = (lo', hi', Y) := ⟨_, _, _, rfl⟩
  have hYl := putI_le lo hi Z tm lo' hi' Y hY
  have HY := hid hY
  clear hY
  have HU : Hid (∀ lo hi a n c, kpV lo hi a n c = .agg #[.int .i64 lo, .int .i64 hi, .slice a n c]) := fun _ _ _ _ _ => rfl
  rw [HU.out]
  go_enter Try.func4, Try.ntmps4
  go_wp2_with fail
  have HB0 := hid (below_one' w (.cells #[.int .i64 lo, .int .i64 hi, .slice a Z.length cap] 39))
  have HX0 := hid (KBox.new w lo hi a Z.length cap 39)
  generalize w.alloc (.cells #[.int .i64 lo, .int .i64 hi, .slice a Z.length cap] 39) = W0 at *
  have hz0 := HB0.out.size
  have hqq := HX0.out.lt
  refine (szKeep_any lo hi Z.length a cap HML.out 1048576 (by omega) (by omega) _).mono ?_
  rintro e w1 ⟨r, rfl, q1, q2, hr, hb1⟩
  have HB1 := hid (HB0.out.trans (hb1.mono hz0))
  have hz1 := hb1.size
  have HX1 := hid (HX0.out.on hb1)
  by_cases hr0 : r < 0
  · clear hb1 hr
    go_wp2_with fail
    go_ret
    exact ⟨rfl, HB1.out⟩
  have hl := hr (by omega)
  have hl1 : Z.length ≤ 1048576 := by omega
  clear hb1 hr hl
  obtain ⟨u0, c00, c01, c02⟩ := HX1.out
  go_wp2_with fail
  refine (toKeep_any lo hi Z a cap hl1 _ (HI.out.below HB1.out (Nat.le_refl _))).mono ?_
  rintro e w2 ⟨b2, rfl, hb2, hR2, hbl2⟩
  have HB2 := hid (HB1.out.trans (hbl2.mono (by omega)))
  have hz2 := hbl2.size
  have HX2 := hid (HX1.out.on hbl2)
  have HT2 := hid hR2.arg
  clear hR2
  clear hbl2 u0 c00 c01 c02
  go_wp2_with fail
  refine (specPut_any lo hi Z Z.length rfl _ Z.length (by omega) tm lo' hi' Y HY.out _ HT2.out).mono ?_
  rintro e w3 ⟨va, vc, rfl, hO3, hbl3⟩
  have HB3 := hid (HB2.out.trans (hbl3.mono (by omega)))
  have hz3 := hbl3.size
  have HX3 := hid (HX2.out.on hbl3)
  obtain ⟨va', vc', ev, hA3, _, hF3⟩ := hO3.form
  injection ev with ev1 _ ev2
  subst ev1 ev2
  have HA3 := hid hA3
  have HF3 := hid hF3
  clear hO3 hA3 hF3
  clear hbl3
  obtain ⟨u0, c00, c01, c02⟩ := HX3.out
  rw [HU.out]
  go_wp2_with fail
  clear u0 c00 c01 c02
  have hbl4 := below_one' w3 (.cells #[.int .i64 lo', .int .i64 hi', .slice va Y.length vc] 25)
  have HB4 := hid (HB3.out.trans (hbl4.mono (by omega)))
  have HX4 := hid (HX3.out.on hbl4)
  have HA4 := hid (HA3.out.on hbl4)
  have HV4 := hid (KBox.new w3 lo' hi' va Y.length vc 25)
  have hz4 : w3.heap.size < (w3.alloc (.cells #[.int .i64 lo', .int .i64 hi', .slice va Y.length vc] 25)).heap.size := by simp
  clear hbl4
  generalize w3.alloc (.cells #[.int .i64 lo', .int .i64 hi', .slice va Y.length vc] 25) = w4 at *
  refine (toKeep_any lo hi Z a cap hl1 _ (HI.out.below HB4.out (Nat.le_refl _))).mono ?_
  rintro e w5 ⟨b5, rfl, hb5, hR5, hbl5⟩
  have HB5 := hid (HB4.out.trans (hbl5.mono (by omega)))
  have hz5 := hbl5.size
  have HX5 := hid (HX4.out.on hbl5)
  have HA5 := hid (HA4.out.on hbl5)
  have HV5 := hid (HV4.out.on hbl5)
  have HR5 := hid hR5.arg
  have HM5 := hid hR5.mu
  have hb5l := World.rowIs.lt hR5
  clear hR5
  clear hbl5
  rw [HU.out]
  go_wp2_with fail
  have hbl6 := below_one' w5 (.cells #[.int .i64 lo, .int .i64 hi, .slice (some ⟨b5, 0, none⟩) Z.length Z.length] 25)
  have HB6 := hid (HB5.out.trans (hbl6.mono (by omega)))
  have HX6 := hid (HX5.out.on hbl6)
  have HA6 := hid (HA5.out.on hbl6)
  have HV6 := hid (HV5.out.on hbl6)
  have HR6 := hid (HR5.out.on hbl6)
  have HM6 := hid (HM5.out.on hbl6)
  have HW6 := hid (KBox.new w5 lo hi (some ⟨b5, 0, none⟩) Z.length Z.length 25)
  have hz6 : w5.heap.size < (w5.alloc (.cells #[.int .i64 lo, .int .i64 hi, .slice (some ⟨b5, 0, none⟩) Z.length Z.length] 25)).heap.size := by simp
  clear hbl6
  generalize w5.alloc (.cells #[.int .i64 lo, .int .i64 hi, .slice (some ⟨b5, 0, none⟩) Z.length Z.length] 25) = w6 at *
  refine (implPut_any lo hi Z Z.length rfl _ Z.length (slMade b5 Z.length hl1) (by omega) tm lo' hi' Y HY.out _ HR6.out).mono ?_
  rintro e w7 ⟨ga, gc, rfl, hO7, hbl7⟩
  have HB7 := hid (HB6.out.trans (hbl7.mono (by omega)))
  have hz7 := hbl7.size
  have HX7 := hid (HX6.out.on hbl7)
  have HA7 := hid (HA6.out.on hbl7)
  have HV7 := hid (HV6.out.on hbl7)
  have HR7 := hid (HR6.out.on hbl7)
  have HM7 := hid (HM6.out.on hbl7)
  have HW7 := hid (HW6.out.on hbl7)
  obtain ⟨ga', gc', ev, hA7, hM7, hF7⟩ := hO7.form
  injection ev with ev1 _ ev2
  subst ev1 ev2
  have HGa7 := hid hA7
  have HGm7 := hid hM7
  have HF7 := hid hF7
  clear hO7 hA7 hM7 hF7
  clear hbl7
  obtain ⟨u0, c00, c01, c02⟩ := HV7.out
  rw [HU.out]
  go_wp2_with fail
  clear u0 c00 c01 c02
  have hbl8 := below_one' w7 (.cells #[.int .i64 lo', .int .i64 hi', .slice ga Y.length gc] 25)
  have HB8 := hid (HB7.out.trans (hbl8.mono (by omega)))
  have HX8 := hid (HX7.out.on hbl8)
  have HA8 := hid (HA7.out.on hbl8)
  have HV8 := hid (HV7.out.on hbl8)
  have HR8 := hid (HR7.out.on hbl8)
  have HM8 := hid (HM7.out.on hbl8)
  have HW8 := hid (HW7.out.on hbl8)
  have HGa8 := hid (HGa7.out.on hbl8)
  have HGm8 := hid (HGm7.out.on hbl8)
  have HG8 := hid (KBox.new w7 lo' hi' ga Y.length gc 25)
  have hz8 : w7.heap.size < (w7.alloc (.cells #[.int .i64 lo', .int .i64 hi', .slice ga Y.length gc] 25)).heap.size := by simp
  clear hbl8
  generalize w7.alloc (.cells #[.int .i64 lo', .int .i64 hi', .slice ga Y.length gc] 25) = w8 at *
  refine (eqKeep_any lo' hi' Y Y.length rfl _ _ gc vc (by omega) _ HGa8.out HA8.out).mono ?_
  rintro e w9 ⟨rfl, hbl9⟩
  have HB9 := hid (HB8.out.trans (hbl9.mono (by omega)))
  have hz9 := hbl9.size
  have HX9 := hid (HX8.out.on hbl9)
  have HA9 := hid (HA8.out.on hbl9)
  have HV9 := hid (HV8.out.on hbl9)
  have HR9 := hid (HR8.out.on hbl9)
  have HM9 := hid (HM8.out.on hbl9)
  have HW9 := hid (HW8.out.on hbl9)
  have HGa9 := hid (HGa8.out.on hbl9)
  have HGm9 := hid (HGm8.out.on hbl9)
  have HG9 := hid (HG8.out.on hbl9)
  clear hbl9
  obtain ⟨u0, c00, c01, c02⟩ := HX9.out
  obtain ⟨u1, c10, c11, c12⟩ := HW9.out
  go_wp2_with fail
  have HTK := hid (fun w' => toKeep_any lo hi Z a cap hl1 w')
  have HEQ := hid (fun w' a1 a2 => eqKeep_any lo hi Z Z.length rfl a1 a2 Z.length Z.length (by omega) w')
  go_region_with (first
    | (go_at_call 23; refine (HTK.out _ (HI.out.below (below_drew HB9.out) (Nat.le_refl _))).mono ?_; rintro e w10 ⟨b10, rfl, hb10, hR10, hbl10'⟩; have hbl10 := below_undrew hbl10'; clear hbl10'; have HB10 := hid (HB9.out.trans (hbl10.mono (by omega))); have hz10 := hbl10.size; have HX10 := hid (HX9.out.on hbl10); have HA10 := hid (HA9.out.on hbl10); have HV10 := hid (HV9.out.on hbl10); have HR10 := hid (HR9.out.on hbl10); have HM10 := hid (HM9.out.on hbl10); have HW10 := hid (HW9.out.on hbl10); have HGa10 := hid (HGa9.out.on hbl10); have HGm10 := hid (HGm9.out.on hbl10); have HG10 := hid (HG9.out.on hbl10); have HT10 := hid hR10.arg; obtain ⟨v1, e10, e11, e12⟩ := HW10.out; rw [HU.out]; clear hR10 hbl10)
    | (go_at_call 24; refine (HEQ.out _ _ _ HR10.out HT10.out).mono ?_; rintro e w11 ⟨rfl, hbl11⟩; have HB11 := hid (HB10.out.trans (hbl11.mono (by omega))); have hz11 := hbl11.size; have HX11 := hid (HX10.out.on hbl11); have HA11 := hid (HA10.out.on hbl11); have HV11 := hid (HV10.out.on hbl11); have HR11 := hid (HR10.out.on hbl11); have HM11 := hid (HM10.out.on hbl11); have HW11 := hid (HW10.out.on hbl11); have HGa11 := hid (HGa10.out.on hbl11); have HGm11 := hid (HGm10.out.on hbl11); have HG11 := hid (HG10.out.on hbl11); clear hbl11))
  all_goals
    clear u0 c00 c01 c02 u1 c10 c11 c12 v1 e10 e11 e12
    obtain ⟨u0, c00, c01, c02⟩ := HW11.out
    go_wp2_with fail
    refine (markKeep_any lo hi Z.length _ Z.length (by omega) _ HM11.out).mono ?_
    rintro e w12 ⟨rfl, hm12, hsv12⟩
    have HB12 := hid (HB11.out.trans (hsv12.below (B := w.heap.size) (by omega) (fun j hj => by have := ofT_some hj; omega)))
    have hz12 := hsv12.size
    have HX12 := hid (HX11.out.save hsv12 (fun h => by have := ofT_some h; omega))
    have HV12 := hid (HV11.out.save hsv12 (fun h => by have := ofT_some h; omega))
    have HA12 := hid (HA11.out.save hsv12 (fun q e h => by have := ofT_some h; have := HF3.out q e; omega))
    have HG12 := hid (HG11.out.save hsv12 (fun h => by have := ofT_some h; omega))
    have HGa12 := hid (HGa11.out.save hsv12 (fun q e h => by have := ofT_some h; have := HF7.out q e; omega))
    have HGm12 := hid (HGm11.out.save hsv12 (fun q e h => by have := ofT_some h; have := HF7.out q e; omega))
    clear hm12 hsv12 u0 c00 c01 c02
    have hk0 : ¬ (((1 + Z.length : Nat) : Int) < 0) := by omega
    obtain ⟨u0, c00, c01, c02⟩ := HG12.out
    obtain ⟨u1, c10, c11, c12⟩ := HV12.out
    go_wp2_with fail
    refine (eqKeep_any lo' hi' Y Y.length rfl _ _ gc vc (by omega) _ HGa12.out HA12.out).mono ?_
    rintro e w13 ⟨rfl, hbl13⟩
    have HB13 := hid (HB12.out.trans (hbl13.mono (by omega)))
    have hz13 := hbl13.size
    have HX13 := hid (HX12.out.on hbl13)
    have HV13 := hid (HV12.out.on hbl13)
    have HA13 := hid (HA12.out.on hbl13)
    have HG13 := hid (HG12.out.on hbl13)
    have HGa13 := hid (HGa12.out.on hbl13)
    have HGm13 := hid (HGm12.out.on hbl13)
    clear hbl13 u0 c00 c01 c02 u1 c10 c11 c12
    obtain ⟨u0, c00, c01, c02⟩ := HG13.out
    go_wp2_with fail
    refine (markKeep_any lo' hi' Y.length ga gc (by omega) _ HGm13.out).mono ?_
    rintro e w14 ⟨rfl, hm14, hsv14⟩
    have HB14 := hid (HB13.out.trans (hsv14.below (B := w.heap.size) (by omega) (fun j hj => by obtain ⟨q, e, h⟩ := hj; have := HF7.out q e; omega)))
    have hz14 := hsv14.size
    have HX14 := hid (HX13.out.save hsv14 (fun h => by obtain ⟨q, e, h⟩ := h; have := HF7.out q e; omega))
    have HV14 := hid (HV13.out.save hsv14 (fun h => by obtain ⟨q, e, h⟩ := h; have := HF7.out q e; omega))
    have HA14 := hid (HA13.out.save hsv14 (fun q e h => by obtain ⟨q2, e2, h⟩ := h; have := HF7.out q2 e2; have := HF3.out q e; omega))
    have HG14 := hid (HG13.out.save hsv14 (fun h => by obtain ⟨q, e, h⟩ := h; have := HF7.out q e; omega))
    have HGk14 := hid hm14
    clear hm14 hsv14 u0 c00 c01 c02
    obtain ⟨u0, c00, c01, c02⟩ := HG14.out
    go_wp2_with fail
    refine (heldKeep_any lo' hi' Y.length ga gc (by omega) _ HGk14.out).mono ?_
    rintro e w15 ⟨rfl, hbl15⟩
    have HB15 := hid (HB14.out.trans (hbl15.mono (by omega)))
    have hz15 := hbl15.size
    have HX15 := hid (HX14.out.on hbl15)
    have HV15 := hid (HV14.out.on hbl15)
    have HA15 := hid (HA14.out.on hbl15)
    have HG15 := hid (HG14.out.on hbl15)
    have HGk15 := hid (HGk14.out.on hbl15)
    clear hbl15 u0 c00 c01 c02
    have hq0 : ¬ (((1 + Y.length : Nat) : Int) < 0) := by omega
    obtain ⟨u0, c00, c01, c02⟩ := HX15.out
    go_wp2_with fail
    refine (toKeep_any lo hi Z a cap hl1 _ (HI.out.below HB15.out (Nat.le_refl _))).mono ?_
    rintro e w16 ⟨b16, rfl, hb16, hR16, hbl16⟩
    have HB16 := hid (HB15.out.trans (hbl16.mono (by omega)))
    have hz16 := hbl16.size
    have HX16 := hid (HX15.out.on hbl16)
    have HV16 := hid (HV15.out.on hbl16)
    have HA16 := hid (HA15.out.on hbl16)
    have HG16 := hid (HG15.out.on hbl16)
    have HGk16 := hid (HGk15.out.on hbl16)
    have HT16 := hid hR16.arg
    clear hR16
    clear hbl16 u0 c00 c01 c02
    go_wp2_with fail
    refine (implPut_any lo hi Z Z.length rfl _ Z.length (slMade b16 Z.length hl1) (by omega) tm lo' hi' Y HY.out _ HT16.out).mono ?_
    rintro e w17 ⟨ha, hc, rfl, hO17, hbl17⟩
    have HB17 := hid (HB16.out.trans (hbl17.mono (by omega)))
    have hz17 := hbl17.size
    have HX17 := hid (HX16.out.on hbl17)
    have HV17 := hid (HV16.out.on hbl17)
    have HA17 := hid (HA16.out.on hbl17)
    have HG17 := hid (HG16.out.on hbl17)
    have HGk17 := hid (HGk16.out.on hbl17)
    obtain ⟨ha', hc', ev, hA17, _, _⟩ := hO17.form
    injection ev with ev1 _ ev2
    subst ev1 ev2
    have HH17 := hid hA17
    clear hO17 hA17
    clear hbl17
    obtain ⟨u0, c00, c01, c02⟩ := HV17.out
    rw [HU.out]
    go_wp2_with fail
    clear u0 c00 c01 c02
    have hbl18 := below_one' w17 (.cells #[.int .i64 lo', .int .i64 hi', .slice ha Y.length hc] 25)
    have HB18 := hid (HB17.out.trans (hbl18.mono (by omega)))
    have HX18 := hid (HX17.out.on hbl18)
    have HV18 := hid (HV17.out.on hbl18)
    have HA18 := hid (HA17.out.on hbl18)
    have HG18 := hid (HG17.out.on hbl18)
    have HGk18 := hid (HGk17.out.on hbl18)
    have HH18 := hid (HH17.out.on hbl18)
    have HP18 := hid (KBox.new w17 lo' hi' ha Y.length hc 25)
    have hz18 : w17.heap.size < (w17.alloc (.cells #[.int .i64 lo', .int .i64 hi', .slice ha Y.length hc] 25)).heap.size := by simp
    clear hbl18
    generalize w17.alloc (.cells #[.int .i64 lo', .int .i64 hi', .slice ha Y.length hc] 25) = w18 at *
    refine (eqKeep_any lo' hi' Y Y.length rfl _ _ hc vc (by omega) _ HH18.out HA18.out).mono ?_
    rintro e w19 ⟨rfl, hbl19⟩
    have HB19 := hid (HB18.out.trans (hbl19.mono (by omega)))
    have hz19 := hbl19.size
    have HX19 := hid (HX18.out.on hbl19)
    have HV19 := hid (HV18.out.on hbl19)
    have HA19 := hid (HA18.out.on hbl19)
    have HG19 := hid (HG18.out.on hbl19)
    have HGk19 := hid (HGk18.out.on hbl19)
    have HH19 := hid (HH18.out.on hbl19)
    have HP19 := hid (HP18.out.on hbl19)
    clear hbl19
    obtain ⟨u0, c00, c01, c02⟩ := HG19.out
    go_wp2_with fail
    refine (heldKeep_any lo' hi' Y.length ga gc (by omega) _ HGk19.out).mono ?_
    rintro e w20 ⟨rfl, hbl20⟩
    have HB20 := hid (HB19.out.trans (hbl20.mono (by omega)))
    have hz20 := hbl20.size
    have HX20 := hid (HX19.out.on hbl20)
    have HV20 := hid (HV19.out.on hbl20)
    have HA20 := hid (HA19.out.on hbl20)
    have HG20 := hid (HG19.out.on hbl20)
    have HGk20 := hid (HGk19.out.on hbl20)
    have HH20 := hid (HH19.out.on hbl20)
    have HP20 := hid (HP19.out.on hbl20)
    clear hbl20 u0 c00 c01 c02
    go_wp2_with fail
    go_ret
    exact ⟨rfl, HB20.out⟩
end Go.Proofs.Ytlikkjppknbnfaa
