/-
  The walk of the law FnExactRingOpen.
-/
import Derived.Test.YtfafeomegoikkaaRgE
import Derived.Test.YtfafeomegoikkaaRgX
namespace Go.Proofs.Ytfafeomegoikkaa
open Go.RowKit
set_option linter.unusedVariables false
set_option linter.unusedSimpArgs false
set_option maxRecDepth 20000 in
set_option maxHeartbeats 8000000 in
theorem walkRgLO (cap hd tl : Int) (a : Option Addr) (c : Nat) (n : Nat) (Z : List Int) (hn : Z.length = n * 2) (w : World) (hml : n ≤ maxLen) (hI : ArgI w a Z) :
    Calls Try.prog 10 #[rgV cap hd tl a n c] w fun e w' => e = .returned (.bool true) ∧ Below w.heap.size w w' := by
  have HML := hid hml
  have HI := hid hI
  have HN := hid hn
  clear hI hml hn
  obtain ⟨Y, hY⟩ : ∃ Y, openL cap hd tl n Z = Y := ⟨_, rfl⟩
  have hYl : Y.length ≤ 16 := by rw [← hY]; exact openL_le cap hd tl n Z
  have HS := hid (fun a c hl w h => specOpen_any cap hd tl Z n HN.out a c hl w h)
  have HG := hid (fun a c hl w h => implOpen_any cap hd tl Z n HN.out a c hl w h)
  rw [hY] at HS HG
  clear hY
  have HU : Hid (∀ cap hd tl a n c, rgV cap hd tl a n c = .agg #[.int .i64 cap, .int .i64 hd, .int .i64 tl, .slice a n c]) := fun _ _ _ _ _ _ => rfl
  rw [HU.out]
  go_enter Try.func10, Try.ntmps10
  go_wp2_with fail
  have HB0 := hid (below_one' w (.cells #[.int .i64 cap, .int .i64 hd, .int .i64 tl, .slice a n c] 44))
  have HX0 := hid (RBox.new w cap hd tl a n c 44)
  generalize w.alloc (.cells #[.int .i64 cap, .int .i64 hd, .int .i64 tl, .slice a n c] 44) = W0 at *
  have hz0 := HB0.out.size
  have hqq := HX0.out.lt
  refine (szRing_any cap hd tl n a c HML.out 1048576 (by omega) (by omega) _).mono ?_
  rintro e w1 ⟨r, rfl, q1, q2, hr, hb1⟩
  have HB1 := hid (HB0.out.trans (hb1.mono hz0))
  have hz1 := hb1.size
  have HX1 := hid (HX0.out.on hb1)
  by_cases hr0 : r < 0
  · clear hb1 hr
    go_wp2_with fail
    go_ret
    exact ⟨rfl, HB1.out⟩
  have hl := hr (by omega)
  have hl1 : n ≤ 1048576 := by omega
  clear hb1 hr hl
  obtain ⟨u0, c00, c01, c02, c03⟩ := HX1.out
  go_wp2_with fail
  refine (toRing_any cap hd tl Z n HN.out a c hl1 _ (HI.out.below HB1.out (Nat.le_refl _))).mono ?_
  rintro e w2 ⟨b2, rfl, hb2, hR2, hbl2⟩
  have HB2 := hid (HB1.out.trans (hbl2.mono (by omega)))
  have hz2 := hbl2.size
  have HX2 := hid (HX1.out.on hbl2)
  have HT2 := hid hR2.arg
  clear hR2
  clear hbl2 u0 c00 c01 c02 c03
  go_wp2_with fail
  refine (HS.out _ n (by omega) _ HT2.out).mono ?_
  rintro e w3 ⟨va, vc, rfl, hO3⟩
  have hbl3 := hO3.bel
  have HB3 := hid (HB2.out.trans (hbl3.mono (by omega)))
  have hz3 := hbl3.size
  have HX3 := hid (HX2.out.on hbl3)
  have HA3 := hid hO3.arg
  have HF3 := hid hO3.fresh
  clear hO3 hbl3
  obtain ⟨u0, c00, c01, c02, c03⟩ := HX3.out
  go_wp2_with fail
  refine (toRing_any cap hd tl Z n HN.out a c hl1 _ (HI.out.below HB3.out (Nat.le_refl _))).mono ?_
  rintro e w4 ⟨b5, rfl, hb5, hR5, hbl4⟩
  have HB4 := hid (HB3.out.trans (hbl4.mono (by omega)))
  have hz4 := hbl4.size
  have HX4 := hid (HX3.out.on hbl4)
  have HA4 := hid (HA3.out.on hbl4)
  have HR4 := hid hR5.arg
  have HM4 := hid (hR5.mu HN.out)
  have hb5l := hR5.lt
  clear hR5
  clear hbl4 u0 c00 c01 c02 c03
  rw [HU.out]
  go_wp2_with fail
  have hbl5 := below_one' w4 (.cells #[.int .i64 cap, .int .i64 hd, .int .i64 tl, .slice (some ⟨b5, 0, none⟩) n n] 25)
  have HB5 := hid (HB4.out.trans (hbl5.mono (by omega)))
  have HX5 := hid (HX4.out.on hbl5)
  have HA5 := hid (HA4.out.on hbl5)
  have HR5 := hid (HR4.out.on hbl5)
  have HM5 := hid (HM4.out.on hbl5)
  have HW5 := hid (RBox.new w4 cap hd tl (some ⟨b5, 0, none⟩) n n 25)
  have hz5 : w4.heap.size < (w4.alloc (.cells #[.int .i64 cap, .int .i64 hd, .int .i64 tl, .slice (some ⟨b5, 0, none⟩) n n] 25)).heap.size := by simp
  clear hbl5
  generalize w4.alloc (.cells #[.int .i64 cap, .int .i64 hd, .int .i64 tl, .slice (some ⟨b5, 0, none⟩) n n] 25) = w5 at *
  refine (HG.out _ n (by omega) _ HR5.out).mono ?_
  rintro e w6 ⟨ga, gc, rfl, hO6⟩
  have hbl6 := hO6.bel
  have HB6 := hid (HB5.out.trans (hbl6.mono (by omega)))
  have hz6 := hbl6.size
  have HX6 := hid (HX5.out.on hbl6)
  have HA6 := hid (HA5.out.on hbl6)
  have HR6 := hid (HR5.out.on hbl6)
  have HM6 := hid (HM5.out.on hbl6)
  have HW6 := hid (HW5.out.on hbl6)
  have HGa6 := hid hO6.arg
  have HGm6 := hid hO6.mu
  have HF7 := hid hO6.fresh
  clear hO6 hbl6
  go_wp2_with fail
  refine (eqInt64S_any Y Y.length rfl _ _ gc vc (by omega) _ HGa6.out HA6.out).mono ?_
  rintro e w7 ⟨rfl, hbl7⟩
  have HB7 := hid (HB6.out.trans (hbl7.mono (by omega)))
  have hz7 := hbl7.size
  have HX7 := hid (HX6.out.on hbl7)
  have HA7 := hid (HA6.out.on hbl7)
  have HR7 := hid (HR6.out.on hbl7)
  have HM7 := hid (HM6.out.on hbl7)
  have HW7 := hid (HW6.out.on hbl7)
  have HGa7 := hid (HGa6.out.on hbl7)
  have HGm7 := hid (HGm6.out.on hbl7)
  clear hbl7
  obtain ⟨u0, c00, c01, c02, c03⟩ := HX7.out
  obtain ⟨u1, c10, c11, c12, c13⟩ := HW7.out
  go_wp2_with fail
  have HTK := hid (fun w' => toRing_any cap hd tl Z n HN.out a c hl1 w')
  have HEQ := hid (fun w' a1 a2 => eqRing_any cap hd tl Z n HN.out a1 a2 n n (by omega) w')
  rw [HU.out] at HTK
  simp only [HU.out] at HEQ
  go_region_with (first
    | (go_at_call 33; refine (HTK.out _ (HI.out.below (below_drew HB7.out) (Nat.le_refl _))).mono ?_; rintro e w8 ⟨b8, rfl, hb8, hR8, hbl8'⟩; have hbl8 := below_undrew hbl8'; clear hbl8'; have HB8 := hid (HB7.out.trans (hbl8.mono (by omega))); have hz8 := hbl8.size; have HX8 := hid (HX7.out.on hbl8); have HA8 := hid (HA7.out.on hbl8); have HR8 := hid (HR7.out.on hbl8); have HM8 := hid (HM7.out.on hbl8); have HW8 := hid (HW7.out.on hbl8); have HGa8 := hid (HGa7.out.on hbl8); have HGm8 := hid (HGm7.out.on hbl8); have HT8 := hid hR8.arg; obtain ⟨v1, e10, e11, e12, e13⟩ := HW8.out; rw [HU.out]; clear hR8 hbl8)
    | (go_at_call 34; refine (HEQ.out _ _ _ HR8.out HT8.out).mono ?_; rintro e w9 ⟨rfl, hbl9⟩; have HB9 := hid (HB8.out.trans (hbl9.mono (by omega))); have hz9 := hbl9.size; have HX9 := hid (HX8.out.on hbl9); have HA9 := hid (HA8.out.on hbl9); have HR9 := hid (HR8.out.on hbl9); have HM9 := hid (HM8.out.on hbl9); have HW9 := hid (HW8.out.on hbl9); have HGa9 := hid (HGa8.out.on hbl9); have HGm9 := hid (HGm8.out.on hbl9); clear hbl9))
  all_goals
    clear u0 c00 c01 c02 c03 u1 c10 c11 c12 c13 v1 e10 e11 e12 e13
    obtain ⟨u0, c00, c01, c02, c03⟩ := HW9.out
    go_wp2_with fail
    refine (markRing_any cap hd tl n _ n (by omega) _ HM9.out).mono ?_
    rintro e w10 ⟨rfl, hm10, hsv10⟩
    have HB10 := hid (HB9.out.trans (hsv10.below (B := w.heap.size) (by omega) (fun j hj => by have := ofT_some hj; omega)))
    have hz10 := hsv10.size
    have HX10 := hid (HX9.out.save hsv10 (fun h => by have := ofT_some h; omega))
    have HA10 := hid (HA9.out.save hsv10 (fun q e h => by have := ofT_some h; have := HF3.out q e; omega))
    have HGa10 := hid (HGa9.out.save hsv10 (fun q e h => by have := ofT_some h; have := HF7.out q e; omega))
    have HGm10 := hid (HGm9.out.save hsv10 (fun q e h => by have := ofT_some h; have := HF7.out q e; omega))
    clear hm10 hsv10 u0 c00 c01 c02 c03
    have hk0 : ¬ (((1 + n * 2 : Nat) : Int) < 0) := by omega
    go_wp2_with fail
    refine (eqInt64S_any Y Y.length rfl _ _ gc vc (by omega) _ HGa10.out HA10.out).mono ?_
    rintro e w11 ⟨rfl, hbl11⟩
    have HB11 := hid (HB10.out.trans (hbl11.mono (by omega)))
    have hz11 := hbl11.size
    have HX11 := hid (HX10.out.on hbl11)
    have HA11 := hid (HA10.out.on hbl11)
    have HGa11 := hid (HGa10.out.on hbl11)
    have HGm11 := hid (HGm10.out.on hbl11)
    clear hbl11
    go_wp2_with fail
    refine (markInt64S_any 1 Y.length ga gc (by omega) (by omega) _ HGm11.out).mono ?_
    rintro e w12 ⟨rfl, hm12, hsv12⟩
    have HB12 := hid (HB11.out.trans (hsv12.below (B := w.heap.size) (by omega) (fun j hj => by obtain ⟨q, e, h⟩ := hj; have := HF7.out q e; omega)))
    have hz12 := hsv12.size
    have HX12 := hid (HX11.out.save hsv12 (fun h => by obtain ⟨q, e, h⟩ := h; have := HF7.out q e; omega))
    have HA12 := hid (HA11.out.save hsv12 (fun q e h => by obtain ⟨q2, e2, h⟩ := h; have := HF7.out q2 e2; have := HF3.out q e; omega))
    have HGk12 := hid hm12
    clear hm12 hsv12
    go_wp2_with fail
    refine (heldInt64S_any 1 Y.length ga gc (by omega) (by omega) _ HGk12.out).mono ?_
    rintro e w13 ⟨rfl, hbl13⟩
    have HB13 := hid (HB12.out.trans (hbl13.mono (by omega)))
    have hz13 := hbl13.size
    have HX13 := hid (HX12.out.on hbl13)
    have HA13 := hid (HA12.out.on hbl13)
    have HGk13 := hid (HGk12.out.on hbl13)
    clear hbl13
    have hq0 : ¬ (((1 + Y.length : Nat) : Int) < 0) := by omega
    have hq1 : (((1 + Y.length : Nat) : Int) != ((1 + Y.length : Nat) : Int)) = false := by simp
    obtain ⟨u0, c00, c01, c02, c03⟩ := HX13.out
    go_wp2_with fail
    refine (toRing_any cap hd tl Z n HN.out a c hl1 _ (HI.out.below HB13.out (Nat.le_refl _))).mono ?_
    rintro e w14 ⟨b16, rfl, hb16, hR16, hbl14⟩
    have HB14 := hid (HB13.out.trans (hbl14.mono (by omega)))
    have hz14 := hbl14.size
    have HX14 := hid (HX13.out.on hbl14)
    have HA14 := hid (HA13.out.on hbl14)
    have HGk14 := hid (HGk13.out.on hbl14)
    have HT14 := hid hR16.arg
    clear hR16
    clear hbl14 u0 c00 c01 c02 c03
    go_wp2_with fail
    refine (HG.out _ n (by omega) _ HT14.out).mono ?_
    rintro e w15 ⟨ha, hc, rfl, hO15⟩
    have hbl15 := hO15.bel
    have HB15 := hid (HB14.out.trans (hbl15.mono (by omega)))
    have hz15 := hbl15.size
    have HX15 := hid (HX14.out.on hbl15)
    have HA15 := hid (HA14.out.on hbl15)
    have HGk15 := hid (HGk14.out.on hbl15)
    have HH15 := hid hO15.arg
    clear hO15 hbl15
    go_wp2_with fail
    refine (eqInt64S_any Y Y.length rfl _ _ hc vc (by omega) _ HH15.out HA15.out).mono ?_
    rintro e w16 ⟨rfl, hbl16⟩
    have HB16 := hid (HB15.out.trans (hbl16.mono (by omega)))
    have hz16 := hbl16.size
    have HX16 := hid (HX15.out.on hbl16)
    have HA16 := hid (HA15.out.on hbl16)
    have HGk16 := hid (HGk15.out.on hbl16)
    have HH16 := hid (HH15.out.on hbl16)
    clear hbl16
    go_wp2_with fail
    refine (heldInt64S_any 1 Y.length ga gc (by omega) (by omega) _ HGk16.out).mono ?_
    rintro e w17 ⟨rfl, hbl17⟩
    have HB17 := hid (HB16.out.trans (hbl17.mono (by omega)))
    have hz17 := hbl17.size
    have HX17 := hid (HX16.out.on hbl17)
    have HA17 := hid (HA16.out.on hbl17)
    have HGk17 := hid (HGk16.out.on hbl17)
    have HH17 := hid (HH16.out.on hbl17)
    clear hbl17
    go_wp2_with fail
    go_ret
    exact ⟨rfl, HB17.out⟩
end Go.Proofs.Ytfafeomegoikkaa
