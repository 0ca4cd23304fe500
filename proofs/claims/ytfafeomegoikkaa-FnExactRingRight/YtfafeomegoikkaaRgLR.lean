/-
  The walk of the law FnExactRingRight.
-/
import Derived.Test.YtfafeomegoikkaaRgC
import Derived.Test.YtfafeomegoikkaaRgX
namespace Go.Proofs.Ytfafeomegoikkaa
open Go.RowKit
set_option linter.unusedVariables false
set_option linter.unusedSimpArgs false
set_option maxRecDepth 20000 in
set_option maxHeartbeats 8000000 in
theorem walkRgR (cap hd tl : Int) (a : Option Addr) (c : Nat) (n : Nat) (Z : List Int) (hn : Z.length = n * 2) (w : World) (hml : n ≤ maxLen) (hI : ArgI w a Z) :
    Calls Try.prog 4 #[rgV cap hd tl a n c] w fun e w' => e = .returned (.bool true) ∧ Below w.heap.size w w' := by
  have HML := hid hml
  have HI := hid hI
  have HN := hid hn
  clear hI hml hn
  have HU : Hid (∀ cap hd tl a n c, rgV cap hd tl a n c = .agg #[.int .i64 cap, .int .i64 hd, .int .i64 tl, .slice a n c]) := fun _ _ _ _ _ _ => rfl
  rw [HU.out]
  go_enter Try.func4, Try.ntmps4
  go_wp2_with fail
  have HB0 := hid (below_one' w (.cells #[.int .i64 cap, .int .i64 hd, .int .i64 tl, .slice a n c] 44))
  have HX0 := hid (RBox.new w cap hd tl a n c 44)
  generalize w.alloc (.cells #[.int .i64 cap, .int .i64 hd, .int .i64 tl, .slice a n c] 44) = W0 at *
  have hz0 := HB0.out.size
  have hqq := HX0.out.lt
  refine (szRing_any cap hd tl n a c HML.out 1048576 (by omega) (by omega) _).mono ?_
  rintro e w1 ⟨r, rfl, q1, q2, hr, hb1⟩
  have HB1 := hid (HB0.out.trans (hb1.mono hz0))
  have hz1 := hb1.size
  have HX1 := hid (HX0.out.on hb1)
  by_cases hr0 : r < 0
  · clear hb1 hr
    go_wp2_with fail
    go_ret
    exact ⟨rfl, HB1.out⟩
  have hl := hr (by omega)
  have hl1 : n ≤ 1048576 := by omega
  clear hb1 hr hl
  obtain ⟨u0, c00, c01, c02, c03⟩ := HX1.out
  go_wp2_with fail
  refine (toRing_any cap hd tl Z n HN.out a c hl1 _ (HI.out.below HB1.out (Nat.le_refl _))).mono ?_
  rintro e w2 ⟨b2, rfl, hb2, hR2, hbl2⟩
  have HB2 := hid (HB1.out.trans (hbl2.mono (by omega)))
  have hz2 := hbl2.size
  have HX2 := hid (HX1.out.on hbl2)
  have HT2 := hid hR2.arg
  clear hR2
  clear hbl2 u0 c00 c01 c02 c03
  go_wp2_with fail
  refine (specRr_any cap hd tl Z n HN.out _ n (by omega) _ HT2.out).mono ?_
  rintro e w3 ⟨rfl, hbl3⟩
  have HB3 := hid (HB2.out.trans (hbl3.mono (by omega)))
  have hz3 := hbl3.size
  have HX3 := hid (HX2.out.on hbl3)
  clear hbl3
  obtain ⟨u0, c00, c01, c02, c03⟩ := HX3.out
  go_wp2_with fail
  refine (toRing_any cap hd tl Z n HN.out a c hl1 _ (HI.out.below HB3.out (Nat.le_refl _))).mono ?_
  rintro e w4 ⟨b4, rfl, hb4, hR4, hbl4⟩
  have HB4 := hid (HB3.out.trans (hbl4.mono (by omega)))
  have hz4 := hbl4.size
  have HX4 := hid (HX3.out.on hbl4)
  have HR4 := hid hR4.arg
  clear hR4
  clear hbl4 u0 c00 c01 c02 c03
  rw [HU.out]
  go_wp2_with fail
  have hbl5 := below_one' w4 (.cells #[.int .i64 cap, .int .i64 hd, .int .i64 tl, .slice (some ⟨b4, 0, none⟩) n n] 25)
  have HB5 := hid (HB4.out.trans (hbl5.mono (by omega)))
  have HX5 := hid (HX4.out.on hbl5)
  have HR5 := hid (HR4.out.on hbl5)
  have HW5 := hid (RBox.new w4 cap hd tl (some ⟨b4, 0, none⟩) n n 25)
  have hz5 : w4.heap.size < (w4.alloc (.cells #[.int .i64 cap, .int .i64 hd, .int .i64 tl, .slice (some ⟨b4, 0, none⟩) n n] 25)).heap.size := by simp
  clear hbl5
  generalize w4.alloc (.cells #[.int .i64 cap, .int .i64 hd, .int .i64 tl, .slice (some ⟨b4, 0, none⟩) n n] 25) = w5 at *
  refine (implRr_any cap hd tl Z n HN.out _ n (by omega) _ HR5.out).mono ?_
  rintro e w6 ⟨rfl, hbl6⟩
  have HB6 := hid (HB5.out.trans (hbl6.mono (by omega)))
  have hz6 := hbl6.size
  have HX6 := hid (HX5.out.on hbl6)
  have HR6 := hid (HR5.out.on hbl6)
  have HW6 := hid (HW5.out.on hbl6)
  clear hbl6
  generalize ringB cap hd tl n Z = ANS at *
  have hx : (ANS != ANS) = false := by simp
  obtain ⟨u0, c00, c01, c02, c03⟩ := HX6.out
  obtain ⟨u1, c10, c11, c12, c13⟩ := HW6.out
  go_wp2_with fail
  have HTK := hid (fun w' => toRing_any cap hd tl Z n HN.out a c hl1 w')
  have HEQ := hid (fun w' a1 a2 => eqRing_any cap hd tl Z n HN.out a1 a2 n n (by omega) w')
  rw [HU.out] at HTK
  simp only [HU.out] at HEQ
  go_region_with (first
    | (go_at_call 33; refine (HTK.out _ (HI.out.below (below_drew HB6.out) (Nat.le_refl _))).mono ?_; rintro e w7 ⟨b7, rfl, hb7, hR7, hbl7'⟩; have hbl7 := below_undrew hbl7'; clear hbl7'; have HB7 := hid (HB6.out.trans (hbl7.mono (by omega))); have hz7 := hbl7.size; have HX7 := hid (HX6.out.on hbl7); have HR7 := hid (HR6.out.on hbl7); have HW7 := hid (HW6.out.on hbl7); have HT7 := hid hR7.arg; obtain ⟨v1, e10, e11, e12, e13⟩ := HW7.out; rw [HU.out]; clear hR7 hbl7)
    | (go_at_call 34; refine (HEQ.out _ _ _ HR7.out HT7.out).mono ?_; rintro e w8 ⟨rfl, hbl8⟩; have HB8 := hid (HB7.out.trans (hbl8.mono (by omega))); have hz8 := hbl8.size; have HX8 := hid (HX7.out.on hbl8); have HR8 := hid (HR7.out.on hbl8); have HW8 := hid (HW7.out.on hbl8); clear hbl8))
  all_goals
    go_wp2_with fail
    go_ret
    exact ⟨rfl, HB8.out⟩
end Go.Proofs.Ytfafeomegoikkaa
