/-
  The walks of the laws FnExactHoldsAt and FnExactHolds.
-/
import Derived.Test.YthjnlcjjhklfpaaDoorMeanO
namespace Go.Proofs.YthjnlcjjhklfpaaDoor
open Go.RowKit
set_option linter.unusedVariables false
set_option linter.unusedSimpArgs false
set_option maxRecDepth 20000 in
set_option maxHeartbeats 1000000 in
theorem szNodeS_le (f : List Nd) (a : Option Addr) (cap : Nat) (hs : ∀ i, i < f.length → (ndAt f i).nm.size ≤ maxLen) (hl : f.length ≤ maxLen) (w : World) (hA : ArgN w a f) :
    Calls Tryd.prog 14 #[.slice a f.length cap, .int .i64 1048576] w fun e w' => ∃ r : Int, e = .returned (.int .i64 r) ∧ r ≤ 1048576 ∧ (0 ≤ r → f.length ≤ 1048576 ∧ ∀ i, i < f.length → (ndAt f i).nm.size ≤ 1048576) ∧ Below w.heap.size w w' := by
  unfold maxLen at hl
  have HS := hid hs
  have HA := hid hA
  clear hs hA
  by_cases h : 1048576 < f.length
  · have h' : (1048576 : Int) - (f.length : Int) < 0 := by omega
    go_enter Tryd.func14, Tryd.ntmps14
    go_wp2
    go_ret
    exact ⟨-1, rfl, by omega, by omega, Below.refl _ _⟩
  have h' : ¬ (1048576 : Int) - (f.length : Int) < 0 := by omega
  go_enter Tryd.func14, Tryd.ntmps14
  go_wp2_with fail
  go_loopw [1, 5] (fun l t wr => ∃ (k : Nat) (r : Int), k ≤ f.length ∧ t = .int .i64 k ∧ l = .int .i64 r ∧ 0 ≤ r ∧ r ≤ 1048576 ∧ (∀ i, i < k → (ndAt f i).nm.size ≤ 1048576) ∧ Below w.heap.size w wr) (fun _ t _ => f.length - (intOf t).toNat)
  case atStart => exact ⟨0, _, Nat.zero_le _, rfl, rfl, by omega, by omega, fun i h => by omega, Below.refl _ _⟩
  case round =>
    obtain ⟨k, r, hk, rfl, rfl, hr1, hr2, hsz, hbel⟩ := hrel
    have HZ := hid hsz
    have HB := hid hbel
    clear hsz hbel
    by_cases hlt : k < f.length
    · rcases HA.out with h0 | ⟨b, off, rfl, hb, hc⟩
      · omega
      · obtain ⟨c0, c1, c2, c3, c4, c5⟩ := (hc k hlt).below HB.out hb
        clear hc
        have HX := hid (HS.out k hlt)
        have HC := hid (fun w => szNode_any (ndAt f k) HX.out r hr1 hr2 w)
        clear h'
        go_wp2_with (go_at_call 57; refine (HC.out _).mono ?_; rintro e w1 ⟨r', rfl, q1, q2, q3, hb1⟩; have HB1 : Hid (Below w.heap.size w w1) := HB.out.trans (hb1.mono HB.out.size); have HQ := hid q3; clear q3 hb1)
        · go_ret
          exact ⟨-1, rfl, by omega, by omega, HB1.out⟩
        · go_roundw
          case rel => exact ⟨k + 1, r', by omega, by go_num, rfl, by omega, q2, fun i hi => by
            by_cases e : i = k
            · subst e; exact HQ.out (by omega)
            · exact HZ.out i (by omega), HB1.out⟩
          case measure => simp [intOf]; omega
    · go_wp2_with fail
      go_ret
      exact ⟨r, rfl, hr2, fun _ => ⟨by omega, fun i hi => HZ.out i (by omega)⟩, HB.out⟩
set_option maxRecDepth 20000 in
set_option maxHeartbeats 4000000 in
theorem walkHoldsAt (a : Option Addr) (cap : Nat) (f : List Nd) (a2 : Option Addr) (cap2 : Nat) (L : List Evt) (node i : Int) (w : World) (hI : InN w a cap f) (hJ : InEs w a2 L) (hkw : Kw w) (hg : 0 < w.heap.size) :
    Calls Tryd.prog 12 #[.slice a f.length cap, .int .i64 node, .slice a2 L.length cap2, .int .i64 i] w fun e w' => e = .returned (.bool true) ∧ Below w.heap.size w w' := by
  have HI := hid hI
  have HJ := hid hJ
  have HK := hid hkw
  clear hI hJ hkw
  go_enter Tryd.func12, Tryd.ntmps12
  go_wp2_with fail
  refine (szNodeS_le f a cap (fun i hi => (HI.out.ok i hi).nm) HI.out.len _ HI.out.arg).mono ?_
  rintro e w1 ⟨r, rfl, hr1, hr, hb1⟩
  have HB1 := hid hb1
  have hz1 := hb1.size
  by_cases hr0 : r < 0
  · clear hb1 hr
    go_wp2_with fail
    go_ret
    exact ⟨rfl, HB1.out⟩
  obtain ⟨hl, _⟩ := hr (by omega)
  clear hb1 hr
  go_wp2_with fail
  refine (szEventS_any L a2 cap2 HJ.out.ok HJ.out.len r (by omega) hr1 _ (HJ.out.arg.below HB1.out (Nat.le_refl _))).mono ?_
  rintro e w2 ⟨s, rfl, q1, q2, hs, hb2⟩
  have HB2 := hid (HB1.out.trans (hb2.mono hz1))
  have hz2 := hb2.size
  by_cases hs0 : s < 0
  · clear hb2 hs
    go_wp2_with fail
    go_ret
    exact ⟨rfl, HB2.out⟩
  obtain ⟨hl2, hl3, _⟩ := hs (by omega)
  have HL3 := hid hl3
  clear hb2 hs hl3
  go_wp2_with fail
  refine (toNodeS_any f a cap hl _ (HI.out.arg.below HB2.out (Nat.le_refl _))).mono ?_
  rintro e w3 ⟨b3, rfl, hb3, hn3, hf3, hbl3⟩
  have HB3 := hid (HB2.out.trans (hbl3.mono (by omega)))
  have hz3 := hbl3.size
  have HN3 := hid hn3
  clear hn3 hf3 hbl3
  go_wp2_with fail
  refine (toEventS_any L a2 cap2 hl2 HL3.out _ (HJ.out.arg.below HB3.out (Nat.le_refl _))).mono ?_
  rintro e w4 ⟨b4, A4, z4, rfl, hb4, hR4, hbl4⟩
  have HB4 := hid (HB3.out.trans (hbl4.mono (by omega)))
  have hz4 := hbl4.size
  have HM4 := hid (MeanIn.mk (HN3.out.below hbl4 HN3.out.1) hR4.at HI.out.ok HJ.out.ok hl hl2 : MeanIn w4 f L b3 b4)
  clear hR4 hbl4
  go_wp2_with fail
  refine (specHoldsAt_any f L node i b3 b4 f.length L.length _ HM4.out).mono ?_
  rintro e w5 ⟨rfl, hbl5⟩
  have HB5 := hid (HB4.out.trans (hbl5.mono (by omega)))
  have hz5 := hbl5.size
  clear hbl5
  go_wp2_with fail
  refine (toNodeS_any f a cap hl _ (HI.out.arg.below HB5.out (Nat.le_refl _))).mono ?_
  rintro e w6 ⟨b6, rfl, hb6, hn6, hf6, hbl6⟩
  have HB6 := hid (HB5.out.trans (hbl6.mono (by omega)))
  have hz6 := hbl6.size
  have HN6 := hid hn6
  clear hn6 hf6 hbl6
  go_wp2_with fail
  refine (toEventS_any L a2 cap2 hl2 HL3.out _ (HJ.out.arg.below HB6.out (Nat.le_refl _))).mono ?_
  rintro e w7 ⟨b7, A7, z7, rfl, hb7, hR7, hbl7⟩
  have HB7 := hid (HB6.out.trans (hbl7.mono (by omega)))
  have hz7 := hbl7.size
  have HM7 := hid (MeanIn.mk (HN6.out.below hbl7 HN6.out.1) hR7.at HI.out.ok HJ.out.ok hl hl2 : MeanIn w7 f L b6 b7)
  clear hR7 hbl7
  go_wp2_with fail
  refine (implHoldsAt_any f L node i b6 b7 f.length L.length _ HM7.out (HK.out.below HB7.out hg) (by omega)).mono ?_
  rintro e w8 ⟨rfl, hbl8⟩
  have HB8 := hid (HB7.out.trans (hbl8.mono (by omega)))
  have hz8 := hbl8.size
  have HM8 := hid (HM7.out.below hbl8)
  clear hbl8
  have hx : (haB f L node i != haB f L node i) = false := by simp
  go_wp2_with fail
  refine (toNodeS_any f a cap hl _ (HI.out.arg.below HB8.out (Nat.le_refl _))).mono ?_
  rintro e w9 ⟨b9, rfl, hb9, hn9, hf9, hbl9⟩
  have HB9 := hid (HB8.out.trans (hbl9.mono (by omega)))
  have hz9 := hbl9.size
  have HN9 := hid hn9
  have HM9 := hid (HM8.out.below hbl9)
  clear hn9 hf9 hbl9
  go_wp2_with fail
  refine (eqNodeS_same f b6 b9 f.length f.length hl _ HM9.out.nodes HN9.out).mono ?_
  rintro e w10 ⟨rfl, hbl10⟩
  have HB10 := hid (HB9.out.trans (hbl10.mono (by omega)))
  have hz10 := hbl10.size
  have HM10 := hid (HM9.out.below hbl10)
  clear hbl10
  go_wp2_with fail
  refine (toEventS_any L a2 cap2 hl2 HL3.out _ (HJ.out.arg.below HB10.out (Nat.le_refl _))).mono ?_
  rintro e w11 ⟨b11, A11, z11, rfl, hb11, hR11, hbl11⟩
  have HB11 := hid (HB10.out.trans (hbl11.mono (by omega)))
  have hz11 := hbl11.size
  have HR11 := hid hR11.at.es
  have HM11 := hid (HM10.out.below hbl11)
  clear hR11 hbl11
  go_wp2_with fail
  refine (eqEventS_any L _ rfl _ _ L.length L.length hl2 HL3.out _ HM11.out.evs.es HR11.out).mono ?_
  rintro e w12 ⟨rfl, hbl12⟩
  have HB12 := hid (HB11.out.trans (hbl12.mono (by omega)))
  clear hbl12
  go_wp2_with fail
  go_ret
  exact ⟨rfl, HB12.out⟩
set_option maxRecDepth 20000 in
set_option maxHeartbeats 4000000 in
theorem walkHolds (a : Option Addr) (cap : Nat) (f : List Nd) (a2 : Option Addr) (cap2 : Nat) (L : List Evt) (i : Int) (w : World) (hI : InN w a cap f) (hJ : InEs w a2 L) (hkw : Kw w) (hg : 0 < w.heap.size) :
    Calls Tryd.prog 11 #[.slice a f.length cap, .slice a2 L.length cap2, .int .i64 i] w fun e w' => e = .returned (.bool true) ∧ Below w.heap.size w w' := by
  have HI := hid hI
  have HJ := hid hJ
  have HK := hid hkw
  clear hI hJ hkw
  go_enter Tryd.func11, Tryd.ntmps11
  go_wp2_with fail
  refine (szNodeS_le f a cap (fun i hi => (HI.out.ok i hi).nm) HI.out.len _ HI.out.arg).mono ?_
  rintro e w1 ⟨r, rfl, hr1, hr, hb1⟩
  have HB1 := hid hb1
  have hz1 := hb1.size
  by_cases hr0 : r < 0
  · clear hb1 hr
    go_wp2_with fail
    go_ret
    exact ⟨rfl, HB1.out⟩
  obtain ⟨hl, _⟩ := hr (by omega)
  clear hb1 hr
  go_wp2_with fail
  refine (szEventS_any L a2 cap2 HJ.out.ok HJ.out.len r (by omega) hr1 _ (HJ.out.arg.below HB1.out (Nat.le_refl _))).mono ?_
  rintro e w2 ⟨s, rfl, q1, q2, hs, hb2⟩
  have HB2 := hid (HB1.out.trans (hb2.mono hz1))
  have hz2 := hb2.size
  by_cases hs0 : s < 0
  · clear hb2 hs
    go_wp2_with fail
    go_ret
    exact ⟨rfl, HB2.out⟩
  obtain ⟨hl2, hl3, _⟩ := hs (by omega)
  have HL3 := hid hl3
  clear hb2 hs hl3
  go_wp2_with fail
  refine (toNodeS_any f a cap hl _ (HI.out.arg.below HB2.out (Nat.le_refl _))).mono ?_
  rintro e w3 ⟨b3, rfl, hb3, hn3, hf3, hbl3⟩
  have HB3 := hid (HB2.out.trans (hbl3.mono (by omega)))
  have hz3 := hbl3.size
  have HN3 := hid hn3
  clear hn3 hf3 hbl3
  go_wp2_with fail
  refine (toEventS_any L a2 cap2 hl2 HL3.out _ (HJ.out.arg.below HB3.out (Nat.le_refl _))).mono ?_
  rintro e w4 ⟨b4, A4, z4, rfl, hb4, hR4, hbl4⟩
  have HB4 := hid (HB3.out.trans (hbl4.mono (by omega)))
  have hz4 := hbl4.size
  have HM4 := hid (MeanIn.mk (HN3.out.below hbl4 HN3.out.1) hR4.at HI.out.ok HJ.out.ok hl hl2 : MeanIn w4 f L b3 b4)
  clear hR4 hbl4
  go_wp2_with fail
  refine (specHolds_any f L i b3 b4 f.length L.length _ HM4.out).mono ?_
  rintro e w5 ⟨rfl, hbl5⟩
  have HB5 := hid (HB4.out.trans (hbl5.mono (by omega)))
  have hz5 := hbl5.size
  clear hbl5
  go_wp2_with fail
  refine (toNodeS_any f a cap hl _ (HI.out.arg.below HB5.out (Nat.le_refl _))).mono ?_
  rintro e w6 ⟨b6, rfl, hb6, hn6, hf6, hbl6⟩
  have HB6 := hid (HB5.out.trans (hbl6.mono (by omega)))
  have hz6 := hbl6.size
  have HN6 := hid hn6
  clear hn6 hf6 hbl6
  go_wp2_with fail
  refine (toEventS_any L a2 cap2 hl2 HL3.out _ (HJ.out.arg.below HB6.out (Nat.le_refl _))).mono ?_
  rintro e w7 ⟨b7, A7, z7, rfl, hb7, hR7, hbl7⟩
  have HB7 := hid (HB6.out.trans (hbl7.mono (by omega)))
  have hz7 := hbl7.size
  have HM7 := hid (MeanIn.mk (HN6.out.below hbl7 HN6.out.1) hR7.at HI.out.ok HJ.out.ok hl hl2 : MeanIn w7 f L b6 b7)
  clear hR7 hbl7
  go_wp2_with fail
  refine (implHolds_any f L i b6 b7 f.length L.length _ HM7.out (HK.out.below HB7.out hg) (by omega)).mono ?_
  rintro e w8 ⟨rfl, hbl8⟩
  have HB8 := hid (HB7.out.trans (hbl8.mono (by omega)))
  have hz8 := hbl8.size
  have HM8 := hid (HM7.out.below hbl8)
  clear hbl8
  have hx : (haB f L ((f.length : Int) - 1) i != haB f L ((f.length : Int) - 1) i) = false := by simp
  go_wp2_with fail
  refine (toNodeS_any f a cap hl _ (HI.out.arg.below HB8.out (Nat.le_refl _))).mono ?_
  rintro e w9 ⟨b9, rfl, hb9, hn9, hf9, hbl9⟩
  have HB9 := hid (HB8.out.trans (hbl9.mono (by omega)))
  have hz9 := hbl9.size
  have HN9 := hid hn9
  have HM9 := hid (HM8.out.below hbl9)
  clear hn9 hf9 hbl9
  go_wp2_with fail
  refine (eqNodeS_same f b6 b9 f.length f.length hl _ HM9.out.nodes HN9.out).mono ?_
  rintro e w10 ⟨rfl, hbl10⟩
  have HB10 := hid (HB9.out.trans (hbl10.mono (by omega)))
  have hz10 := hbl10.size
  have HM10 := hid (HM9.out.below hbl10)
  clear hbl10
  go_wp2_with fail
  refine (toEventS_any L a2 cap2 hl2 HL3.out _ (HJ.out.arg.below HB10.out (Nat.le_refl _))).mono ?_
  rintro e w11 ⟨b11, A11, z11, rfl, hb11, hR11, hbl11⟩
  have HB11 := hid (HB10.out.trans (hbl11.mono (by omega)))
  have hz11 := hbl11.size
  have HR11 := hid hR11.at.es
  have HM11 := hid (HM10.out.below hbl11)
  clear hR11 hbl11
  go_wp2_with fail
  refine (eqEventS_any L _ rfl _ _ L.length L.length hl2 HL3.out _ HM11.out.evs.es HR11.out).mono ?_
  rintro e w12 ⟨rfl, hbl12⟩
  have HB12 := hid (HB11.out.trans (hbl12.mono (by omega)))
  clear hbl12
  go_wp2_with fail
  go_ret
  exact ⟨rfl, HB12.out⟩
end Go.Proofs.YthjnlcjjhklfpaaDoor
