/-
  The walk of the law FnExactMonRun.
-/
import Derived.Test.YtbfkbgmkibkbnaaGreatDoorPa47
import Derived.Test.YtbfkbgmkibkbnaaGreatDoorPa11
namespace Go.Proofs.YtbfkbgmkibkbnaaGreatDoor
open Go.RowKit
set_option linter.unusedVariables false
set_option linter.unusedSimpArgs false
set_option maxRecDepth 20000 in
set_option maxHeartbeats 8000000 in
theorem walkMRun (a : Option Addr) (cap : Nat) (f : List Nd) (a2 : Option Addr) (cap2 : Nat) (L : List Evt) (w : World) (hI : InN w a cap f) (hJ : InEs w a2 L) (hkw : Kw w) (hg : 1 < w.heap.size) :
    Calls Tryz.prog 5 #[.slice a f.length cap, .slice a2 L.length cap2] w fun e w' => e = .returned (.bool true) ∧ Below w.heap.size w w' := by
  have HI := hid hI
  have HJ := hid hJ
  have HK := hid hkw
  have hvl0 := vdB_len f L
  have hvl : (vdB f L).length ≤ 1048576 := by omega
  clear hI hJ hkw hvl0
  go_enter Tryz.func5, Tryz.ntmps5
  go_wp2_with fail
  refine (szNodeS_le f a cap (fun i hi => (HI.out.ok i hi).nm) HI.out.len _ HI.out.arg).mono ?_
  rintro e w1 ⟨r, rfl, _, hr1, hr, hb1⟩
  have HB1 := hid hb1
  have hz1 := hb1.size
  by_cases hr0 : r < 0
  · clear hb1 hr
    go_wp2_with fail
    go_ret
    exact ⟨rfl, HB1.out⟩
  obtain ⟨hl, _⟩ := hr (by omega)
  clear hb1 hr
  go_wp2_with fail
  refine (szEventS_any L a2 cap2 HJ.out.ok HJ.out.len r (by omega) hr1 _ (HJ.out.arg.below HB1.out (Nat.le_refl _))).mono ?_
  rintro e w2 ⟨s, rfl, q1, q2, hs, hb2⟩
  have HB2 := hid (HB1.out.trans (hb2.mono hz1))
  have hz2 := hb2.size
  by_cases hs0 : s < 0
  · clear hb2 hs
    go_wp2_with fail
    go_ret
    exact ⟨rfl, HB2.out⟩
  obtain ⟨hl2, hl3, hsum⟩ := hs (by omega)
  have HL3 := hid hl3
  have hkA := kAt_sum L (1 + f.length * 6) L.length
  have hkB : kAt (1 + f.length * 6) (lenN L) L.length ≤ 1000000000 := by rw [hkA]; omega
  have HKB := hid hkB
  clear hb2 hs hl3 hkA hkB hsum
  go_wp2_with fail
  refine (toNodeS_any f a cap hl _ (HI.out.arg.below HB2.out (Nat.le_refl _))).mono ?_
  rintro e w3 ⟨b3, rfl, hb3, hn3, hf3, hbl3⟩
  have HB3 := hid (HB2.out.trans (hbl3.mono (by omega)))
  have hz3 := hbl3.size
  have HN3 := hid hn3
  clear hn3 hf3 hbl3
  go_wp2_with fail
  refine (toEventS_any L a2 cap2 hl2 HL3.out _ (HJ.out.arg.below HB3.out (Nat.le_refl _))).mono ?_
  rintro e w4 ⟨b4, A4, z4, rfl, hb4, hR4, hbl4⟩
  have HB4 := hid (HB3.out.trans (hbl4.mono (by omega)))
  have hz4 := hbl4.size
  have HM4 := hid (MeanIn.mk (HN3.out.below hbl4 HN3.out.1) hR4.at HI.out.ok HJ.out.ok hl hl2 : MeanIn w4 f L b3 b4)
  clear hR4 hbl4
  go_wp2_with fail
  refine (specMRun_any f L b3 b4 f.length L.length _ HM4.out).mono ?_
  rintro e w5 ⟨a0, c0, rfl, hS5, hA0, hbl5⟩
  have HB5 := hid (HB4.out.trans (hbl5.mono (by omega)))
  have hz5 := hbl5.size
  have HS5 := hid hS5
  have HA0 := hid hA0
  clear hbl5 hS5 hA0
  go_wp2_with fail
  refine (toNodeS_row f a cap hl _ (HI.out.arg.below HB5.out (Nat.le_refl _))).mono ?_
  rintro e w6 ⟨b6, rfl, hb6, hn6, ⟨z6, hr6⟩, hf6, hbl6⟩
  have HB6 := hid (HB5.out.trans (hbl6.mono (by omega)))
  have hz6 := hbl6.size
  have HN6 := hid hn6
  have HR6 := hid hr6
  have hl6 := hr6.lt
  have HS6 := hid (HS5.out.below hbl6)
  clear hn6 hf6 hbl6 hr6
  go_wp2_with fail
  refine (toEventS_any L a2 cap2 hl2 HL3.out _ (HJ.out.arg.below HB6.out (Nat.le_refl _))).mono ?_
  rintro e w7 ⟨b7, A7, z7, rfl, hb7, hR7, hbl7⟩
  have HB7 := hid (HB6.out.trans (hbl7.mono (by omega)))
  have hz7 := hbl7.size
  have HM7 := hid (MeanIn.mk (HN6.out.below hbl7 HN6.out.1) hR7.at HI.out.ok HJ.out.ok hl hl2 : MeanIn w7 f L b6 b7)
  have HR7 := hid (HR6.out.of_block (hbl7.block b6 HR6.out.lt))
  have HE7 := hid hR7
  have hl7 := hR7.row.lt
  have HS7 := hid (HS6.out.below hbl7)
  clear hR7 hbl7
  go_wp2_with fail
  refine (implMRun_any f L b6 b7 f.length L.length _ HM7.out (HK.out.below HB7.out hg) (by omega)).mono ?_
  rintro e w8 ⟨ag, cg, rfl, hG, hGr, hGb, hGq, hbl8⟩
  have HB8 := hid (HB7.out.trans (hbl8.mono (by omega)))
  have hz8 := hbl8.size
  have HM8 := hid (HM7.out.below hbl8)
  have HR8 := hid (HR7.out.of_block (hbl8.block b6 HR7.out.lt))
  have HE8 := hid (HE7.out.below hbl8)
  have HS8 := hid (HS7.out.below hbl8)
  have HG8 := hid hG
  have HGr8 := hid hGr
  have HGb := hid hGb
  have HGq := hid hGq
  clear hbl8 hG hGr hGb hGq
  go_wp2_with fail
  refine (eqBoolS_any (vdB f L) _ rfl ag a0 cg c0 hvl _ HG8.out HS8.out).mono ?_
  rintro e w9 ⟨rfl, hbl9⟩
  have HB9 := hid (HB8.out.trans (hbl9.mono (by omega)))
  have hz9 := hbl9.size
  have HM9 := hid (HM8.out.below hbl9)
  have HR9 := hid (HR8.out.of_block (hbl9.block b6 HR8.out.lt))
  have HE9 := hid (HE8.out.below hbl9)
  have HS9 := hid (HS8.out.below hbl9)
  have HG9 := hid (HG8.out.below hbl9)
  have HGr9 := hid (HGr8.out.below hbl9)
  clear hbl9
  go_wp2_with fail
  refine (toNodeS_any f a cap hl _ (HI.out.arg.below HB9.out (Nat.le_refl _))).mono ?_
  rintro e w10 ⟨b10, rfl, hb10, hn10, hf10, hbl10⟩
  have HB10 := hid (HB9.out.trans (hbl10.mono (by omega)))
  have hz10 := hbl10.size
  have HN10 := hid hn10
  have HM10 := hid (HM9.out.below hbl10)
  have HR10 := hid (HR9.out.of_block (hbl10.block b6 HR9.out.lt))
  have HE10 := hid (HE9.out.below hbl10)
  have HS10 := hid (HS9.out.below hbl10)
  have HG10 := hid (HG9.out.below hbl10)
  have HGr10 := hid (HGr9.out.below hbl10)
  clear hn10 hf10 hbl10
  go_wp2_with fail
  refine (eqNodeS_same f b6 b10 f.length f.length hl _ HM10.out.nodes HN10.out).mono ?_
  rintro e w11 ⟨rfl, hbl11⟩
  have HB11 := hid (HB10.out.trans (hbl11.mono (by omega)))
  have hz11 := hbl11.size
  have HM11 := hid (HM10.out.below hbl11)
  have HR11 := hid (HR10.out.of_block (hbl11.block b6 HR10.out.lt))
  have HE11 := hid (HE10.out.below hbl11)
  have HS11 := hid (HS10.out.below hbl11)
  have HG11 := hid (HG10.out.below hbl11)
  have HGr11 := hid (HGr10.out.below hbl11)
  clear hbl11
  go_wp2_with fail
  refine (toEventS_any L a2 cap2 hl2 HL3.out _ (HJ.out.arg.below HB11.out (Nat.le_refl _))).mono ?_
  rintro e w12 ⟨b12, A12, z12, rfl, hb12, hR12, hbl12⟩
  have HB12 := hid (HB11.out.trans (hbl12.mono (by omega)))
  have hz12 := hbl12.size
  have HQ12 := hid hR12.at.es
  have HM12 := hid (HM11.out.below hbl12)
  have HR12 := hid (HR11.out.of_block (hbl12.block b6 HR11.out.lt))
  have HE12 := hid (HE11.out.below hbl12)
  have HS12 := hid (HS11.out.below hbl12)
  have HG12 := hid (HG11.out.below hbl12)
  have HGr12 := hid (HGr11.out.below hbl12)
  clear hR12 hbl12
  go_wp2_with fail
  refine (eqEventS_any L _ rfl _ _ L.length L.length hl2 HL3.out _ HM12.out.evs.es HQ12.out).mono ?_
  rintro e w13 ⟨rfl, hbl13⟩
  have HB13 := hid (HB12.out.trans (hbl13.mono (by omega)))
  have hz13 := hbl13.size
  have HR13 := hid (HR12.out.of_block (hbl13.block b6 HR12.out.lt))
  have HE13 := hid (HE12.out.below hbl13)
  have HS13 := hid (HS12.out.below hbl13)
  have HG13 := hid (HG12.out.below hbl13)
  have HGr13 := hid (HGr12.out.below hbl13)
  clear hbl13 HM12 HM11 HM10 HM9 HM8 HM4
  have n06 : ∀ b, a0 = some ⟨b, 0, none⟩ → b < b6 := fun b e => by have := HA0.out b e; omega
  have ng7 : ∀ b, ag = some ⟨b, 0, none⟩ → b6 < b ∧ b7 < b ∧ w7.heap.size ≤ b := fun b e => by have := HGb.out b e; omega
  have N06 := hid n06
  have NG7 := hid ng7
  clear n06 ng7
  go_wp2_with fail
  refine (markNodeS_row f.length 1 b6 f.length _ hl (by omega) (by omega) _ HR13.out).mono ?_
  rintro e w14 ⟨rfl, _, hsv14⟩
  have HB14 := hid (HB13.out.trans (hsv14.below (B := w.heap.size) (by omega) (fun j hj => by omega)))
  have hz14 := hsv14.size
  have HE14 : Hid (EvRow w14 b7 L A7 z7 L.length) := ⟨HE13.out.row.of_block (hsv14.block b7 HE13.out.row.lt (by omega)), fun i hi => World.rowIs.of_block (HE13.out.names i hi) (hsv14.block _ (World.rowIs.lt (HE13.out.names i hi)) (by have := HE13.out.above i hi; omega)), HE13.out.above, HE13.out.rising⟩
  have HS14 := hid (HS13.out.save hsv14 (fun b e h => by have := N06.out b e; omega))
  have HG14 := hid (HG13.out.save hsv14 (fun b e h => by have := NG7.out b e; omega))
  have HGr14 := hid (HGr13.out.save hsv14 (fun b e h => by have := NG7.out b e; omega))
  clear hsv14
  go_wp2_with fail
  refine (markEventS_row L.length (1 + f.length * 6) b7 L.length _ (by push_cast; omega) _ _ _ hl2 (by omega) HKB.out _ HE14.out.mk').mono ?_
  rintro e w15 ⟨rfl, _, hsv15⟩
  have hge : ∀ j, EvMkS b7 L.length (fun i => some ⟨A7 i, 0, none⟩) j → b7 ≤ j ∧ j < w7.heap.size := by
    rintro j (rfl | ⟨i, hi, h⟩)
    · exact ⟨Nat.le_refl _, hl7⟩
    · have h1 := h.some
      have h2 := HE7.out.above i hi
      have h3 := World.rowIs.lt (HE7.out.names i hi)
      simp only at h1
      omega
  have HB15 := hid (HB14.out.trans (hsv15.below (B := w.heap.size) (by omega) (fun j hj => by have := hge j hj; omega)))
  have hz15 := hsv15.size
  have HS15 := hid (HS14.out.save hsv15 (fun b e h => by have := hge b h; have := N06.out b e; omega))
  have HG15 := hid (HG14.out.save hsv15 (fun b e h => by have := hge b h; have := NG7.out b e; omega))
  have HGr15 := hid (HGr14.out.save hsv15 (fun b e h => by have := hge b h; have := NG7.out b e; omega))
  clear hsv15 hge
  generalize hKK : kAt (1 + f.length * 6) (lenN L) L.length = KK at *
  clear hKK
  have hk0 : ¬ ((KK : Nat) : Int) < 0 := by omega
  go_wp2_with fail
  refine (eqBoolS_any (vdB f L) _ rfl ag a0 cg c0 hvl _ HG15.out HS15.out).mono ?_
  rintro e w16 ⟨rfl, hbl16⟩
  have HB16 := hid (HB15.out.trans (hbl16.mono (by omega)))
  have hz16 := hbl16.size
  have HS16 := hid (HS15.out.below hbl16)
  have HGr16 := hid (HGr15.out.below hbl16)
  clear hbl16
  go_wp2_with fail
  refine (markBoolS_any (vdB f L).length ag cg hvl _ HGr16.out).mono ?_
  rintro e w17 ⟨rfl, hm17, hsv17⟩
  have HM17 := hid hm17
  have HB17 := hid (HB16.out.trans (hsv17.below (B := w.heap.size) (by omega) (fun j hj => ofT_flat hj (P := fun j => w.heap.size ≤ j) (fun b e => by have := NG7.out b e; omega) HGq.out)))
  have hz17 := hsv17.size
  have HS17 := hid (HS16.out.save hsv17 (fun b e h => ofT_flat h (P := fun j => ¬ j = b) (fun b' e' => by have := NG7.out b' e'; have := N06.out b e; omega) HGq.out rfl))
  clear hm17 hsv17
  go_wp2_with fail
  refine (heldBoolS_any (vdB f L).length ag cg hvl _ HM17.out).mono ?_
  rintro e w18 ⟨rfl, hbl18⟩
  have HB18 := hid (HB17.out.trans (hbl18.mono (by omega)))
  have hz18 := hbl18.size
  have HS18 := hid (HS17.out.below hbl18)
  have HM18 := hid (HM17.out.below hbl18)
  clear hbl18
  have hq0 : ¬ ((1 + (vdB f L).length : Nat) : Int) < 0 := by omega
  go_wp2_with fail
  refine (toNodeS_any f a cap hl _ (HI.out.arg.below HB18.out (Nat.le_refl _))).mono ?_
  rintro e w19 ⟨b19, rfl, hb19, hn19, hf19, hbl19⟩
  have HB19 := hid (HB18.out.trans (hbl19.mono (by omega)))
  have hz19 := hbl19.size
  have HN19 := hid hn19
  have HS19 := hid (HS18.out.below hbl19)
  have HM19 := hid (HM18.out.below hbl19)
  clear hn19 hf19 hbl19
  go_wp2_with fail
  refine (toEventS_any L a2 cap2 hl2 HL3.out _ (HJ.out.arg.below HB19.out (Nat.le_refl _))).mono ?_
  rintro e w20 ⟨b20, A20, z20, rfl, hb20, hR20, hbl20⟩
  have HB20 := hid (HB19.out.trans (hbl20.mono (by omega)))
  have hz20 := hbl20.size
  have HMI := hid (MeanIn.mk (HN19.out.below hbl20 HN19.out.1) hR20.at HI.out.ok HJ.out.ok hl hl2 : MeanIn w20 f L b19 b20)
  have HS20 := hid (HS19.out.below hbl20)
  have HM20 := hid (HM19.out.below hbl20)
  clear hR20 hbl20
  go_wp2_with fail
  refine (implMRun_any f L b19 b20 f.length L.length _ HMI.out (HK.out.below HB20.out hg) (by omega)).mono ?_
  rintro e w21 ⟨ah, ch, rfl, hH, _, _, _, hbl21⟩
  have HB21 := hid (HB20.out.trans (hbl21.mono (by omega)))
  have hz21 := hbl21.size
  have HS21 := hid (HS20.out.below hbl21)
  have HM21 := hid (HM20.out.below hbl21)
  have HH21 := hid hH
  clear hbl21 hH
  go_wp2_with fail
  refine (eqBoolS_any (vdB f L) _ rfl ah a0 ch c0 hvl _ HH21.out HS21.out).mono ?_
  rintro e w22 ⟨rfl, hbl22⟩
  have HB22 := hid (HB21.out.trans (hbl22.mono (by omega)))
  have hz22 := hbl22.size
  have HM22 := hid (HM21.out.below hbl22)
  clear hbl22
  go_wp2_with fail
  refine (heldBoolS_any (vdB f L).length ag cg hvl _ HM22.out).mono ?_
  rintro e w23 ⟨rfl, hbl23⟩
  have HB23 := hid (HB22.out.trans (hbl23.mono (by omega)))
  clear hbl23
  go_wp2_with fail
  go_ret
  exact ⟨rfl, HB23.out⟩
end Go.Proofs.YtbfkbgmkibkbnaaGreatDoor
