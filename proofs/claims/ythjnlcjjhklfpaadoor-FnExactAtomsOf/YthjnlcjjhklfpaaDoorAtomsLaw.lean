/-
  The walk of the law FnExactAtomsOf.
-/
import Derived.Test.YthjnlcjjhklfpaaDoorAtomsI
import Derived.Test.YthjnlcjjhklfpaaDoorMarkF
import Derived.Test.YthjnlcjjhklfpaaDoorMarkH
import Derived.Test.YthjnlcjjhklfpaaDoorMarkN
namespace Go.Proofs.YthjnlcjjhklfpaaDoor
open Go.RowKit
set_option linter.unusedVariables false
set_option linter.unusedSimpArgs false
theorem atomsB_len (f : List Nd) : (atomsB f).length ≤ 1048576 := by
  unfold atomsB
  split
  · next h =>
    have h1 := (rightB_three f h).2.1
    have h2 := atomsTo_len f f.length
    omega
  · simp
set_option maxRecDepth 20000 in
set_option maxHeartbeats 4000000 in
theorem walkAtoms (a : Option Addr) (cap : Nat) (f : List Nd) (w : World) (hI : InN w a cap f) (hkw : Kw w) (hg : 0 < w.heap.size) :
    Calls Tryd.prog 4 #[.slice a f.length cap] w fun e w' => e = .returned (.bool true) ∧ Below w.heap.size w w' := by
  have HI := hid hI
  have HK := hid hkw
  have hpl := atomsB_len f
  clear hI hkw
  go_enter Tryd.func4, Tryd.ntmps4
  go_wp2_with fail
  refine (szNodeS_any f a cap (fun i hi => (HI.out.ok i hi).nm) HI.out.len _ HI.out.arg).mono ?_
  rintro e w1 ⟨r, rfl, hr, hb1⟩
  have HB1 := hid hb1
  have hz1 := hb1.size
  by_cases hr0 : r < 0
  · clear hb1 hr
    go_wp2_with fail
    go_ret
    exact ⟨rfl, HB1.out⟩
  obtain ⟨hl, _⟩ := hr (by omega)
  clear hb1 hr
  go_wp2_with fail
  refine (toNodeS_any f a cap hl _ (HI.out.arg.below HB1.out (Nat.le_refl _))).mono ?_
  rintro e w2 ⟨b2, rfl, hb2, hn2, hf2, hbl2⟩
  have HB2 := hid (HB1.out.trans (hbl2.mono hz1))
  have hz2 := hbl2.size
  have HN2 := hid hn2
  clear hn2 hf2 hbl2
  go_wp2_with fail
  refine (specAtoms_any f b2 f.length _ HN2.out HI.out.ok HI.out.len).mono ?_
  rintro e w3 ⟨g0, c0, rfl, hO, hbl3⟩
  have HB3 := hid (HB2.out.trans (hbl3.mono (by omega)))
  have hz3 := hbl3.size
  obtain ⟨a0', c0', hv0, hs3, _, hr3⟩ := OwS.form (show OwS w3 w2.heap.size _ (atomsB f) from hO)
  injection hv0 with e1 e2 e3
  subst e1
  clear e2 e3
  have HS3 := hid hs3
  have HA0 : Hid (∀ b, some (⟨g0, 0, none⟩ : Addr) = some ⟨b, 0, none⟩ → w2.heap.size ≤ b ∧ b < w3.heap.size) := fun b e => ⟨(hr3 _ e).1, (hr3 _ e).2.1⟩
  clear hO hbl3 hs3 hr3
  go_wp2_with fail
  refine (toNodeS_row f a cap hl _ (HI.out.arg.below HB3.out (Nat.le_refl _))).mono ?_
  rintro e w4 ⟨b4, rfl, hb4, hn4, ⟨z4, hr4⟩, hf4, hbl4⟩
  have HB4 := hid (HB3.out.trans (hbl4.mono (by omega)))
  have hz4 := hbl4.size
  have HN4 := hid hn4
  have HR4 := hid hr4
  have HS4 := hid (HS3.out.below hbl4)
  have HK4 := hid (HK.out.below HB4.out hg)
  clear hn4 hf4 hbl4 hr4
  go_wp2_with fail
  refine (implAtoms_any f b4 f.length _ HN4.out HI.out.ok HI.out.len HK4.out (by omega)).mono ?_
  rintro e w5 ⟨v5, rfl, hP, hbl5⟩
  have HB5 := hid (HB4.out.trans (hbl5.mono (by omega)))
  have hz5 := hbl5.size
  have HN5 := hid (HN4.out.below hbl5 HN4.out.1)
  have HR5 := hid (HR4.out.of_block (hbl5.block b4 HR4.out.lt))
  have HS5 := hid (HS4.out.below hbl5)
  obtain ⟨ag, cg, rfl, hG, hGr, hG3⟩ := hP.form
  have hGb : ∀ b, ag = some ⟨b, 0, none⟩ → w4.heap.size ≤ b ∧ b < w5.heap.size := fun b e => ⟨(hG3 _ e).1, (hG3 _ e).2.1⟩
  have hGq : ∀ q, ag = some q → q = ⟨q.block, 0, none⟩ := fun q e => (hG3 q e).2.2
  clear hG3
  have HGq := hid hGq
  have HG5 := hid hG
  have HGr5 := hid hGr
  have HGb := hid hGb
  clear hbl5 hP hG hGr hGb hGq
  go_wp2_with fail
  refine (eqStringS_any (atomsB f) _ rfl ag (some ⟨g0, 0, none⟩) cg c0 hpl _ HG5.out HS5.out).mono ?_
  rintro e w6 ⟨rfl, hbl6⟩
  have HB6 := hid (HB5.out.trans (hbl6.mono (by omega)))
  have hz6 := hbl6.size
  have HN6 := hid (HN5.out.below hbl6 HN5.out.1)
  have HR6 := hid (HR5.out.of_block (hbl6.block b4 HR5.out.lt))
  have HS6 := hid (HS5.out.below hbl6)
  have HG6 := hid (HG5.out.below hbl6)
  have HGr6 := hid (HGr5.out.below hbl6)
  clear hbl6
  go_wp2_with fail
  refine (toNodeS_any f a cap hl _ (HI.out.arg.below HB6.out (Nat.le_refl _))).mono ?_
  rintro e w7 ⟨b7, rfl, hb7, hn7, hf7, hbl7⟩
  have HB7 := hid (HB6.out.trans (hbl7.mono (by omega)))
  have hz7 := hbl7.size
  have HN7 := hid hn7
  have HN7' := hid (HN6.out.below hbl7 HN6.out.1)
  have HR7 := hid (HR6.out.of_block (hbl7.block b4 HR6.out.lt))
  have HS7 := hid (HS6.out.below hbl7)
  have HG7 := hid (HG6.out.below hbl7)
  have HGr7 := hid (HGr6.out.below hbl7)
  clear hn7 hf7 hbl7
  go_wp2_with fail
  refine (eqNodeS_same f b4 b7 f.length f.length hl _ HN7'.out HN7.out).mono ?_
  rintro e w8 ⟨rfl, hbl8⟩
  have HB8 := hid (HB7.out.trans (hbl8.mono (by omega)))
  have hz8 := hbl8.size
  have HR8 := hid (HR7.out.of_block (hbl8.block b4 HR7.out.lt))
  have HS8 := hid (HS7.out.below hbl8)
  have HG8 := hid (HG7.out.below hbl8)
  have HGr8 := hid (HGr7.out.below hbl8)
  clear hbl8
  go_wp2_with fail
  refine (markNodeS_row f.length 1 b4 f.length _ hl (by omega) (by omega) _ HR8.out).mono ?_
  rintro e w9 ⟨rfl, _, hsv9⟩
  have hn0 : ∀ b, some (⟨g0, 0, none⟩ : Addr) = some ⟨b, 0, none⟩ → b ≠ b4 := fun b e => by have := HA0.out b e; omega
  have hng : ∀ b, ag = some ⟨b, 0, none⟩ → b ≠ b4 := fun b e => by have := HGb.out b e; have := HR4.out.lt; omega
  have HB9 := hid (HB8.out.trans (hsv9.below (B := w.heap.size) (by omega) (fun j hj => by omega)))
  have hz9 := hsv9.size
  have HS9 := hid (HS8.out.save hsv9 (fun b e h => hn0 b e h))
  have HG9 := hid (HG8.out.save hsv9 (fun b e h => hng b e h))
  have HGr9 := hid (HGr8.out.save hsv9 (fun b e h => hng b e h))
  clear hsv9 hn0 hng
  have hk0 : ¬ ((1 + f.length * 6 : Nat) : Int) < 0 := by omega
  go_wp2_with fail
  refine (eqStringS_any (atomsB f) _ rfl ag (some ⟨g0, 0, none⟩) cg c0 hpl _ HG9.out HS9.out).mono ?_
  rintro e w10 ⟨rfl, hbl10⟩
  have HB10 := hid (HB9.out.trans (hbl10.mono (by omega)))
  have hz10 := hbl10.size
  have HS10 := hid (HS9.out.below hbl10)
  have HGr10 := hid (HGr9.out.below hbl10)
  clear hbl10
  go_wp2_with fail
  refine (markStringS_up (atomsB f).length 1 1 rfl (by omega) (by omega) ag cg _ HGr10.out).mono ?_
  rintro e w11 ⟨rfl, hm11, _, hsv11⟩
  have HM11 := hid hm11
  have HB11 := hid (HB10.out.trans (hsv11.below (B := w.heap.size) (by omega) (fun j hj => ofT_flat hj (P := fun j => w.heap.size ≤ j) (fun b e => by have := HGb.out b e; omega) HGq.out)))
  have hz11 := hsv11.size
  have HS11 := hid (HS10.out.save hsv11 (fun b e h => ofT_flat h (P := fun j => ¬ j = b) (fun b' e' => by have := HGb.out b' e'; have := HA0.out b e; omega) HGq.out rfl))
  clear hm11 hsv11
  go_wp2_with fail
  refine (heldStringS_from (atomsB f).length 1 1 rfl (by omega) (by omega) ag cg _ HM11.out).mono ?_
  rintro e w12 ⟨rfl, hbl12⟩
  have HB12 := hid (HB11.out.trans (hbl12.mono (by omega)))
  have hz12 := hbl12.size
  have HS12 := hid (HS11.out.below hbl12)
  have HM12 := hid (HM11.out.below hbl12)
  clear hbl12
  have hq0 : ¬ ((1 + (atomsB f).length : Nat) : Int) < 0 := by omega
  go_wp2_with fail
  refine (toNodeS_any f a cap hl _ (HI.out.arg.below HB12.out (Nat.le_refl _))).mono ?_
  rintro e w13 ⟨b13, rfl, hb13, hn13, hf13, hbl13⟩
  have HB13 := hid (HB12.out.trans (hbl13.mono (by omega)))
  have hz13 := hbl13.size
  have HN13 := hid hn13
  have HS13 := hid (HS12.out.below hbl13)
  have HM13 := hid (HM12.out.below hbl13)
  have HK13 := hid (HK.out.below HB13.out hg)
  clear hn13 hf13 hbl13
  go_wp2_with fail
  refine (implAtoms_any f b13 f.length _ HN13.out HI.out.ok HI.out.len HK13.out (by omega)).mono ?_
  rintro e w14 ⟨v14, rfl, hP, hbl14⟩
  have HB14 := hid (HB13.out.trans (hbl14.mono (by omega)))
  have hz14 := hbl14.size
  have HS14 := hid (HS13.out.below hbl14)
  have HM14 := hid (HM13.out.below hbl14)
  obtain ⟨ah, ch, rfl, hH, _, _⟩ := hP.form
  have HH14 := hid hH
  clear hbl14 hP hH
  go_wp2_with fail
  refine (eqStringS_any (atomsB f) _ rfl ah (some ⟨g0, 0, none⟩) ch c0 hpl _ HH14.out HS14.out).mono ?_
  rintro e w15 ⟨rfl, hbl15⟩
  have HB15 := hid (HB14.out.trans (hbl15.mono (by omega)))
  have hz15 := hbl15.size
  have HM15 := hid (HM14.out.below hbl15)
  clear hbl15
  go_wp2_with fail
  refine (heldStringS_from (atomsB f).length 1 1 rfl (by omega) (by omega) ag cg _ HM15.out).mono ?_
  rintro e w16 ⟨rfl, hbl16⟩
  have HB16 := hid (HB15.out.trans (hbl16.mono (by omega)))
  clear hbl16
  go_wp2_with fail
  go_ret
  exact ⟨rfl, HB16.out⟩
end Go.Proofs.YthjnlcjjhklfpaaDoor
