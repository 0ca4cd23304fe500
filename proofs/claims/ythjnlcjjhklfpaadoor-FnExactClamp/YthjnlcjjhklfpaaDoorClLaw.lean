/-
  The walk of the law FnExactClamp.
-/
import Derived.Test.YthjnlcjjhklfpaaDoorClI
import Derived.Test.YthjnlcjjhklfpaaDoorMarkF
import Derived.Test.YthjnlcjjhklfpaaDoorMarkH
namespace Go.Proofs.YthjnlcjjhklfpaaDoor
open Go.RowKit
set_option linter.unusedVariables false
set_option linter.unusedSimpArgs false
theorem kAt_le (k0 : Nat) (N : Nat → Nat) (B : Nat) : ∀ n, (∀ i, i < n → N i ≤ B) → kAt k0 N n ≤ k0 + n * (1 + B)
  | 0, _ => by simp [kAt]
  | n + 1, h => by
    have h1 := kAt_le k0 N B n (fun i hi => h i (by omega))
    have h2 := h n (by omega)
    show kAt k0 N n + 1 + N n ≤ _
    rw [Nat.add_mul]
    omega
theorem clampB_len (E : List Evt) : (clampB E).length ≤ 60 := by
  unfold clampB
  split
  · next h => rw [cTo_len]; exact h.1
  · simp
theorem clampB_nm (E : List Evt) (h : ∀ i, i < E.length → (evAt E i).2.length ≤ 1048576) : ∀ i, i < (clampB E).length → (evAt (clampB E) i).2.length ≤ 1048576 := by
  intro i hi
  unfold clampB at hi ⊢
  split at hi
  · next hc =>
    rw [if_pos hc]
    rw [cTo_len] at hi
    have : evAt (cTo E E.length) i = (mostTo E (i + 1), (evAt E i).2) := by simp [evAt, cTo, List.getD, hi]
    rw [this]
    exact h i hi
  · simp at hi
theorem qN_le (Q : List EvQ) (F : List Evt) (hF : evsOf Q = F) (h : ∀ i, i < F.length → (evAt F i).2.length ≤ 1048576) : ∀ i, i < Q.length → qN Q i ≤ 1048576 := by
  intro i hi
  obtain ⟨x, hx, _, _, en, _⟩ := q_get Q hi
  have h1 := evs_at Q i x hx
  rw [hF] at h1
  have h2 := h i (by rw [← hF, evs_len]; exact hi)
  rw [h1] at h2
  rw [en]
  exact h2
/-- The answer of either: its slice, its events, and who owns it. -/
theorem clamp_open {w : World} {base : Nat} {v : Value} {Q : List EvQ} {F : List Evt} (hF : evsOf Q = F) (h : EvOwn w base v Q) : Q.length = F.length ∧ ∃ a c, v = .slice a F.length c ∧ EsAt w a F := by
  obtain ⟨a, c, hv, hes, _⟩ := h.form
  have hl : Q.length = F.length := by rw [← hF, evs_len]
  exact ⟨hl, a, c, by rw [hv, hl], by rw [← hF]; exact hes⟩
theorem clamp_es {w : World} {base : Nat} {a : Option Addr} {c : Nat} {Q : List EvQ} {F : List Evt} (hF : evsOf Q = F) (h : EvOwn w base (.slice a F.length c) Q) : EsAt w a F := by
  obtain ⟨a', c', hv, hes, _⟩ := h.form
  injection hv with e1
  subst e1
  rw [← hF]
  exact hes
theorem mark_own {w : World} {base n : Nat} {a : Option Addr} {c : Nat} {Q : List EvQ} (hq : Q.length = n) (hn : n ≤ 1048576) (hk : kAt 1 (qN Q) n ≤ 1000000000) (h : EvOwn w base (.slice a n c) Q) :
    Calls Tryd.prog 46 #[.slice a n c, .int .i64 1] w fun e w' => e = .returned (.int .i64 (kAt 1 (qN Q) n : Nat)) ∧ EvHeld w' a n (qA Q) (qN Q) (qC Q) ∧ Save w w' (EvB (.slice a n c) Q) := by
  subst hq
  exact markEventS_own hn hk h
set_option maxRecDepth 20000 in
set_option maxHeartbeats 8000000 in
theorem walkClamp (a : Option Addr) (cap : Nat) (E : List Evt) (w : World) (hI : InEs w a E) (hkw : Kw w) (hg : 0 < w.heap.size) :
    Calls Tryd.prog 10 #[.slice a E.length cap] w fun e w' => e = .returned (.bool true) ∧ Below w.heap.size w w' := by
  have HI := hid hI
  have HK := hid hkw
  have hF60 := clampB_len E
  clear hI hkw
  go_enter Tryd.func10, Tryd.ntmps10
  go_wp2_with fail
  refine (szEventS_any E a cap HI.out.ok HI.out.len 1048576 (by omega) (by omega) _ HI.out.arg).mono ?_
  rintro e w1 ⟨r, rfl, q1, q2, hr, hb1⟩
  have HB1 := hid hb1
  have hz1 := hb1.size
  by_cases hr0 : r < 0
  · clear hb1 hr
    go_wp2_with fail
    go_ret
    exact ⟨rfl, HB1.out⟩
  obtain ⟨hl, hl2, hsum⟩ := hr (by omega)
  have HL2 := hid hl2
  have hkA := kAt_sum E 1 E.length
  have hkB : kAt 1 (lenN E) E.length ≤ 1000000000 := by rw [hkA]; omega
  have HKB := hid hkB
  have HNm := hid (clampB_nm E hl2)
  have hF : (clampB E).length ≤ 1048576 := by omega
  clear hb1 hr hl2 hkA hkB hsum
  go_wp2_with fail
  refine (toEventS_any E a cap hl HL2.out _ (HI.out.arg.below HB1.out (Nat.le_refl _))).mono ?_
  rintro e w2 ⟨b2, A2, z2, rfl, hb2, hR2, hbl2⟩
  have HB2 := hid (HB1.out.trans (hbl2.mono hz1))
  have hz2 := hbl2.size
  have HR2 := hid hR2
  clear hR2 hbl2
  go_wp2_with fail
  refine (specClamp_any E b2 A2 z2 E.length HI.out.ok hl _ HR2.out).mono ?_
  rintro e w3 ⟨v0, Q0, rfl, hQ0, hO0, hbl3⟩
  have HB3 := hid (HB2.out.trans (hbl3.mono (by omega)))
  have hz3 := hbl3.size
  obtain ⟨_, a0, c0, rfl, _⟩ := clamp_open hQ0 hO0
  have HQ0 := hid hQ0
  have HO3 := hid hO0
  have HRg0 := hid (fun j hj => (hO0.range hj : w2.heap.size ≤ j ∧ j < w3.heap.size))
  clear hbl3 hQ0 hO0
  go_wp2_with fail
  refine (toEventS_any E a cap hl HL2.out _ (HI.out.arg.below HB3.out (Nat.le_refl _))).mono ?_
  rintro e w4 ⟨b4, A4, z4, rfl, hb4, hR4, hbl4⟩
  have HB4 := hid (HB3.out.trans (hbl4.mono (by omega)))
  have hz4 := hbl4.size
  have HR4 := hid hR4
  have hl4 := hR4.row.lt
  have HO4 := hid (HO3.out.below hbl4)
  clear hR4 hbl4
  go_wp2_with fail
  refine (implClamp_any E _ E.length HI.out.ok hl _ HR4.out.at.es (HK.out.below HB4.out hg) (by omega)).mono ?_
  rintro e w5 ⟨vg, Qg, rfl, hQg, hOg, hbl5⟩
  have HB5 := hid (HB4.out.trans (hbl5.mono (by omega)))
  have hz5 := hbl5.size
  obtain ⟨hqg, ag, cg, rfl, _⟩ := clamp_open hQg hOg
  have HQg := hid hQg
  have HOg5 := hid hOg
  have HRgG := hid (fun j hj => (hOg.range hj : w4.heap.size ≤ j ∧ j < w5.heap.size))
  have HR5 := hid (HR4.out.below hbl5)
  have HO5 := hid (HO4.out.below hbl5)
  have hql : Hid (Qg.length = (clampB E).length) := hqg
  have hkg : kAt 1 (qN Qg) Qg.length ≤ 1000000000 := by
    have h1 := kAt_le 1 (qN Qg) 1048576 Qg.length (qN_le Qg _ hQg HNm.out)
    rw [hqg] at h1 ⊢
    have h2 : (clampB E).length * (1 + 1048576) ≤ 60 * (1 + 1048576) := Nat.mul_le_mul_right _ hF60
    omega
  rw [hqg] at hkg
  have HKG := hid hkg
  clear hbl5 hQg hOg hqg hkg
  go_wp2_with fail
  refine (eqEventS_any (clampB E) _ rfl ag a0 cg c0 hF HNm.out _ (clamp_es HQg.out HOg5.out) (clamp_es HQ0.out HO5.out)).mono ?_
  rintro e w6 ⟨rfl, hbl6⟩
  have HB6 := hid (HB5.out.trans (hbl6.mono (by omega)))
  have hz6 := hbl6.size
  have HR6 := hid (HR5.out.below hbl6)
  have HO6 := hid (HO5.out.below hbl6)
  have HOg6 := hid (HOg5.out.below hbl6)
  clear hbl6
  go_wp2_with fail
  refine (toEventS_any E a cap hl HL2.out _ (HI.out.arg.below HB6.out (Nat.le_refl _))).mono ?_
  rintro e w7 ⟨b7, A7, z7, rfl, hb7, hR7, hbl7⟩
  have HB7 := hid (HB6.out.trans (hbl7.mono (by omega)))
  have hz7 := hbl7.size
  have HQ7 := hid hR7.at.es
  have HR7 := hid (HR6.out.below hbl7)
  have HO7 := hid (HO6.out.below hbl7)
  have HOg7 := hid (HOg6.out.below hbl7)
  clear hR7 hbl7
  go_wp2_with fail
  refine (eqEventS_any E _ rfl _ _ E.length E.length hl HL2.out _ HR7.out.at.es HQ7.out).mono ?_
  rintro e w8 ⟨rfl, hbl8⟩
  have HB8 := hid (HB7.out.trans (hbl8.mono (by omega)))
  have hz8 := hbl8.size
  have HR8 := hid (HR7.out.below hbl8)
  have HO8 := hid (HO7.out.below hbl8)
  have HOg8 := hid (HOg7.out.below hbl8)
  clear hbl8
  go_wp2_with fail
  refine (markEventS_row E.length 1 b4 E.length 1 rfl _ _ _ hl (by omega) HKB.out _ HR8.out.mk').mono ?_
  rintro e w9 ⟨rfl, _, hsv9⟩
  have hge : ∀ j, EvMkS b4 E.length (fun i => some ⟨A4 i, 0, none⟩) j → b4 ≤ j ∧ j < w4.heap.size := by
    rintro j (rfl | ⟨i, hi, h⟩)
    · exact ⟨Nat.le_refl _, hl4⟩
    · have h1 := h.some
      have h2 := HR4.out.above i hi
      have h3 := World.rowIs.lt (HR4.out.names i hi)
      simp only at h1
      omega
  have HB9 := hid (HB8.out.trans (hsv9.below (B := w.heap.size) (by omega) (fun j hj => by have := hge j hj; omega)))
  have hz9 := hsv9.size
  have HO9 := hid (HO8.out.save hsv9 (fun j h1 h2 => by have := hge j h2; have := HRg0.out j h1; omega))
  have HOg9 := hid (HOg8.out.save hsv9 (fun j h1 h2 => by have := hge j h2; have := HRgG.out j h1; omega))
  clear hsv9 hge
  generalize hKK : kAt 1 (lenN E) E.length = KK at *
  clear hKK
  have hk0 : ¬ ((KK : Nat) : Int) < 0 := by omega
  go_wp2_with fail
  refine (eqEventS_any (clampB E) _ rfl ag a0 cg c0 hF HNm.out _ (clamp_es HQg.out HOg9.out) (clamp_es HQ0.out HO9.out)).mono ?_
  rintro e w10 ⟨rfl, hbl10⟩
  have HB10 := hid (HB9.out.trans (hbl10.mono (by omega)))
  have hz10 := hbl10.size
  have HO10 := hid (HO9.out.below hbl10)
  have HOg10 := hid (HOg9.out.below hbl10)
  clear hbl10
  go_wp2_with fail
  refine (mark_own hql.out hF HKG.out HOg10.out).mono ?_
  rintro e w11 ⟨rfl, hm11, hsv11⟩
  have HM11 := hid hm11
  have HB11 := hid (HB10.out.trans (hsv11.below (B := w.heap.size) (by omega) (fun j hj => by have := HRgG.out j hj; omega)))
  have hz11 := hsv11.size
  have HO11 := hid (HO10.out.save hsv11 (fun j h1 h2 => by have := HRgG.out j h2; have := HRg0.out j h1; omega))
  clear hm11 hsv11
  have HCh := hid (fun (ww : World) (hh : EvHeld ww ag (clampB E).length (qA Qg) (qN Qg) (qC Qg)) => heldEventS_own (c := cg) hF HKG.out hh)
  generalize kAt 1 (qN Qg) (clampB E).length = KM at *
  go_wp2_with fail
  refine (HCh.out _ HM11.out).mono ?_
  rintro e w12 ⟨rfl, hbl12⟩
  have HB12 := hid (HB11.out.trans (hbl12.mono (by omega)))
  have hz12 := hbl12.size
  have HO12 := hid (HO11.out.below hbl12)
  have HM12 := hid (HM11.out.below hbl12)
  clear hbl12
  have hq0 : ¬ ((KM : Nat) : Int) < 0 := by omega
  go_wp2_with fail
  refine (toEventS_any E a cap hl HL2.out _ (HI.out.arg.below HB12.out (Nat.le_refl _))).mono ?_
  rintro e w13 ⟨b13, A13, z13, rfl, hb13, hR13, hbl13⟩
  have HB13 := hid (HB12.out.trans (hbl13.mono (by omega)))
  have hz13 := hbl13.size
  have HR13 := hid hR13
  have HO13 := hid (HO12.out.below hbl13)
  have HM13 := hid (HM12.out.below hbl13)
  clear hR13 hbl13
  go_wp2_with fail
  refine (implClamp_any E _ E.length HI.out.ok hl _ HR13.out.at.es (HK.out.below HB13.out hg) (by omega)).mono ?_
  rintro e w14 ⟨vh, Qh, rfl, hQh, hOh, hbl14⟩
  have HB14 := hid (HB13.out.trans (hbl14.mono (by omega)))
  have hz14 := hbl14.size
  obtain ⟨_, ah, ch, rfl, hEh⟩ := clamp_open hQh hOh
  have HEh := hid hEh
  have HO14 := hid (HO13.out.below hbl14)
  have HM14 := hid (HM13.out.below hbl14)
  clear hbl14 hQh hOh hEh
  go_wp2_with fail
  refine (eqEventS_any (clampB E) _ rfl ah a0 ch c0 hF HNm.out _ HEh.out (clamp_es HQ0.out HO14.out)).mono ?_
  rintro e w15 ⟨rfl, hbl15⟩
  have HB15 := hid (HB14.out.trans (hbl15.mono (by omega)))
  have hz15 := hbl15.size
  have HM15 := hid (HM14.out.below hbl15)
  clear hbl15
  go_wp2_with fail
  refine (HCh.out _ HM15.out).mono ?_
  rintro e w16 ⟨rfl, hbl16⟩
  have HB16 := hid (HB15.out.trans (hbl16.mono (by omega)))
  clear hbl16
  go_wp2_with fail
  go_ret
  exact ⟨rfl, HB16.out⟩
end Go.Proofs.YthjnlcjjhklfpaaDoor
