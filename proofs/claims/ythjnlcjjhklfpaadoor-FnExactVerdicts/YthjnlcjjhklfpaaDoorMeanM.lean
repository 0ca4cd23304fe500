/-
  The program's look by its contract, kind by kind. (Written by wip/tools/gen_look.py.)
-/
import Derived.Test.YthjnlcjjhklfpaaDoorMeanK
namespace Go.Proofs.YthjnlcjjhklfpaaDoor
open Go.RowKit
set_option linter.unusedVariables false
set_option linter.unusedSimpArgs false
theorem TsAt.drewN {w : World} {a : Option Addr} {S : List ByteArray} (h : TsAt w a S) (m : Nat) : TsAt (w.drewN m) a S := h
theorem contains_q (S : List ByteArray) (x : ByteArray) (a : Option Addr) (c : Nat) (hl : S.length ≤ maxLen) (w : World) (hA : TsAt w a S) (m : Nat) :
    Calls Tryd.prog 76 #[.slice a S.length c, .string x] (w.drewN m) fun e w' => e = .returned (.bool (nhTo S x S.length)) ∧ ∃ k, w' = w.drewN k :=
  Calls.quiet_of_same ((contains_any S x _ rfl a c hl (w.drewN m) (hA.drewN m)).mono fun e w' h => ⟨h.1, h.2.symm⟩)
def LookC (w0 : World) (f : List Nd) (L : List Evt) (fb fc eb ec mb n : Nat) : Prop := ∀ (i : Nat) (K : Nat → Nat → Int) (c : Nat) (w : World), i < L.length → St w0 f L mb w K c n →
    Calls Tryd.prog 121 #[mV f L fb fc eb ec mb, ndV (ndAt f n), .int .i64 i] w fun e w' => e = .returned (.bool (hv f L n i)) ∧ ∃ K' c', Aft f L mb w w' K c K' c' n
set_option maxRecDepth 20000 in
set_option maxHeartbeats 4000000 in
theorem look1 {w0 : World} {f : List Nd} {L : List Evt} {fb fc eb ec mb n : Nat} (X : Ctx w0 f L fb eb mb) (hn : n < f.length) (Hall : ∀ p, p < n → HoldsC w0 f L fb fc eb ec mb p) (hk : (ndAt f n).k = 1) : LookC w0 f L fb fc eb ec mb n := by
  intro i K c w hi h
  obtain ⟨hf1, hf2, hf3⟩ := rightB_parts f X.hf
  have harm := (hf3 n hn).1
  have HA0 := hid (h.below (below_boxes w (mO f L fb fc eb ec mb) (xO (ndAt f n))))
  have HBX := hid (Boxes.new w f L fb fc eb ec mb (ndAt f n))
  have hq := h.map.lt
  have HX := hid X
  have HS0 := hid (HA0.out.st X h)
  obtain ⟨hl60, hts⟩ := trB_times X.hl
  have HTm := hid hts
  have HV := hid (hv1 f L n i harm hk)
  clear h X Hall hf3 harm hts
  unfold mO xO at HA0 HBX HS0
  generalize ndAt f n = x at *
  rw [hk] at HA0 HBX HS0
  unfold mV ndV
  go_enter Tryd.func121, Tryd.ntmps121
  go_wp2_with fail
  go_ret
  exact ⟨ret_bool HV.out.symm, K, c, HA0.out⟩
set_option maxRecDepth 20000 in
set_option maxHeartbeats 4000000 in
theorem look2 {w0 : World} {f : List Nd} {L : List Evt} {fb fc eb ec mb n : Nat} (X : Ctx w0 f L fb eb mb) (hn : n < f.length) (Hall : ∀ p, p < n → HoldsC w0 f L fb fc eb ec mb p) (hk : (ndAt f n).k = 2) : LookC w0 f L fb fc eb ec mb n := by
  intro i K c w hi h
  obtain ⟨hf1, hf2, hf3⟩ := rightB_parts f X.hf
  have harm := (hf3 n hn).1
  have HA0 := hid (h.below (below_boxes w (mO f L fb fc eb ec mb) (xO (ndAt f n))))
  have HBX := hid (Boxes.new w f L fb fc eb ec mb (ndAt f n))
  have hq := h.map.lt
  have HX := hid X
  have HS0 := hid (HA0.out.st X h)
  obtain ⟨hl60, hts⟩ := trB_times X.hl
  have HTm := hid hts
  have HV := hid (hv2 f L n i harm hk)
  clear h X Hall hf3 harm hts
  unfold mO xO at HA0 HBX HS0
  generalize ndAt f n = x at *
  rw [hk] at HA0 HBX HS0
  unfold mV ndV
  go_enter Tryd.func121, Tryd.ntmps121
  go_wp2_with fail
  generalize (w.alloc (.cells #[.slice (some ⟨fb, 0, none⟩) f.length fc, .slice (some ⟨eb, 0, none⟩) L.length ec, .map (some mb)] 105)).alloc (.cells #[.int .i64 2, .int .i64 x.a, .int .i64 x.b, .int .i64 x.lo, .int .i64 x.hi, .string x.nm] 74) = W at *
  obtain ⟨hlq, hlq0, m0, m1, m2, x0, x1, x2, x3, x4, x5⟩ := HBX.out
  obtain ⟨d0, a1, c1, d1, hT⟩ := (HS0.out.min HX.out).evs.2 i hi
  have hnm := ((trB_parts L HX.out.hl).2 i hi).2
  have HC := hid (fun m => contains_q (evAt L i).2 x.nm a1 c1 hnm W hT m)
  clear hT
  go_quiet ((go_at_call 76; exact HC.out _))
  go_wp2_with fail
  go_ret
  exact ⟨ret_bool HV.out.symm, K, c, HA0.out.trans (HS0.out.below (below_drewN (Below.refl _ _) _))⟩
set_option maxRecDepth 20000 in
set_option maxHeartbeats 4000000 in
theorem look3 {w0 : World} {f : List Nd} {L : List Evt} {fb fc eb ec mb n : Nat} (X : Ctx w0 f L fb eb mb) (hn : n < f.length) (Hall : ∀ p, p < n → HoldsC w0 f L fb fc eb ec mb p) (hk : (ndAt f n).k = 3) : LookC w0 f L fb fc eb ec mb n := by
  intro i K c w hi h
  obtain ⟨hf1, hf2, hf3⟩ := rightB_parts f X.hf
  have harm := (hf3 n hn).1
  have HA0 := hid (h.below (below_boxes w (mO f L fb fc eb ec mb) (xO (ndAt f n))))
  have HBX := hid (Boxes.new w f L fb fc eb ec mb (ndAt f n))
  have hq := h.map.lt
  have HX := hid X
  have HS0 := hid (HA0.out.st X h)
  obtain ⟨hl60, hts⟩ := trB_times X.hl
  have HTm := hid hts
  obtain ⟨p, hp, hpn⟩ := arms_a harm (by simp [armsN, hk])
  have HH := hid (Hall p hpn)
  have HV := hid (hv3 f L n i harm hk p hp)
  clear h X Hall hf3 harm hts
  unfold mO xO at HA0 HBX HS0
  generalize ndAt f n = x at *
  rw [hk, hp] at HA0 HBX HS0
  unfold mV ndV
  rcases (Bool.eq_false_or_eq_true (hv f L p i)).symm with hh | hh
  · have HVp := hid hh
    clear hh
    go_enter Tryd.func121, Tryd.ntmps121
    go_wp2_with (go_at_call 91; refine (HH.out.is hpn i hi false HVp.out HS0.out).mono ?_; rintro e w1 ⟨rfl, K1, c1, hA⟩; have Hw1 := hid hA; clear hA)
    go_ret
    exact ⟨ret_bool (by rw [HV.out, HVp.out]; rfl), K1, c1, HA0.out.trans Hw1.out⟩
  · have HVp := hid hh
    clear hh
    go_enter Tryd.func121, Tryd.ntmps121
    go_wp2_with (go_at_call 91; refine (HH.out.is hpn i hi true HVp.out HS0.out).mono ?_; rintro e w1 ⟨rfl, K1, c1, hA⟩; have Hw1 := hid hA; clear hA)
    go_ret
    exact ⟨ret_bool (by rw [HV.out, HVp.out]; rfl), K1, c1, HA0.out.trans Hw1.out⟩
set_option maxRecDepth 20000 in
set_option maxHeartbeats 4000000 in
theorem look4 {w0 : World} {f : List Nd} {L : List Evt} {fb fc eb ec mb n : Nat} (X : Ctx w0 f L fb eb mb) (hn : n < f.length) (Hall : ∀ p, p < n → HoldsC w0 f L fb fc eb ec mb p) (hk : (ndAt f n).k = 4) : LookC w0 f L fb fc eb ec mb n := by
  intro i K c w hi h
  obtain ⟨hf1, hf2, hf3⟩ := rightB_parts f X.hf
  have harm := (hf3 n hn).1
  have HA0 := hid (h.below (below_boxes w (mO f L fb fc eb ec mb) (xO (ndAt f n))))
  have HBX := hid (Boxes.new w f L fb fc eb ec mb (ndAt f n))
  have hq := h.map.lt
  have HX := hid X
  have HS0 := hid (HA0.out.st X h)
  obtain ⟨hl60, hts⟩ := trB_times X.hl
  have HTm := hid hts
  obtain ⟨p, hp, hpn⟩ := arms_a harm (by simp [armsN, hk])
  have HH := hid (Hall p hpn)
  obtain ⟨q, hqx, hqn⟩ := arms_b harm (by simp [armsN, hk])
  have HH' := hid (Hall q hqn)
  have HV := hid (hv4 f L n i harm hk p hp q hqx)
  clear h X Hall hf3 harm hts
  unfold mO xO at HA0 HBX HS0
  generalize ndAt f n = x at *
  rw [hk, hp, hqx] at HA0 HBX HS0
  unfold mV ndV
  rcases (Bool.eq_false_or_eq_true (hv f L p i)).symm with hh | hh
  · have HVp := hid hh
    clear hh
    go_enter Tryd.func121, Tryd.ntmps121
    go_wp2_with (go_at_call 91; refine (HH.out.is hpn i hi false HVp.out HS0.out).mono ?_; rintro e w1 ⟨rfl, K1, c1, hA⟩; have Hw1 := hid hA; clear hA)
    go_ret
    exact ⟨ret_bool (by rw [HV.out, HVp.out]; rfl), K1, c1, HA0.out.trans Hw1.out⟩
  · have HVp := hid hh
    clear hh
    go_enter Tryd.func121, Tryd.ntmps121
    go_wp2_with (first | (go_at_call 91; refine (HH.out.is hpn i hi true HVp.out HS0.out).mono ?_; rintro e w1 ⟨rfl, K1, c1, hA⟩; have Hw1 := hid hA; have HS1 := hid (hA.st HX.out HS0.out); have HB1 := hid (HBX.out.aft hA hq); clear HS0; obtain ⟨ulq, ulq0, y0, y1, y2, z0, z1, z2, z3, z4, z5⟩ := HB1.out; clear hA) | (go_at_call 91; refine (HH'.out.is hqn i hi _ rfl HS1.out).mono ?_; rintro e w2 ⟨rfl, K2, c2, hA⟩; have Hw2 := hid hA; clear hA))
    go_ret
    exact ⟨ret_bool (by rw [HV.out, HVp.out]; simp), K2, c2, (HA0.out.trans Hw1.out).trans Hw2.out⟩
set_option maxRecDepth 20000 in
set_option maxHeartbeats 4000000 in
theorem look5 {w0 : World} {f : List Nd} {L : List Evt} {fb fc eb ec mb n : Nat} (X : Ctx w0 f L fb eb mb) (hn : n < f.length) (Hall : ∀ p, p < n → HoldsC w0 f L fb fc eb ec mb p) (hk : (ndAt f n).k = 5) : LookC w0 f L fb fc eb ec mb n := by
  intro i K c w hi h
  obtain ⟨hf1, hf2, hf3⟩ := rightB_parts f X.hf
  have harm := (hf3 n hn).1
  have HA0 := hid (h.below (below_boxes w (mO f L fb fc eb ec mb) (xO (ndAt f n))))
  have HBX := hid (Boxes.new w f L fb fc eb ec mb (ndAt f n))
  have hq := h.map.lt
  have HX := hid X
  have HS0 := hid (HA0.out.st X h)
  obtain ⟨hl60, hts⟩ := trB_times X.hl
  have HTm := hid hts
  obtain ⟨p, hp, hpn⟩ := arms_a harm (by simp [armsN, hk])
  have HH := hid (Hall p hpn)
  obtain ⟨q, hqx, hqn⟩ := arms_b harm (by simp [armsN, hk])
  have HH' := hid (Hall q hqn)
  have HV := hid (hv5 f L n i harm hk p hp q hqx)
  clear h X Hall hf3 harm hts
  unfold mO xO at HA0 HBX HS0
  generalize ndAt f n = x at *
  rw [hk, hp, hqx] at HA0 HBX HS0
  unfold mV ndV
  rcases (Bool.eq_false_or_eq_true (hv f L p i)).symm with hh | hh
  · have HVp := hid hh
    clear hh
    go_enter Tryd.func121, Tryd.ntmps121
    go_wp2_with (first | (go_at_call 91; refine (HH.out.is hpn i hi false HVp.out HS0.out).mono ?_; rintro e w1 ⟨rfl, K1, c1, hA⟩; have Hw1 := hid hA; have HS1 := hid (hA.st HX.out HS0.out); have HB1 := hid (HBX.out.aft hA hq); clear HS0; obtain ⟨ulq, ulq0, y0, y1, y2, z0, z1, z2, z3, z4, z5⟩ := HB1.out; clear hA) | (go_at_call 91; refine (HH'.out.is hqn i hi _ rfl HS1.out).mono ?_; rintro e w2 ⟨rfl, K2, c2, hA⟩; have Hw2 := hid hA; clear hA))
    go_ret
    exact ⟨ret_bool (by rw [HV.out, HVp.out]; simp), K2, c2, (HA0.out.trans Hw1.out).trans Hw2.out⟩
  · have HVp := hid hh
    clear hh
    go_enter Tryd.func121, Tryd.ntmps121
    go_wp2_with (go_at_call 91; refine (HH.out.is hpn i hi true HVp.out HS0.out).mono ?_; rintro e w1 ⟨rfl, K1, c1, hA⟩; have Hw1 := hid hA; clear hA)
    go_ret
    exact ⟨ret_bool (by rw [HV.out, HVp.out]; rfl), K1, c1, HA0.out.trans Hw1.out⟩
set_option maxRecDepth 20000 in
set_option maxHeartbeats 4000000 in
theorem look6 {w0 : World} {f : List Nd} {L : List Evt} {fb fc eb ec mb n : Nat} (X : Ctx w0 f L fb eb mb) (hn : n < f.length) (Hall : ∀ p, p < n → HoldsC w0 f L fb fc eb ec mb p) (hk : (ndAt f n).k = 6) : LookC w0 f L fb fc eb ec mb n := by
  intro i K c w hi h
  obtain ⟨hf1, hf2, hf3⟩ := rightB_parts f X.hf
  have harm := (hf3 n hn).1
  have HA0 := hid (h.below (below_boxes w (mO f L fb fc eb ec mb) (xO (ndAt f n))))
  have HBX := hid (Boxes.new w f L fb fc eb ec mb (ndAt f n))
  have hq := h.map.lt
  have HX := hid X
  have HS0 := hid (HA0.out.st X h)
  obtain ⟨hl60, hts⟩ := trB_times X.hl
  have HTm := hid hts
  obtain ⟨p, hp, hpn⟩ := arms_a harm (by simp [armsN, hk])
  have HH := hid (Hall p hpn)
  have HV := hid (hv6 f L n i harm hk p hp)
  clear h X Hall hf3 harm hts
  unfold mO xO at HA0 HBX HS0
  generalize ndAt f n = x at *
  rw [hk, hp] at HA0 HBX HS0
  unfold mV ndV
  cases i with
  | zero =>
    go_enter Tryd.func121, Tryd.ntmps121
    go_wp2_with fail
    go_ret
    exact ⟨ret_bool (by rw [HV.out]; simp), K, c, HA0.out⟩
  | succ j =>
    simp only [Nat.add_sub_cancel] at HV
    have hjl : j < L.length := by omega
    have HW := hid (fun v hv => within_any f L fb fc eb ec mb x j (j + 1) hjl hi hl60 HTm.out _ (HS0.out.min HX.out).evs v hv)
    unfold ndV at HW
    rw [hk, hp] at HW
    rcases (Bool.eq_false_or_eq_true (gapB x L j (j + 1))).symm with hg | hg
    · have HG := hid hg
      clear hg
      go_enter Tryd.func121, Tryd.ntmps121
      go_wp2_with (go_at_call 150; refine (HW.out false HG.out).mono ?_; rintro e w1 ⟨rfl, hb1⟩; have Hw1 := hid (HS0.out.below hb1); clear hb1)
      go_ret
      exact ⟨ret_bool (by rw [HV.out, HG.out]; simp), K, c, HA0.out.trans Hw1.out⟩
    · have HG := hid hg
      clear hg
      go_enter Tryd.func121, Tryd.ntmps121
      go_wp2_with (first | (go_at_call 150; refine (HW.out true HG.out).mono ?_; rintro e w1 ⟨rfl, hb1⟩; have Hw1 := hid (HS0.out.below hb1); have HS1 := hid (Hw1.out.st HX.out HS0.out); have HB1 := hid (HBX.out.below hb1); clear HS0; obtain ⟨ulq, ulq0, y0, y1, y2, z0, z1, z2, z3, z4, z5⟩ := HB1.out; clear hb1) | (go_at_call 91; refine (HH.out.is hpn j hjl _ rfl HS1.out).mono ?_; rintro e w2 ⟨rfl, K2, c2, hA⟩; have Hw2 := hid hA; clear hA))
      go_ret
      exact ⟨ret_bool (by rw [HV.out, HG.out]; simp), K2, c2, (HA0.out.trans Hw1.out).trans Hw2.out⟩
end Go.Proofs.YthjnlcjjhklfpaaDoor
