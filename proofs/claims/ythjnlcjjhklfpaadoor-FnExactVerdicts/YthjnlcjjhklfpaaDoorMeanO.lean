/-
  The program's newMeaning, HoldsAt, Holds by their contracts.
-/
import Derived.Test.YthjnlcjjhklfpaaDoorMeanN
namespace Go.Proofs.YthjnlcjjhklfpaaDoor
open Go.RowKit
set_option linter.unusedVariables false
set_option linter.unusedSimpArgs false
set_option maxRecDepth 20000 in
set_option maxHeartbeats 1000000 in
theorem newMeaning_any (f : List Nd) (L : List Evt) (fb fc eb ec : Nat) (w : World) :
    Calls Tryd.prog 90 #[.slice (some ⟨fb, 0, none⟩) f.length fc, .slice (some ⟨eb, 0, none⟩) L.length ec] w fun e w' => ∃ mb, e = .returned (mV f L fb fc eb ec mb) ∧ w.heap.size ≤ mb ∧ KM w' mb 0 (fun _ _ => 0) ∧ Below w.heap.size w w' := by
  have hmm := @run_makeMap Tryd.prog
  go_enter Tryd.func90, Tryd.ntmps90
  go_wp2
  refine bodyPost_ret (v := mV f L fb fc eb ec (w.heap.size + 1)) (by simp [results, Tryd.results90, go_sem, mV]) rfl ⟨w.heap.size + 1, rfl, by omega, ?_, ?_⟩
  · have := KM.made (w.alloc (.cells #[.slice (some ⟨fb, 0, none⟩) f.length fc, .slice (some ⟨eb, 0, none⟩) L.length ec, .map (some (w.heap.size + 1))] 105))
    simpa using this
  · exact below_boxes w _ _
theorem implRight_is (f : List Nd) (v : Bool) (hv : rightB f = v) (b cap : Nat) (w : World) (hN : NodesAt w b f) (hok : ∀ i, i < f.length → ndOk (ndAt f i)) (hlen : f.length ≤ maxLen) (hkw : Kw w) (hg : 0 < w.heap.size) :
    Calls Tryd.prog 61 #[.slice (some ⟨b, 0, none⟩) f.length cap] w fun e w' => e = .returned (.bool v) ∧ Below w.heap.size w w' := by
  subst hv
  exact implRight_any f b cap w hN hok hlen hkw hg
theorem implTrace_is (E : List Evt) (v : Bool) (hv : trB E = v) (b c : Nat) (hs : ∀ i, i < E.length → EvOk (evAt E i)) (hl : E.length ≤ maxLen) (w : World) (hA : EvsAt w b E) (hkw : Kw w) (hg : 0 < w.heap.size) :
    Calls Tryd.prog 42 #[.slice (some ⟨b, 0, none⟩) E.length c] w fun e w' => e = .returned (.bool v) ∧ Below w.heap.size w w' := by
  subst hv
  exact implTrace_any E _ rfl _ c hs hl w hA.es hkw hg
/-- A meaning that has just been made. -/
theorem St.made {w0 w1 : World} {f : List Nd} {L : List Evt} {mb : Nat} (hb : Below w0.heap.size w0 w1) (hm : KM w1 mb 0 (fun _ _ => 0)) (n : Nat) : St w0 f L mb w1 (fun _ _ => 0) 0 n :=
  ⟨hb, hm, Nat.zero_le _, fun m j _ _ => Or.inl rfl⟩
set_option maxRecDepth 20000 in
set_option maxHeartbeats 4000000 in
theorem implHoldsAt_any (f : List Nd) (L : List Evt) (node i : Int) (fb eb fc ec : Nat) (w : World) (h : MeanIn w f L fb eb) (hkw : Kw w) (hg : 0 < w.heap.size) :
    Calls Tryd.prog 51 #[.slice (some ⟨fb, 0, none⟩) f.length fc, .int .i64 node, .slice (some ⟨eb, 0, none⟩) L.length ec, .int .i64 i] w fun e w' => e = .returned (.bool (haB f L node i)) ∧ Below w.heap.size w w' := by
  have H := hid h
  have HK := hid hkw
  have hfl := h.fl
  have hll := h.ll
  have hm1 : f.length ≤ maxLen := by unfold maxLen; omega
  have hm2 : L.length ≤ maxLen := by unfold maxLen; omega
  have HM1 := hid hm1
  have HM2 := hid hm2
  clear h hkw hm1 hm2
  rcases (Bool.eq_false_or_eq_true (rightB f)).symm with hr | hr
  · have HV : Hid (haB f L node i = false) := by show haB f L node i = _; simp [haB, hr]
    have HR := hid hr
    clear hr
    go_enter Tryd.func51, Tryd.ntmps51
    go_wp2_with (go_at_call 61; refine (implRight_is f false HR.out fb fc _ H.out.nodes H.out.fok HM1.out HK.out hg).mono ?_; rintro e w1 ⟨rfl, hb1⟩; have HB1 := hid hb1; have HM := hid (H.out.below hb1); have hg1 := Nat.lt_of_lt_of_le hg hb1.size; clear hb1)
    go_ret
    exact ⟨ret_bool HV.out.symm, HB1.out⟩
  have HR := hid hr
  clear hr
  rcases (Bool.eq_false_or_eq_true (trB L)).symm with ht | ht
  · have HV : Hid (haB f L node i = false) := by show haB f L node i = _; simp [haB, ht]
    have HT := hid ht
    clear ht
    go_enter Tryd.func51, Tryd.ntmps51
    go_wp2_with (first | (go_at_call 61; refine (implRight_is f true HR.out fb fc _ H.out.nodes H.out.fok HM1.out HK.out hg).mono ?_; rintro e w1 ⟨rfl, hb1⟩; have HB1 := hid hb1; have HM := hid (H.out.below hb1); have hg1 := Nat.lt_of_lt_of_le hg hb1.size; clear hb1) | (go_at_call 42; refine (implTrace_is L false HT.out eb ec H.out.lok HM2.out _ HM.out.evs (HK.out.below HB1.out hg) hg1).mono ?_; rintro e w2 ⟨rfl, hb2⟩; have HB2 := hid (HB1.out.trans (hb2.mono HB1.out.size)); have HMM := hid (HM.out.below hb2); have hz2 := HB2.out.size; clear hb2))
    go_ret
    exact ⟨ret_bool HV.out.symm, HB2.out⟩
  have HT := hid ht
  clear ht
  by_cases hn0 : node < 0
  · have HV : Hid (haB f L node i = false) := by show haB f L node i = _; simp [haB, inLen, isB]; omega
    go_enter Tryd.func51, Tryd.ntmps51
    go_wp2_with (first | (go_at_call 61; refine (implRight_is f true HR.out fb fc _ H.out.nodes H.out.fok HM1.out HK.out hg).mono ?_; rintro e w1 ⟨rfl, hb1⟩; have HB1 := hid hb1; have HM := hid (H.out.below hb1); have hg1 := Nat.lt_of_lt_of_le hg hb1.size; clear hb1) | (go_at_call 42; refine (implTrace_is L true HT.out eb ec H.out.lok HM2.out _ HM.out.evs (HK.out.below HB1.out hg) hg1).mono ?_; rintro e w2 ⟨rfl, hb2⟩; have HB2 := hid (HB1.out.trans (hb2.mono HB1.out.size)); have HMM := hid (HM.out.below hb2); have hz2 := HB2.out.size; clear hb2))
    go_ret
    exact ⟨ret_bool HV.out.symm, HB2.out⟩
  by_cases hn1 : (f.length : Int) ≤ node
  · have HV : Hid (haB f L node i = false) := by show haB f L node i = _; simp [haB, inLen, isB]; omega
    go_enter Tryd.func51, Tryd.ntmps51
    go_wp2_with (first | (go_at_call 61; refine (implRight_is f true HR.out fb fc _ H.out.nodes H.out.fok HM1.out HK.out hg).mono ?_; rintro e w1 ⟨rfl, hb1⟩; have HB1 := hid hb1; have HM := hid (H.out.below hb1); have hg1 := Nat.lt_of_lt_of_le hg hb1.size; clear hb1) | (go_at_call 42; refine (implTrace_is L true HT.out eb ec H.out.lok HM2.out _ HM.out.evs (HK.out.below HB1.out hg) hg1).mono ?_; rintro e w2 ⟨rfl, hb2⟩; have HB2 := hid (HB1.out.trans (hb2.mono HB1.out.size)); have HMM := hid (HM.out.below hb2); have hz2 := HB2.out.size; clear hb2))
    go_ret
    exact ⟨ret_bool HV.out.symm, HB2.out⟩
  by_cases hi0 : i < 0
  · have HV : Hid (haB f L node i = false) := by show haB f L node i = _; simp [haB, inLen, isB]; omega
    go_enter Tryd.func51, Tryd.ntmps51
    go_wp2_with (first | (go_at_call 61; refine (implRight_is f true HR.out fb fc _ H.out.nodes H.out.fok HM1.out HK.out hg).mono ?_; rintro e w1 ⟨rfl, hb1⟩; have HB1 := hid hb1; have HM := hid (H.out.below hb1); have hg1 := Nat.lt_of_lt_of_le hg hb1.size; clear hb1) | (go_at_call 42; refine (implTrace_is L true HT.out eb ec H.out.lok HM2.out _ HM.out.evs (HK.out.below HB1.out hg) hg1).mono ?_; rintro e w2 ⟨rfl, hb2⟩; have HB2 := hid (HB1.out.trans (hb2.mono HB1.out.size)); have HMM := hid (HM.out.below hb2); have hz2 := HB2.out.size; clear hb2))
    go_ret
    exact ⟨ret_bool HV.out.symm, HB2.out⟩
  by_cases hi1 : (L.length : Int) ≤ i
  · have HV : Hid (haB f L node i = false) := by show haB f L node i = _; simp [haB, inLen, isB]; omega
    go_enter Tryd.func51, Tryd.ntmps51
    go_wp2_with (first | (go_at_call 61; refine (implRight_is f true HR.out fb fc _ H.out.nodes H.out.fok HM1.out HK.out hg).mono ?_; rintro e w1 ⟨rfl, hb1⟩; have HB1 := hid hb1; have HM := hid (H.out.below hb1); have hg1 := Nat.lt_of_lt_of_le hg hb1.size; clear hb1) | (go_at_call 42; refine (implTrace_is L true HT.out eb ec H.out.lok HM2.out _ HM.out.evs (HK.out.below HB1.out hg) hg1).mono ?_; rintro e w2 ⟨rfl, hb2⟩; have HB2 := hid (HB1.out.trans (hb2.mono HB1.out.size)); have HMM := hid (HM.out.below hb2); have hz2 := HB2.out.size; clear hb2))
    go_ret
    exact ⟨ret_bool HV.out.symm, HB2.out⟩
  obtain ⟨p, rfl, hp⟩ : ∃ p : Nat, node = p ∧ p < f.length := ⟨node.toNat, by omega, by omega⟩
  obtain ⟨q, rfl, hq⟩ : ∃ q : Nat, i = q ∧ q < L.length := ⟨i.toNat, by omega, by omega⟩
  have e1 : inLen p f.length = true := by simp [inLen, isB]; omega
  have e2 : inLen q L.length = true := by simp [inLen, isB]; omega
  have HV : Hid (haB f L p q = hv f L p q) := by show haB f L p q = _; simp [haB, HR.out, HT.out, e1, e2]
  clear e1 e2
  clear hn0 hn1 hi0 hi1
  go_enter Tryd.func51, Tryd.ntmps51
  go_wp2_with (first | (go_at_call 61; refine (implRight_is f true HR.out fb fc _ H.out.nodes H.out.fok HM1.out HK.out hg).mono ?_; rintro e w1 ⟨rfl, hb1⟩; have HB1 := hid hb1; have HM := hid (H.out.below hb1); have hg1 := Nat.lt_of_lt_of_le hg hb1.size; clear hb1) | (go_at_call 42; refine (implTrace_is L true HT.out eb ec H.out.lok HM2.out _ HM.out.evs (HK.out.below HB1.out hg) hg1).mono ?_; rintro e w2 ⟨rfl, hb2⟩; have HB2 := hid (HB1.out.trans (hb2.mono HB1.out.size)); have HMM := hid (HM.out.below hb2); have hz2 := HB2.out.size; clear hb2) | (go_at_call 90; refine (newMeaning_any f L fb fc eb ec _).mono ?_; rintro e w3 ⟨mb, rfl, hmb, hKM, hb3⟩; have HC := hid (Ctx.mk HMM.out HR.out HT.out hmb : Ctx w2 f L fb eb mb); have HKM := hid hKM; have HB3 := hid hb3; clear hKM hb3) | (go_at_call 91; refine (holds_all HC.out p hp q _ _ _ hq (St.made HB3.out HKM.out (p + 1))).mono ?_; rintro e w4 ⟨rfl, K4, c4, hA⟩; have HB4 : Hid (Below w.heap.size w w4) := (HB2.out.trans (HB3.out.mono hz2)).trans (hA.save.below (B := w.heap.size) (Nat.le_trans hz2 HB3.out.size) (fun j e => (by omega))); clear hA))
  go_ret
  exact ⟨ret_bool HV.out.symm, HB4.out⟩
set_option maxRecDepth 20000 in
set_option maxHeartbeats 2000000 in
theorem implHolds_any (f : List Nd) (L : List Evt) (i : Int) (fb eb fc ec : Nat) (w : World) (h : MeanIn w f L fb eb) (hkw : Kw w) (hg : 0 < w.heap.size) :
    Calls Tryd.prog 49 #[.slice (some ⟨fb, 0, none⟩) f.length fc, .slice (some ⟨eb, 0, none⟩) L.length ec, .int .i64 i] w fun e w' => e = .returned (.bool (haB f L ((f.length : Int) - 1) i)) ∧ Below w.heap.size w w' := by
  have H := hid h
  have HK := hid hkw
  have hfl := h.fl
  clear h hkw
  go_enter Tryd.func49, Tryd.ntmps49
  go_wp2_with (go_at_call 51; refine (implHoldsAt_any f L ((f.length : Int) - 1) i fb eb fc ec _ H.out HK.out hg).mono ?_; rintro e w1 ⟨rfl, hb1⟩; have HB1 := hid hb1; clear hb1)
  go_ret
  exact ⟨rfl, HB1.out⟩
end Go.Proofs.YthjnlcjjhklfpaaDoor
