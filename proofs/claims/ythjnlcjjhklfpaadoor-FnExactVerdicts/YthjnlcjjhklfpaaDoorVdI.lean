/-
  The program's Verdicts by its contract.
-/
import Derived.Test.YthjnlcjjhklfpaaDoorMarkB
namespace Go.Proofs.YthjnlcjjhklfpaaDoor
open Go.RowKit
set_option linter.unusedVariables false
set_option linter.unusedSimpArgs false
theorem HoldsC.num {w0 : World} {f : List Nd} {L : List Evt} {fb fc eb ec mb p : Nat} (H : HoldsC w0 f L fb fc eb ec mb p) (v : Int) (hvp : v = p) (i : Nat) (hi : i < L.length) {K : Nat → Nat → Int} {c : Nat} {w : World} (h : St w0 f L mb w K c (p + 1)) :
    Calls Tryd.prog 91 #[mV f L fb fc eb ec mb, .int .i64 v, .int .i64 i] w fun e w' => e = .returned (.bool (hv f L p i)) ∧ ∃ K' c', Aft f L mb w w' K c K' c' (p + 1) := by
  subst hvp
  exact H i K c w hi h
/-- A row of bools that the call owns. -/
def OwnB (w : World) (base : Nat) (v : Value) (V : List Bool) : Prop := w.ownsRow base 4 1 v V.length (V.map Value.bool)
theorem OwnB.save {w w' : World} {base : Nat} {v : Value} {V : List Bool} {S : Nat → Prop} (h : OwnB w base v V) (hs : Save w w' S) (hS : ∀ k, v.ownBlock = some k → ¬ S k) : OwnB w' base v V := by
  refine ⟨h.1, ?_⟩
  rcases h.2 with hn | ⟨b, cap, cur, rfl, hb, hg, rest⟩
  · exact .inl hn
  · refine .inr ⟨b, cap, cur, rfl, hb, ?_, rest⟩
    rw [hs.block b (Array.getElem?_eq_some_iff.1 hg).1 (hS b rfl)]
    exact hg
theorem OwnB.form {w : World} {base : Nat} {v : Value} {V : List Bool} (h : OwnB w base v V) : ∃ a c, v = .slice a V.length c ∧ BsAt w a V ∧ RowBs w a V.length ∧ (∀ b, a = some ⟨b, 0, none⟩ → base ≤ b ∧ b < w.heap.size) ∧ ∀ q, a = some q → q = ⟨q.block, 0, none⟩ := by
  rcases h.2 with ⟨hv, h0⟩ | ⟨g, cap, cur, hv, hb, hg, h1, h2, h3, h4⟩
  · exact ⟨none, 0, by rw [hv, h0], Or.inl h0, Or.inl h0, fun b e => (by cases e), fun q e => (by cases e)⟩
  · have hlt := (Array.getElem?_eq_some_iff.1 hg).1
    refine ⟨some ⟨g, 0, none⟩, cap, hv, Or.inr ⟨g, rfl, hlt, fun i hi => ?_⟩, Or.inr ⟨g, fun j => cur.getD j undef, cap, rfl, h1, ⟨cur, hg, by omega, fun i hi => ?_⟩⟩, fun b e => (by injection e with e1; injection e1 with e2; subst e2; exact ⟨hb, hlt⟩), fun q e => (by injection e with e1; subst e1; rfl)⟩
    · have h5 := World.ownsRow.cells h (g := g) (by rw [hv]; rfl) i (.bool (V.getD i false)) (by simp [hi])
      rw [Addr.add_lit] at h5
      simpa using h5
    · have hi' : i < cur.size := by omega
      simp [hi']
structure MBox (W : World) (q : Nat) (f : List Nd) (L : List Evt) (fb fc eb ec mb : Nat) : Prop where
  lt : q < W.heap.size
  m0 : W.cell? ⟨q, 0, none⟩ = some (.slice (some ⟨fb, 0, none⟩) f.length fc)
  m1 : W.cell? ⟨q, 1, none⟩ = some (.slice (some ⟨eb, 0, none⟩) L.length ec)
  m2 : W.cell? ⟨q, 2, none⟩ = some (.map (some mb))
theorem MBox.save {W W' : World} {q : Nat} {f : List Nd} {L : List Evt} {fb fc eb ec mb : Nat} {S : Nat → Prop} (h : MBox W q f L fb fc eb ec mb) (hs : Save W W' S) (h1 : ¬ S q) : MBox W' q f L fb fc eb ec mb :=
  ⟨Nat.lt_of_lt_of_le h.lt hs.size, (hs.cell (p := ⟨q, _, none⟩) h.lt h1).trans h.m0, (hs.cell (p := ⟨q, _, none⟩) h.lt h1).trans h.m1, (hs.cell (p := ⟨q, _, none⟩) h.lt h1).trans h.m2⟩
def vTo (f : List Nd) (L : List Evt) (k : Nat) : List Bool := (List.range k).map (hv f L (f.length - 1))
theorem vTo_len (f : List Nd) (L : List Evt) (k : Nat) : (vTo f L k).length = k := by simp [vTo]
theorem vTo_succ (f : List Nd) (L : List Evt) (k : Nat) : vTo f L (k + 1) = vTo f L k ++ [hv f L (f.length - 1) k] := by simp [vTo, List.range_succ]
set_option maxRecDepth 20000 in
set_option maxHeartbeats 4000000 in
theorem implVerdicts_any (f : List Nd) (L : List Evt) (fb eb fc ec : Nat) (w : World) (h : MeanIn w f L fb eb) (hkw : Kw w) (hg : 0 < w.heap.size) :
    Calls Tryd.prog 53 #[.slice (some ⟨fb, 0, none⟩) f.length fc, .slice (some ⟨eb, 0, none⟩) L.length ec] w fun e w' => ∃ a c, e = .returned (.slice a (vdB f L).length c) ∧ BsAt w' a (vdB f L) ∧ RowBs w' a (vdB f L).length ∧ (∀ b, a = some ⟨b, 0, none⟩ → w.heap.size ≤ b ∧ b < w'.heap.size) ∧ (∀ q, a = some q → q = ⟨q.block, 0, none⟩) ∧ Below w.heap.size w w' := by
  have H := hid h
  have HK := hid hkw
  have hfl := h.fl
  have hll := h.ll
  have hm1 : f.length ≤ maxLen := by unfold maxLen; omega
  have hm2 : L.length ≤ maxLen := by unfold maxLen; omega
  have HM1 := hid hm1
  have HM2 := hid hm2
  clear h hkw hm1 hm2
  rcases (Bool.eq_false_or_eq_true (rightB f)).symm with hr | hr
  · have HV := hid (vdB_no1 f L hr)
    have HR := hid hr
    clear hr
    go_enter Tryd.func53, Tryd.ntmps53
    go_wp2_with (go_at_call 61; refine (implRight_is f false HR.out fb fc _ H.out.nodes H.out.fok HM1.out HK.out hg).mono ?_; rintro e w1 ⟨rfl, hb1⟩; have HB1 := hid hb1; have HM := hid (H.out.below hb1); have hg1 := Nat.lt_of_lt_of_le hg hb1.size; clear hb1)
    go_ret
    exact ⟨none, 0, by rw [HV.out]; rfl, Or.inl (by rw [HV.out]; rfl), Or.inl (by rw [HV.out]; rfl), fun b e => (by cases e), fun b e => (by cases e), HB1.out⟩
  have HR := hid hr
  clear hr
  rcases (Bool.eq_false_or_eq_true (trB L)).symm with ht | ht
  · have HV := hid (vdB_no2 f L ht)
    have HT := hid ht
    clear ht
    go_enter Tryd.func53, Tryd.ntmps53
    go_wp2_with (first | (go_at_call 61; refine (implRight_is f true HR.out fb fc _ H.out.nodes H.out.fok HM1.out HK.out hg).mono ?_; rintro e w1 ⟨rfl, hb1⟩; have HB1 := hid hb1; have HM := hid (H.out.below hb1); have hg1 := Nat.lt_of_lt_of_le hg hb1.size; clear hb1) | (go_at_call 42; refine (implTrace_is L false HT.out eb ec H.out.lok HM2.out _ HM.out.evs (HK.out.below HB1.out hg) hg1).mono ?_; rintro e w2 ⟨rfl, hb2⟩; have HB2 := hid (HB1.out.trans (hb2.mono HB1.out.size)); have HMM := hid (HM.out.below hb2); have hz2 := HB2.out.size; clear hb2))
    go_ret
    exact ⟨none, 0, by rw [HV.out]; rfl, Or.inl (by rw [HV.out]; rfl), Or.inl (by rw [HV.out]; rfl), fun b e => (by cases e), fun b e => (by cases e), HB2.out⟩
  have HV : Hid (vdB f L = vTo f L L.length) := vdB_yes f L HR.out ht
  obtain ⟨hf1, hf2, _⟩ := rightB_parts f HR.out
  have hl60 := (trB_parts L ht).1
  have HT := hid ht
  clear ht
  obtain ⟨i0, hi, hz0, hz1, hz2'⟩ := info_parts Tryd.infoB
  go_enter Tryd.func53, Tryd.ntmps53
  go_wp2_with (first | (go_at_call 61; refine (implRight_is f true HR.out fb fc _ H.out.nodes H.out.fok HM1.out HK.out hg).mono ?_; rintro e w1 ⟨rfl, hb1⟩; have HB1 := hid hb1; have HM := hid (H.out.below hb1); have hg1 := Nat.lt_of_lt_of_le hg hb1.size; clear hb1) | (go_at_call 42; refine (implTrace_is L true HT.out eb ec H.out.lok HM2.out _ HM.out.evs (HK.out.below HB1.out hg) hg1).mono ?_; rintro e w2 ⟨rfl, hb2⟩; have HB2 := hid (HB1.out.trans (hb2.mono HB1.out.size)); have HMM := hid (HM.out.below hb2); have hz2 := HB2.out.size; clear hb2) | (go_at_call 90; refine (newMeaning_any f L fb fc eb ec _).mono ?_; rintro e w3 ⟨mb, rfl, hmb, hKM, hb3⟩; have HC := hid (Ctx.mk HMM.out HR.out HT.out hmb : Ctx w2 f L fb eb mb); have HKM := hid hKM; have HB3 := hid hb3; have hml := hKM.lt; have hz3 := hb3.size; unfold mV; clear hKM hb3))
  have HX0 : Hid (MBox (w3.alloc (.cells #[.slice (some ⟨fb, 0, none⟩) f.length fc, .slice (some ⟨eb, 0, none⟩) L.length ec, .map (some mb)] 105)) w3.heap.size f L fb fc eb ec mb) := ⟨by simp, by simp [go_sem], by simp [go_sem], by simp [go_sem]⟩
  have HS0 : Hid (St w2 f L mb (w3.alloc (.cells #[.slice (some ⟨fb, 0, none⟩) f.length fc, .slice (some ⟨eb, 0, none⟩) L.length ec, .map (some mb)] 105)) (fun _ _ => 0) 0 (f.length - 1 + 1)) := St.made (HB3.out.alloc hz3 _) (HKM.out.below ((Below.refl _ _).alloc (Nat.le_refl _) _)) _
  have hq : mb < w3.heap.size := hml
  have hbs : w3.heap.size < (w3.alloc (.cells #[.slice (some ⟨fb, 0, none⟩) f.length fc, .slice (some ⟨eb, 0, none⟩) L.length ec, .map (some mb)] 105)).heap.size := by simp
  clear HKM
  generalize w3.alloc (.cells #[.slice (some ⟨fb, 0, none⟩) f.length fc, .slice (some ⟨eb, 0, none⟩) L.length ec, .map (some mb)] 105) = W at *
  go_loopw [6, 21] (fun v t wr => ∃ (k : Nat) (K : Nat → Nat → Int) (c : Nat), k ≤ L.length ∧ t = .int .i64 k ∧ OwnB wr W.heap.size v (vTo f L k) ∧ St w2 f L mb wr K c (f.length - 1 + 1) ∧ MBox wr w3.heap.size f L fb fc eb ec mb ∧ W.heap.size ≤ wr.heap.size) (fun _ t _ => L.length - (intOf t).toNat)
  case atStart => exact ⟨0, _, _, Nat.zero_le _, rfl, World.ownsRow_nil _ _ _ _, HS0.out, HX0.out, Nat.le_refl _⟩
  case round =>
    clear HX0 HS0
    obtain ⟨k, K, c, hk, rfl, hO, hSt, hX, hWr⟩ := hrel
    have HO := hid hO
    have HSt := hid hSt
    have HXr := hid hX
    have HVS := hid (vTo_succ f L k)
    have HVL := hid (vTo_len f L k)
    obtain ⟨xl, m0, m1, m2⟩ := hX
    obtain ⟨va, vc, hva, _⟩ := hO.form
    rw [vTo_len] at hva
    subst hva
    clear hO hSt
    by_cases hlt : k < L.length
    · have HLow : Hid (∀ q, (Value.slice va k vc).ownBlock = some q → W.heap.size ≤ q) := fun q e => (World.ownsRow.lt HO.out q e).1
      go_wp2_with (first | (go_at_call 91; refine ((holds_all HC.out (f.length - 1) (by omega)).num _ (by omega) k hlt HSt.out).mono ?_; rintro e w4 ⟨rfl, K4, c4, hA⟩; have HS4 := hid (hA.st HC.out HSt.out); have HX4 := hid (HXr.out.save hA.save (by omega)); have HO4 := hid (HO.out.save hA.save (fun q e => by have := HLow.out q e; omega)); have hz4 := hA.save.size; clear hA) | (at_builtin; refine wpList_append_own_at _ rfl _ _ 64 rfl W.heap.size 4 i0 _ 1 1 Tryd.uBs hi hz0 hz1 hz2' rfl (by decide) _ _ _ rfl (HO4.out.alloc _) ⟨w4.heap.size, 0, none⟩ 1 1 [.bool (hv f L (f.length - 1) k)] rfl rfl (cell_one _ _ _) (by simp [Value.oneCell']) (by rw [HVL.out]; unfold maxLen; omega) (by rw [HVL.out]; omega) (by simp; omega) ?_; intro v5 w5 hown5 hgrow5 _ hat5; have HSv : Hid (Save w4 w5 (fun j => (Value.slice va k vc).ownBlock = some j)) := (((Save.refl w4 (fun j => (Value.slice va k vc).ownBlock = some j)).alloc _).grown hgrow5 (fun q e _ => e)); have HO5 : Hid (OwnB w5 W.heap.size v5 (vTo f L (k + 1))) := (by show w5.ownsRow _ _ _ _ _ _; rw [HVS.out, List.length_append, List.map_append]; exact hown5); clear hown5 hgrow5 hat5))
      have hS5 : St w2 f L mb w5 K4 c4 (f.length - 1 + 1) := ⟨HS4.out.bel.trans (HSv.out.below (B := w2.heap.size) HS4.out.bel.size (fun j e => by have := HLow.out j e; omega)), HS4.out.map.save HSv.out (fun e => by have := HLow.out mb e; omega), HS4.out.cnt, HS4.out.good⟩
      have HS5 := hid hS5
      have HX5 := hid (HX4.out.save HSv.out (fun e => by have := HLow.out _ e; omega))
      have hz5 := HSv.out.size
      clear hS5
      go_roundw
      case rel => exact ⟨k + 1, K4, c4, by omega, by go_num, HO5.out, HS5.out, HX5.out, by omega⟩
      case measure => simp [intOf]; omega
    · have hk' : k = L.length := by omega
      subst hk'
      obtain ⟨a9, c9, e9, hB9, hR9, hL9, hF9⟩ := HO.out.form
      have HB9 := hid hB9
      have HR9 := hid hR9
      have HL9 := hid hL9
      have HF9 := hid hF9
      rw [vTo_len] at e9
      injection e9 with e9 _ e10
      subst e9 e10
      clear hB9 hR9 hL9 hF9
      go_wp2_with fail
      go_ret
      rw [HV.out]
      refine ⟨_, ⟨vc, ?_⟩, HB9.out, HR9.out, fun b e => ?_, HF9.out, HB2.out.trans (HSt.out.bel.mono hz2)⟩
      · show Ending.returned (Value.slice va L.length vc) = _
        rw [HVL.out]
      · have := HL9.out b e
        exact ⟨by omega, this.2⟩
end Go.Proofs.YthjnlcjjhklfpaaDoor
