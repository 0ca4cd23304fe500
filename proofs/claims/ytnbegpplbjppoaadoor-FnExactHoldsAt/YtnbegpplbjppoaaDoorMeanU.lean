/-
  The model's HoldsAt, Holds, Verdicts by their contracts.
-/
import Derived.Test.YtnbegpplbjppoaaDoorMeanT
namespace Go.Proofs.YtnbegpplbjppoaaDoor
open Go.RowKit
set_option linter.unusedVariables false
set_option linter.unusedSimpArgs false
def inLen (n : Int) (k : Nat) : Bool := isB n 0 ((k : Int) - 1)
def haB (f : List Nd) (L : List Evt) (node i : Int) : Bool := rightB f && (trB L && (inLen node f.length && (inLen i L.length && hv f L node.toNat i.toNat)))
theorem inLen_nat {n : Int} {k : Nat} (h : inLen n k = true) : ∃ p : Nat, n = p ∧ p < k := by
  simp only [inLen, isB, Bool.and_eq_true, decide_eq_true_eq] at h
  exact ⟨n.toNat, by omega, by omega⟩
theorem specRight_is (f : List Nd) (v : Bool) (hv : rightB f = v) (b cap : Nat) (w : World) (hN : NodesAt w b f) (hs : ∀ i, i < f.length → (ndAt f i).nm.size ≤ maxLen) (hlen : f.length ≤ maxLen) :
    Calls Tryd.prog 21 #[.slice (some ⟨b, 0, none⟩) f.length cap] w fun e w' => e = .returned (.bool v) ∧ Below w.heap.size w w' := by
  subst hv
  exact specRight_any f b cap w hN hs hlen
theorem specTrace_is (E : List Evt) (v : Bool) (hv : trB E = v) (b c : Nat) (hs : ∀ i, i < E.length → EvOk (evAt E i)) (hl : E.length ≤ maxLen) (w : World) (hA : EvsAt w b E) :
    Calls Tryd.prog 22 #[.slice (some ⟨b, 0, none⟩) E.length c] w fun e w' => e = .returned (.bool v) ∧ Below w.heap.size w w' := by
  subst hv
  exact specTrace_any E _ rfl _ c hs hl w hA.es
theorem is_is (n lo hi : Int) (v : Bool) (hv : isB n lo hi = v) (w : World) :
    Calls Tryd.prog 23 #[.int .i64 n, .int .i64 lo, .int .i64 hi] w fun e w' => e = .returned (.bool v) ∧ w = w' := by
  subst hv
  exact (is_any n lo hi w).mono fun e w' h => ⟨h.1, h.2.symm⟩
/-- What is asked of the two rows. -/
structure MeanIn (w : World) (f : List Nd) (L : List Evt) (fb eb : Nat) : Prop where
  nodes : NodesAt w fb f
  evs : EvsAt w eb L
  fok : ∀ i, i < f.length → ndOk (ndAt f i)
  lok : ∀ i, i < L.length → EvOk (evAt L i)
  fl : f.length ≤ 1048576
  ll : L.length ≤ 1048576
theorem MeanIn.below {w w' : World} {f : List Nd} {L : List Evt} {fb eb : Nat} (h : MeanIn w f L fb eb) (hb : Below w.heap.size w w') : MeanIn w' f L fb eb := ⟨h.nodes.below hb h.nodes.1, h.evs.below hb, h.fok, h.lok, h.fl, h.ll⟩
theorem ndOk_nm {x : Nd} (h : ndOk x) : x.nm.size ≤ maxLen := h.2.2.2.2.2
set_option maxRecDepth 20000 in
set_option maxHeartbeats 2000000 in
theorem specHoldsAt_any (f : List Nd) (L : List Evt) (node i : Int) (fb eb fc ec : Nat) (w : World) (h : MeanIn w f L fb eb) :
    Calls Tryd.prog 13 #[.slice (some ⟨fb, 0, none⟩) f.length fc, .int .i64 node, .slice (some ⟨eb, 0, none⟩) L.length ec, .int .i64 i] w fun e w' => e = .returned (.bool (haB f L node i)) ∧ Below w.heap.size w w' := by
  have H := hid h
  have hfl := h.fl
  have hll := h.ll
  have hm1 : f.length ≤ maxLen := by unfold maxLen; omega
  have hm2 : L.length ≤ maxLen := by unfold maxLen; omega
  have HM1 := hid hm1
  have HM2 := hid hm2
  clear h hm1 hm2
  rcases (Bool.eq_false_or_eq_true (rightB f)).symm with hr | hr
  · have HV : Hid (haB f L node i = false) := by show haB f L node i = _; simp [haB, hr]
    have HR := hid hr
    clear hr
    go_enter Tryd.func13, Tryd.ntmps13
    go_wp2_with (go_at_call 21; refine (specRight_is f false HR.out fb fc _ H.out.nodes (fun i hi => ndOk_nm (H.out.fok i hi)) HM1.out).mono ?_; rintro e w1 ⟨rfl, hb1⟩; have HB1 := hid hb1; clear hb1)
    go_ret
    exact ⟨ret_bool HV.out.symm, HB1.out⟩
  have HR := hid hr
  clear hr
  rcases (Bool.eq_false_or_eq_true (trB L)).symm with ht | ht
  · have HV : Hid (haB f L node i = false) := by show haB f L node i = _; simp [haB, ht]
    have HT := hid ht
    clear ht
    go_enter Tryd.func13, Tryd.ntmps13
    go_wp2_with (first | (go_at_call 21; refine (specRight_is f true HR.out fb fc _ H.out.nodes (fun i hi => ndOk_nm (H.out.fok i hi)) HM1.out).mono ?_; rintro e w1 ⟨rfl, hb1⟩; have HB1 := hid hb1; have HM := hid (H.out.below hb1); clear hb1) | (go_at_call 22; refine (specTrace_is L false HT.out eb ec H.out.lok HM2.out _ HM.out.evs).mono ?_; rintro e w2 ⟨rfl, hb2⟩; have HB2 := hid (HB1.out.trans (hb2.mono HB1.out.size)); clear hb2))
    go_ret
    exact ⟨ret_bool HV.out.symm, HB2.out⟩
  have HT := hid ht
  clear ht
  rcases (Bool.eq_false_or_eq_true (inLen node f.length)).symm with hn | hn
  · have HV : Hid (haB f L node i = false) := by show haB f L node i = _; simp [haB, hn]
    have HN := hid hn
    clear hn
    go_enter Tryd.func13, Tryd.ntmps13
    go_wp2_with (first | (go_at_call 21; refine (specRight_is f true HR.out fb fc _ H.out.nodes (fun i hi => ndOk_nm (H.out.fok i hi)) HM1.out).mono ?_; rintro e w1 ⟨rfl, hb1⟩; have HB1 := hid hb1; have HM := hid (H.out.below hb1); clear hb1) | (go_at_call 22; refine (specTrace_is L true HT.out eb ec H.out.lok HM2.out _ HM.out.evs).mono ?_; rintro e w2 ⟨rfl, hb2⟩; have HB2 := hid (HB1.out.trans (hb2.mono HB1.out.size)); clear hb2) | (go_at_call 23; refine (is_is _ _ _ false HN.out _).mono ?_; rintro e w3 ⟨rfl, rfl⟩))
    go_ret
    exact ⟨ret_bool HV.out.symm, HB2.out⟩
  obtain ⟨p, rfl, hp⟩ := inLen_nat hn
  have HN := hid hn
  clear hn
  rcases (Bool.eq_false_or_eq_true (inLen i L.length)).symm with hi | hi
  · have HV : Hid (haB f L p i = false) := by show haB f L p i = _; simp [haB, hi]
    have HI := hid hi
    clear hi
    go_enter Tryd.func13, Tryd.ntmps13
    go_wp2_with (first | (go_at_call 21; refine (specRight_is f true HR.out fb fc _ H.out.nodes (fun i hi => ndOk_nm (H.out.fok i hi)) HM1.out).mono ?_; rintro e w1 ⟨rfl, hb1⟩; have HB1 := hid hb1; have HM := hid (H.out.below hb1); clear hb1) | (go_at_call 22; refine (specTrace_is L true HT.out eb ec H.out.lok HM2.out _ HM.out.evs).mono ?_; rintro e w2 ⟨rfl, hb2⟩; have HB2 := hid (HB1.out.trans (hb2.mono HB1.out.size)); clear hb2) | (go_at_call_of 23 (p : Int); refine (is_is _ _ _ true HN.out _).mono ?_; rintro e w3 ⟨rfl, rfl⟩) | (go_at_call 23; refine (is_is _ _ _ false HI.out _).mono ?_; rintro e w3 ⟨rfl, rfl⟩))
    go_ret
    exact ⟨ret_bool HV.out.symm, HB2.out⟩
  obtain ⟨q, rfl, hq⟩ := inLen_nat hi
  have HV : Hid (haB f L p q = hv f L p q) := by show haB f L p q = _; simp [haB, HR.out, HT.out, HN.out, hi]
  have HI := hid hi
  clear hi
  go_enter Tryd.func13, Tryd.ntmps13
  go_wp2_with (first | (go_at_call 21; refine (specRight_is f true HR.out fb fc _ H.out.nodes (fun i hi => ndOk_nm (H.out.fok i hi)) HM1.out).mono ?_; rintro e w1 ⟨rfl, hb1⟩; have HB1 := hid hb1; have HM := hid (H.out.below hb1); clear hb1) | (go_at_call 22; refine (specTrace_is L true HT.out eb ec H.out.lok HM2.out _ HM.out.evs).mono ?_; rintro e w2 ⟨rfl, hb2⟩; have HB2 := hid (HB1.out.trans (hb2.mono HB1.out.size)); have HM2' := hid (HM.out.below hb2); clear hb2) | (go_at_call 23; refine (is_is _ _ _ true (by first | exact HN.out | exact HI.out) _).mono ?_; rintro e w3 ⟨rfl, rfl⟩) | (go_at_call 24; refine (specTable_any f L fb eb fc ec _ ⟨HM2'.out.nodes, HM2'.out.evs, HR.out, HT.out⟩).mono ?_; rintro e w4 ⟨v4, R4, rfl, hT4, hb4⟩; have HB4 := hid (HB2.out.trans (hb4.mono HB2.out.size)); obtain ⟨ta, tc, rfl, hta, _⟩ := hT4.form; obtain ⟨tb, rb, rc, rfl, htb, hrb, t0, t1⟩ := hta.get hp; have t2 := t1 q hq; clear t1 hta hT4 hb4))
  go_ret
  exact ⟨ret_bool HV.out.symm, HB4.out⟩
set_option maxRecDepth 20000 in
set_option maxHeartbeats 2000000 in
theorem specHolds_any (f : List Nd) (L : List Evt) (i : Int) (fb eb fc ec : Nat) (w : World) (h : MeanIn w f L fb eb) :
    Calls Tryd.prog 7 #[.slice (some ⟨fb, 0, none⟩) f.length fc, .slice (some ⟨eb, 0, none⟩) L.length ec, .int .i64 i] w fun e w' => e = .returned (.bool (haB f L ((f.length : Int) - 1) i)) ∧ Below w.heap.size w w' := by
  have H := hid h
  have hfl := h.fl
  clear h
  go_enter Tryd.func7, Tryd.ntmps7
  go_wp2_with (go_at_call 13; refine (specHoldsAt_any f L ((f.length : Int) - 1) i fb eb fc ec _ H.out).mono ?_; rintro e w1 ⟨rfl, hb1⟩; have HB1 := hid hb1; clear hb1)
  go_ret
  exact ⟨rfl, HB1.out⟩
/-- A slice of bools, of which nothing is asked where it is empty. -/
def BsAt (w : World) (a : Option Addr) (V : List Bool) : Prop := V.length = 0 ∨ ∃ b, a = some ⟨b, 0, none⟩ ∧ b < w.heap.size ∧ ∀ i, i < V.length → w.cell? ⟨b, i, none⟩ = some (.bool (V.getD i false))
theorem BsAt.below {w w' : World} {a : Option Addr} {V : List Bool} (h : BsAt w a V) (hb : Below w.heap.size w w') : BsAt w' a V :=
  h.imp id (fun ⟨b, e, h1, h2⟩ => ⟨b, e, Nat.lt_of_lt_of_le h1 hb.size, fun i hi => (hb.cell (p := ⟨b, i, none⟩) h1).trans (h2 i hi)⟩)
theorem BsAt.save {w w' : World} {a : Option Addr} {V : List Bool} {S : Nat → Prop} (h : BsAt w a V) (hs : Save w w' S) (hS : ∀ b, a = some ⟨b, 0, none⟩ → ¬ S b) : BsAt w' a V :=
  h.imp id (fun ⟨b, e, h1, h2⟩ => ⟨b, e, Nat.lt_of_lt_of_le h1 hs.size, fun i hi => (hs.cell (p := ⟨b, i, none⟩) h1 (hS b e)).trans (h2 i hi)⟩)
def vdB (f : List Nd) (L : List Evt) : List Bool := if rightB f = true ∧ trB L = true then (List.range L.length).map (hv f L (f.length - 1)) else []
theorem vdB_no1 (f : List Nd) (L : List Evt) (h : rightB f = false) : vdB f L = [] := by simp [vdB, h]
theorem vdB_no2 (f : List Nd) (L : List Evt) (h : trB L = false) : vdB f L = [] := by simp [vdB, h]
theorem vdB_yes (f : List Nd) (L : List Evt) (h : rightB f = true) (h' : trB L = true) : vdB f L = (List.range L.length).map (hv f L (f.length - 1)) := by simp [vdB, h, h']
theorem vdB_len (f : List Nd) (L : List Evt) : (vdB f L).length ≤ 60 := by
  unfold vdB
  split
  · next h => have := (trB_parts L h.2).1; simpa using this
  · simp
end Go.Proofs.YtnbegpplbjppoaaDoor
