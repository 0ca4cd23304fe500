/-
  The program's look, the last three kinds; all kinds together. (Written by wip/tools/gen_look.py.)
-/
import Derived.Test.YthjnlcjjhklfpaaDoorMeanM
import Derived.Test.YthjnlcjjhklfpaaDoorMeanL2
namespace Go.Proofs.YthjnlcjjhklfpaaDoor
open Go.RowKit
set_option linter.unusedVariables false
set_option linter.unusedSimpArgs false
theorem once_true (x : Nd) (L : List Evt) (i : Nat) (g : Nat → Bool) (k : Nat) : onceTo x L i (fun j => g j == true) k = onceTo x L i g k := onceTo_congr x L i _ _ (fun j => by cases g j <;> rfl) k
theorem once_false (x : Nd) (L : List Evt) (i : Nat) (g : Nat → Bool) (k : Nat) : onceTo x L i (fun j => g j == false) k = onceTo x L i (fun j => !g j) k := onceTo_congr x L i _ _ (fun j => by cases g j <;> rfl) k
set_option maxRecDepth 20000 in
set_option maxHeartbeats 4000000 in
theorem look7 {w0 : World} {f : List Nd} {L : List Evt} {fb fc eb ec mb n : Nat} (X : Ctx w0 f L fb eb mb) (hn : n < f.length) (Hall : ∀ p, p < n → HoldsC w0 f L fb fc eb ec mb p) (hk : (ndAt f n).k = 7) : LookC w0 f L fb fc eb ec mb n := by
  intro i K c w hi h
  obtain ⟨hf1, hf2, hf3⟩ := rightB_parts f X.hf
  have harm := (hf3 n hn).1
  have HA0 := hid (h.below (below_boxes w (mO f L fb fc eb ec mb) (xO (ndAt f n))))
  have HBX := hid (Boxes.new w f L fb fc eb ec mb (ndAt f n))
  have hq := h.map.lt
  have HX := hid X
  have HS0 := hid (HA0.out.st X h)
  obtain ⟨hl60, hts⟩ := trB_times X.hl
  have HTm := hid hts
  obtain ⟨p, hp, hpn⟩ := arms_a harm (by simp [armsN, hk])
  have HH := hid (Hall p hpn)
  have HV := hid (hv7 f L n i harm hk p hp)
  clear h X Hall hf3 harm hts
  unfold mO xO at HA0 HBX HS0
  generalize ndAt f n = x at *
  rw [hk, hp] at HA0 HBX HS0
  unfold mV ndV
  have HC := hid (some_any HX.out HH.out hpn x hp i hi true HS0.out)
  unfold ndV at HC
  rw [hk, hp] at HC
  rw [← once_true] at HV
  generalize onceTo x L i (fun j => hv f L p j == true) (i + 1) = r at *
  go_enter Tryd.func121, Tryd.ntmps121
  go_wp2_with (go_at_call 151; refine HC.out.mono ?_; rintro e w1 ⟨rfl, K1, c1, hA⟩; have Hw1 := hid hA; clear hA)
  go_ret
  exact ⟨ret_bool HV.out.symm, K1, c1, HA0.out.trans Hw1.out⟩
set_option maxRecDepth 20000 in
set_option maxHeartbeats 4000000 in
theorem look8 {w0 : World} {f : List Nd} {L : List Evt} {fb fc eb ec mb n : Nat} (X : Ctx w0 f L fb eb mb) (hn : n < f.length) (Hall : ∀ p, p < n → HoldsC w0 f L fb fc eb ec mb p) (hk : (ndAt f n).k = 8) : LookC w0 f L fb fc eb ec mb n := by
  intro i K c w hi h
  obtain ⟨hf1, hf2, hf3⟩ := rightB_parts f X.hf
  have harm := (hf3 n hn).1
  have HA0 := hid (h.below (below_boxes w (mO f L fb fc eb ec mb) (xO (ndAt f n))))
  have HBX := hid (Boxes.new w f L fb fc eb ec mb (ndAt f n))
  have hq := h.map.lt
  have HX := hid X
  have HS0 := hid (HA0.out.st X h)
  obtain ⟨hl60, hts⟩ := trB_times X.hl
  have HTm := hid hts
  obtain ⟨p, hp, hpn⟩ := arms_a harm (by simp [armsN, hk])
  have HH := hid (Hall p hpn)
  have HV := hid (hv8 f L n i harm hk p hp)
  clear h X Hall hf3 harm hts
  unfold mO xO at HA0 HBX HS0
  generalize ndAt f n = x at *
  rw [hk, hp] at HA0 HBX HS0
  unfold mV ndV
  have HC := hid (some_any HX.out HH.out hpn x hp i hi false HS0.out)
  unfold ndV at HC
  rw [hk, hp] at HC
  rw [← once_false] at HV
  generalize onceTo x L i (fun j => hv f L p j == false) (i + 1) = r at *
  go_enter Tryd.func121, Tryd.ntmps121
  go_wp2_with (go_at_call 151; refine HC.out.mono ?_; rintro e w1 ⟨rfl, K1, c1, hA⟩; have Hw1 := hid hA; clear hA)
  go_ret
  exact ⟨ret_bool HV.out.symm, K1, c1, HA0.out.trans Hw1.out⟩
set_option maxRecDepth 20000 in
set_option maxHeartbeats 4000000 in
theorem look9 {w0 : World} {f : List Nd} {L : List Evt} {fb fc eb ec mb n : Nat} (X : Ctx w0 f L fb eb mb) (hn : n < f.length) (Hall : ∀ p, p < n → HoldsC w0 f L fb fc eb ec mb p) (hk : (ndAt f n).k = 9) : LookC w0 f L fb fc eb ec mb n := by
  intro i K c w hi h
  obtain ⟨hf1, hf2, hf3⟩ := rightB_parts f X.hf
  have harm := (hf3 n hn).1
  have HA0 := hid (h.below (below_boxes w (mO f L fb fc eb ec mb) (xO (ndAt f n))))
  have HBX := hid (Boxes.new w f L fb fc eb ec mb (ndAt f n))
  have hq := h.map.lt
  have HX := hid X
  have HS0 := hid (HA0.out.st X h)
  obtain ⟨hl60, hts⟩ := trB_times X.hl
  have HTm := hid hts
  obtain ⟨p, hp, hpn⟩ := arms_a harm (by simp [armsN, hk])
  have HH := hid (Hall p hpn)
  obtain ⟨q, hqx, hqn⟩ := arms_b harm (by simp [armsN, hk])
  have HH' := hid (Hall q hqn)
  have HV := hid (hv9 f L n i harm hk p hp q hqx)
  clear h X Hall hf3 harm hts
  unfold mO xO at HA0 HBX HS0
  generalize ndAt f n = x at *
  rw [hk, hp, hqx] at HA0 HBX HS0
  unfold mV ndV
  have HC := hid (since_any HX.out HH.out hpn HH'.out hqn x hp hqx i hi HS0.out)
  unfold ndV at HC
  rw [hk, hp, hqx] at HC
  generalize sinceTo x L i (hv f L p) (hv f L q) (i + 1) = r at *
  go_enter Tryd.func121, Tryd.ntmps121
  go_wp2_with (go_at_call 152; refine HC.out.mono ?_; rintro e w1 ⟨rfl, K1, c1, hA⟩; have Hw1 := hid hA; clear hA)
  go_ret
  exact ⟨ret_bool HV.out.symm, K1, c1, HA0.out.trans Hw1.out⟩
theorem look_any {w0 : World} {f : List Nd} {L : List Evt} {fb fc eb ec mb n : Nat} (X : Ctx w0 f L fb eb mb) (hn : n < f.length) (Hall : ∀ p, p < n → HoldsC w0 f L fb fc eb ec mb p) : LookC w0 f L fb fc eb ec mb n := by
  obtain ⟨_, hk1, hk2⟩ := (rightB_parts f X.hf).2.2 n hn
  have : (ndAt f n).k = 1 ∨ (ndAt f n).k = 2 ∨ (ndAt f n).k = 3 ∨ (ndAt f n).k = 4 ∨ (ndAt f n).k = 5 ∨ (ndAt f n).k = 6 ∨ (ndAt f n).k = 7 ∨ (ndAt f n).k = 8 ∨ (ndAt f n).k = 9 := by omega
  rcases this with e | e | e | e | e | e | e | e | e
  · exact look1 X hn Hall e
  · exact look2 X hn Hall e
  · exact look3 X hn Hall e
  · exact look4 X hn Hall e
  · exact look5 X hn Hall e
  · exact look6 X hn Hall e
  · exact look7 X hn Hall e
  · exact look8 X hn Hall e
  · exact look9 X hn Hall e
end Go.Proofs.YthjnlcjjhklfpaaDoor
