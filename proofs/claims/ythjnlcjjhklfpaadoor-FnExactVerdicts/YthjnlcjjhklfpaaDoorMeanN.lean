/-
  The program's holds by its contract: what is known is looked up, what is not is looked at once.
-/
import Derived.Test.YthjnlcjjhklfpaaDoorMeanM2
namespace Go.Proofs.YthjnlcjjhklfpaaDoor
open Go.RowKit
set_option linter.unusedVariables false
set_option linter.unusedSimpArgs false
structure BoxA (W : World) (q : Nat) (f : List Nd) (L : List Evt) (fb fc eb ec mb n i : Nat) : Prop where
  lt : q + 1 < W.heap.size
  lt0 : q < W.heap.size
  m0 : W.cell? ⟨q, 0, none⟩ = some (.slice (some ⟨fb, 0, none⟩) f.length fc)
  m1 : W.cell? ⟨q, 1, none⟩ = some (.slice (some ⟨eb, 0, none⟩) L.length ec)
  m2 : W.cell? ⟨q, 2, none⟩ = some (.map (some mb))
  a0 : W.cell? ⟨q + 1, 0, none⟩ = some (.int .i64 n)
  a1 : W.cell? ⟨q + 1, 1, none⟩ = some (.int .i64 i)
def aO (n i : Nat) : Obj := .cells #[.int .i64 n, .int .i64 i] 167
theorem BoxA.new (w : World) (f : List Nd) (L : List Evt) (fb fc eb ec mb n i : Nat) : BoxA ((w.alloc (mO f L fb fc eb ec mb)).alloc (aO n i)) w.heap.size f L fb fc eb ec mb n i := by
  unfold mO aO
  have e : w.heap.size + 1 = (w.alloc (.cells #[.slice (some ⟨fb, 0, none⟩) f.length fc, .slice (some ⟨eb, 0, none⟩) L.length ec, .map (some mb)] 105)).heap.size := by simp
  refine ⟨by simp, by simp; omega, by simp [go_sem], by simp [go_sem], by simp [go_sem], ?_, ?_⟩
  all_goals
    rw [e]
    simp [go_sem]
theorem BoxA.save {W W' : World} {q : Nat} {f : List Nd} {L : List Evt} {fb fc eb ec mb n i : Nat} {S : Nat → Prop} (h : BoxA W q f L fb fc eb ec mb n i) (hs : Save W W' S) (h1 : ¬ S q) (h2 : ¬ S (q + 1)) : BoxA W' q f L fb fc eb ec mb n i :=
  ⟨Nat.lt_of_lt_of_le h.lt hs.size, Nat.lt_of_lt_of_le h.lt0 hs.size, (hs.cell (p := ⟨q, _, none⟩) h.lt0 h1).trans h.m0, (hs.cell (p := ⟨q, _, none⟩) h.lt0 h1).trans h.m1, (hs.cell (p := ⟨q, _, none⟩) h.lt0 h1).trans h.m2,
   (hs.cell (p := ⟨q + 1, _, none⟩) h.lt h2).trans h.a0, (hs.cell (p := ⟨q + 1, _, none⟩) h.lt h2).trans h.a1⟩
/-- Behind the first store. -/
theorem St.first {w0 : World} {f : List Nd} {L : List Evt} {fb eb mb : Nat} {w W W1 : World} {K : Nat → Nat → Int} {c n i : Nat} (X : Ctx w0 f L fb eb mb) (h : St w0 f L mb w K c (n + 1)) (hb : Below w.heap.size w W) (hm : KM W1 mb (c + 1) (putK K n i 1)) (hs : Save W W1 (fun b => b = mb)) (hn : n < 24) (hi : i < 60) (h0 : K n i = 0) : St w0 f L mb W1.drew (putK K n i 1) (c + 1) n := by
  refine ⟨?_, hm, ?_, fun m j hmn hj => ?_⟩
  · have h1 := (h.bel.trans (hb.mono h.bel.size)).trans (hs.below (B := w0.heap.size) (Nat.le_trans h.bel.size hb.size) (fun j e => by have := X.hmb; omega))
    exact ⟨h1.os, h1.tape, h1.output, h1.size, h1.block⟩
  · rw [cntK_new K n i 1 hn hi h0 (by omega)]
    have := h.cnt
    omega
  · unfold putK
    rw [if_neg (by omega)]
    exact h.good m j (by omega) hj
/-- Behind it all, where it is not so. -/
theorem Aft.not {f : List Nd} {L : List Evt} {mb : Nat} {w W W1 w2 : World} {K K2 : Nat → Nat → Int} {c c2 n i : Nat} (g : GoodTo f L K (n + 1)) (hb : Below w.heap.size w W) (hmb : mb < w.heap.size) (hs : Save W W1 (fun b => b = mb)) (a : Aft f L mb W1.drew w2 (putK K n i 1) (c + 1) K2 c2 n) (hn : n < 24) (hi : i < 60) (h0 : K n i = 0) (hv0 : hv f L n i = false) : Aft f L mb w w2 K c K2 c2 (n + 1) := by
  have hsv : Save w w2 (fun b => b = mb) := by
    have h1 : Save w W (fun b => b = mb) := Save.of_below hb _ (fun j h1 h2 => by omega)
    have h2 : Save W1 w2 (fun b => b = mb) := ⟨a.save.os, a.save.tape, a.save.output, a.save.size, a.save.block⟩
    exact (h1.trans hs).trans h2
  refine ⟨a.map, fun m j hm hj => ?_, fun m j hm => ?_, ?_, hsv⟩
  · by_cases e : m < n
    · exact a.good m j e hj
    · have em : m = n := by omega
      subst em
      rw [a.keep m j (Nat.le_refl _)]
      unfold putK
      by_cases ej : j = i
      · subst ej; rw [if_pos ⟨rfl, rfl⟩, hv0]; exact Or.inr rfl
      · rw [if_neg (fun h => ej h.2)]; exact g m j (by omega) hj
  · rw [a.keep m j (by omega)]
    unfold putK
    rw [if_neg (by omega)]
  · have h1 := a.grow
    rw [cntK_new K n i 1 hn hi h0 (by omega)] at h1
    omega
/-- Where it is so. -/
theorem Aft.yes {f : List Nd} {L : List Evt} {mb : Nat} {w W W1 w2 w3 : World} {K K2 : Nat → Nat → Int} {c c2 n i : Nat} (g : GoodTo f L K (n + 1)) (hb : Below w.heap.size w W) (hmb : mb < w.heap.size) (hs : Save W W1 (fun b => b = mb)) (a : Aft f L mb W1.drew w2 (putK K n i 1) (c + 1) K2 c2 n) (hn : n < 24) (hi : i < 60) (h0 : K n i = 0) (hv0 : hv f L n i = true) (hm : KM w3 mb (c2 + 1) (putK K2 n i 2)) (hs3 : Save w2 w3 (fun b => b = mb)) : Aft f L mb w w3 K c (putK K2 n i 2) (c2 + 1) (n + 1) := by
  have hsv : Save w w2 (fun b => b = mb) := by
    have h1 : Save w W (fun b => b = mb) := Save.of_below hb _ (fun j h1 h2 => by omega)
    have h2 : Save W1 w2 (fun b => b = mb) := ⟨a.save.os, a.save.tape, a.save.output, a.save.size, a.save.block⟩
    exact (h1.trans hs).trans h2
  have hk2 : K2 n i = 1 := by
    rw [a.keep n i (Nat.le_refl _)]
    unfold putK
    rw [if_pos ⟨rfl, rfl⟩]
  refine ⟨hm, fun m j hm hj => ?_, fun m j hm => ?_, ?_, hsv.trans hs3⟩
  · unfold putK
    by_cases e2 : m = n ∧ j = i
    · obtain ⟨rfl, rfl⟩ := e2
      rw [if_pos ⟨rfl, rfl⟩, hv0]; exact Or.inr rfl
    · rw [if_neg e2]
      by_cases e : m < n
      · exact a.good m j e hj
      · have em : m = n := by omega
        subst em
        rw [a.keep m j (Nat.le_refl _)]
        unfold putK
        rw [if_neg (fun h => e2 h)]
        exact g m j (by omega) hj
  · unfold putK
    rw [if_neg (by omega), a.keep m j (by omega)]
    unfold putK
    rw [if_neg (by omega)]
  · have h1 := a.grow
    rw [cntK_new K n i 1 hn hi h0 (by omega)] at h1
    rw [cntK_old K2 n i 2 hi (by rw [hk2]; omega) (by omega)]
    omega
set_option maxRecDepth 20000 in
set_option maxHeartbeats 4000000 in
theorem holds_step {w0 : World} {f : List Nd} {L : List Evt} {fb fc eb ec mb n : Nat} (X : Ctx w0 f L fb eb mb) (hn : n < f.length) (HL : LookC w0 f L fb fc eb ec mb n) : HoldsC w0 f L fb fc eb ec mb n := by
  intro i K c w hi h
  obtain ⟨hf1, hf2, _⟩ := rightB_parts f X.hf
  obtain ⟨hl60, _⟩ := trB_times X.hl
  have hn24 : n < 24 := by omega
  have hi60 : i < 60 := by omega
  have hq := h.map.lt
  have HBW := hid (below_boxes w (mO f L fb fc eb ec mb) (aO n i))
  have HBX := hid (BoxA.new w f L fb fc eb ec mb n i)
  have HM := hid (h.map.below HBW.out)
  have hlook := HM.out.look hn24 hi60
  have HS := hid h
  have HX := hid X
  have HLk := hid HL
  have HG := hid h.good
  have hc : c < 10000 := by have := h.cnt; have := cntK_le K; omega
  clear h X HL
  unfold mO aO at HBW HBX HM hlook
  unfold mV
  by_cases h0 : K n i = 0
  · rw [h0] at hlook
    obtain ⟨W1, hupd, hM1, hs1⟩ := HM.out.put hn24 hi60 hc 1 (by omega)
    have HM1 := hid hM1
    have HS1 := hid hs1
    have hz1 := hs1.size
    have HX1 := hid (HBX.out.save hs1 (by omega) (by omega))
    have HSt := hid (HS.out.first HX.out HBW.out hM1 hs1 hn24 hi60 h0)
    have HK0 := hid h0
    clear hM1 hs1 h0
    obtain ⟨ulq, ulq0, m0, m1, m2, a0, a1⟩ := HX1.out
    obtain ⟨c0, c1, c2, c3, c4, c5⟩ := (HSt.out.min HX.out).nodes.2 n hn
    rcases (Bool.eq_false_or_eq_true (hv f L n i)).symm with hh | hh
    · have HV := hid hh
      clear hh
      go_enter Tryd.func91, Tryd.ntmps91
      go_wp2_with fail
      go_region_with (go_at_call 121; refine (HLk.out i _ _ _ hi HSt.out).mono ?_; rintro e w2 ⟨he, K2, cc2, hA⟩; rw [HV.out] at he; subst he; have HA := hid (Aft.not HG.out HBW.out hq HS1.out hA hn24 hi60 HK0.out HV.out); have hk2 : K2 n i = 1 := (by rw [hA.keep n i (Nat.le_refl _)]; unfold putK; rw [if_pos ⟨rfl, rfl⟩]); have hl2 := hA.map.look hn24 hi60; rw [hk2] at hl2; obtain ⟨vlq, vlq0, r0, r1, r2, t0, t1⟩ := HX1.out.save (W' := w2) (S := fun b => b = mb) ⟨hA.save.os, hA.save.tape, hA.save.output, hA.save.size, hA.save.block⟩ (by omega) (by omega); clear hA hk2)
      all_goals
        go_wp2_with fail
        go_ret
        exact ⟨ret_bool (by rw [HV.out]), K2, cc2, HA.out⟩
    · have HV := hid hh
      clear hh
      go_enter Tryd.func91, Tryd.ntmps91
      go_wp2_with fail
      go_region_with (go_at_call 121; refine (HLk.out i _ _ _ hi HSt.out).mono ?_; rintro e w2 ⟨he, K2, cc2, hA⟩; rw [HV.out] at he; subst he; have hcc : cc2 < 10000 := (by have q1 := hA.grow; have q2 := cntK_le K2; have q3 := HSt.out.cnt; omega); obtain ⟨w3, hu3, hM3, hs3⟩ := hA.map.put hn24 hi60 hcc 2 (by omega); have HA := hid (Aft.yes HG.out HBW.out hq HS1.out hA hn24 hi60 HK0.out HV.out hM3 hs3); have hl3 := hM3.look hn24 hi60; rw [(by unfold putK; rw [if_pos ⟨rfl, rfl⟩] : putK K2 n i 2 n i = 2)] at hl3; have hX2 := HX1.out.save (W' := w2) (S := fun b => b = mb) ⟨hA.save.os, hA.save.tape, hA.save.output, hA.save.size, hA.save.block⟩ (by omega) (by omega); have hX3 := hX2.save hs3 (by omega) (by omega); obtain ⟨vlq, vlq0, r0, r1, r2, t0, t1⟩ := hX2; obtain ⟨xlq, xlq0, p0, p1, p2, o0, o1⟩ := hX3; clear hA hM3 hs3 hcc)
      all_goals
        go_wp2_with fail
        go_ret
        exact ⟨ret_bool (by rw [HV.out]), _, _, HA.out⟩
  · have HAft := hid (HS.out.below HBW.out)
    have hgd := (HG.out n i (by omega) hi60).resolve_left h0
    rw [hgd] at hlook
    clear h0 hgd
    rcases (Bool.eq_false_or_eq_true (hv f L n i)).symm with hh | hh
    · have HV := hid hh
      rw [hh] at hlook
      simp only [Bool.false_eq_true, if_false] at hlook
      clear hh
      go_enter Tryd.func91, Tryd.ntmps91
      go_wp2_with fail
      go_ret
      exact ⟨ret_bool (by rw [HV.out]), K, c, HAft.out⟩
    · have HV := hid hh
      rw [hh] at hlook
      simp only [if_true] at hlook
      clear hh
      go_enter Tryd.func91, Tryd.ntmps91
      go_wp2_with fail
      go_ret
      exact ⟨ret_bool (by rw [HV.out]), K, c, HAft.out⟩
theorem holds_all {w0 : World} {f : List Nd} {L : List Evt} {fb fc eb ec mb : Nat} (X : Ctx w0 f L fb eb mb) : ∀ n, n < f.length → HoldsC w0 f L fb fc eb ec mb n := by
  intro n
  induction n using Nat.strongRecOn with
  | _ n ih =>
    intro hn
    exact holds_step X hn (look_any X hn (fun p hp => ih p hp (by omega)))
end Go.Proofs.YthjnlcjjhklfpaaDoor
