/-
  One node: the program's nodeRight, kind by kind.
-/
import Derived.Test.YtagklhfejbdkdaaDoorNrBase
namespace Go.Proofs.YtagklhfejbdkdaaDoor
open Go.RowKit
set_option linter.unusedVariables false
set_option linter.unusedSimpArgs false
set_option maxRecDepth 20000 in
set_option maxHeartbeats 2000000 in
theorem nrY1 (i : Nat) (hi' : i < 1000) (w : World) :
    Calls Tryd.prog 68 #[.agg #[.int .i64 1, .int .i64 0, .int .i64 0, .int .i64 0, .int .i64 0, .string ⟨#[]⟩], .int .i64 i] w fun e w' => e = .returned (.bool true) ∧ Below w.heap.size w w' := by
  have hnil := fnil1
  have hme := meth1 0 0 0 0 ⟨#[]⟩
  have hpm := pmeth1 0 0 0 0 ⟨#[]⟩
  have hne : ∀ w, Sem.run Tryd.prog (binOp .neq 46 (.agg #[.int .i64 1, .int .i64 0, .int .i64 0, .int .i64 0, .int .i64 0, .string ⟨#[]⟩]) (.agg #[.int .i64 1, .int .i64 0, .int .i64 0, .int .i64 0, .int .i64 0, .string ⟨#[]⟩])) w = .ok (.bool false) w := fun w => by
    have := neq_node ((1, 0, 0, 0, 0, (⟨#[]⟩ : ByteArray)) : Nd) ((1, 0, 0, 0, 0, (⟨#[]⟩ : ByteArray)) : Nd) w
    rw [decide_eq_true rfl] at this
    exact this
  have HBX := hide (box_node w ((1, 0, 0, 0, 0, (⟨#[]⟩ : ByteArray)) : Nd) 46)
  go_enter Tryd.func68, Tryd.ntmps68
  go_wp2_with (go_at_call 72; refine (form1 _ _ _ _ _ _).mono ?_; rintro e w1 ⟨rfl, hb1⟩; have hsz : w.heap.size < w1.heap.size := (by have := hb1.size; simp at this; omega); have HN1 := hide (HBX.out.below hb1 (by simp)); obtain ⟨c0, c1, c2, c3, c4, c5⟩ := HN1.out.zero; have HB1 : Hid (Below w.heap.size w w1) := ((Below.refl _ _).alloc (Nat.le_refl _) _).trans (hb1.mono (by simp)); clear hb1)
  go_region_with (go_at_call 99; refine (nodeM1 0 0 0 0 ⟨#[]⟩ _).mono ?_; rintro e w2 ⟨rfl, hb2⟩; have HB2 : Hid (Below w1.heap.size w1 w2) := ⟨hb2.os, hb2.tape, hb2.output, hb2.size, hb2.block⟩; have HN2 := hide (HN1.out.below HB2.out hsz); obtain ⟨d0, d1, d2, d3, d4, d5⟩ := HN2.out.zero; clear hb2)
  all_goals
    clear c0 c1 c2 c3 c4 c5 d0 d1 d2 d3 d4 d5 hnil hne hme
    have hz2 := HB2.out.size
    go_wp2_with (go_at_call 98; refine (parts0 _).mono ?_; rintro e w3 ⟨rfl, hb3⟩; have HB3 := hide hb3; have hz3 := hb3.size; have HN3 := hide (HN2.out.below hb3 (by omega)); obtain ⟨c0, c1, c2, c3, c4, c5⟩ := HN3.out.zero; clear hb3)
    go_loop [23] (fun t => t = .int .i64 0) (fun _ => 0)
    case atStart => rfl
    case round =>
      subst hrel
      go_wp2_with (first | (go_at_call 75; refine (span1 0 0 0 0 ⟨#[]⟩ _).mono ?_; rintro e w4 ⟨rfl, hb4⟩; have HB4 := hide hb4; have hz4 := hb4.size; have HN4 := hide (HN3.out.below hb4 (by omega)); obtain ⟨f0, f1, f2, f3, f4, f5⟩ := HN4.out.zero; have hz5 : w.heap.size < w4.heap.size := (by omega); have hz6 : w.heap.size ≠ w4.heap.size := (by omega); clear hb4))
      go_ret
      exact ⟨rfl, ((((HB1.out.trans (HB2.out.mono (by omega))).trans (HB3.out.mono (by omega))).trans (HB4.out.mono (by omega))).alloc (by omega) _)⟩
set_option maxRecDepth 20000 in
set_option maxHeartbeats 2000000 in
theorem nrY2 (nm : ByteArray) (hs : nm.size ≤ maxLen) (i : Nat) (hi' : i < 1000) (w : World) (hkw : Kw w) (hg : 1 < w.heap.size) :
    Calls Tryd.prog 68 #[.agg #[.int .i64 2, .int .i64 0, .int .i64 0, .int .i64 0, .int .i64 0, .string nm], .int .i64 i] w fun e w' => e = .returned (.bool (wordB nm)) ∧ Below w.heap.size w w' := by
  have hnil := fnil2
  have hme := meth2 0 0 0 0 nm
  have hpm := pmeth2 0 0 0 0 nm
  have hne : ∀ w, Sem.run Tryd.prog (binOp .neq 46 (.agg #[.int .i64 2, .int .i64 0, .int .i64 0, .int .i64 0, .int .i64 0, .string nm]) (.agg #[.int .i64 2, .int .i64 0, .int .i64 0, .int .i64 0, .int .i64 0, .string nm])) w = .ok (.bool false) w := fun w => by
    have := neq_node ((2, 0, 0, 0, 0, nm) : Nd) ((2, 0, 0, 0, 0, nm) : Nd) w
    rw [decide_eq_true rfl] at this
    exact this
  have HBX := hide (box_node w ((2, 0, 0, 0, 0, nm) : Nd) 46)
  have HK := hide hkw
  clear hkw
  go_enter Tryd.func68, Tryd.ntmps68
  go_wp2_with (go_at_call 72; refine (form2 _ _ _ _ _ _).mono ?_; rintro e w1 ⟨rfl, hb1⟩; have hsz : w.heap.size < w1.heap.size := (by have := hb1.size; simp at this; omega); have HN1 := hide (HBX.out.below hb1 (by simp)); obtain ⟨c0, c1, c2, c3, c4, c5⟩ := HN1.out.zero; have HB1 : Hid (Below w.heap.size w w1) := ((Below.refl _ _).alloc (Nat.le_refl _) _).trans (hb1.mono (by simp)); clear hb1)
  go_region_with (go_at_call 100; refine (nodeM2 0 0 0 0 nm _).mono ?_; rintro e w2 ⟨rfl, hb2⟩; have HB2 : Hid (Below w1.heap.size w1 w2) := ⟨hb2.os, hb2.tape, hb2.output, hb2.size, hb2.block⟩; have HN2 := hide (HN1.out.below HB2.out hsz); obtain ⟨d0, d1, d2, d3, d4, d5⟩ := HN2.out.zero; clear hb2)
  all_goals
    clear c0 c1 c2 c3 c4 c5 d0 d1 d2 d3 d4 d5 hnil hne hme
    have hz2 := HB2.out.size
    go_wp2_with (go_at_call 98; refine (parts0 _).mono ?_; rintro e w3 ⟨rfl, hb3⟩; have HB3 := hide hb3; have hz3 := hb3.size; have HN3 := hide (HN2.out.below hb3 (by omega)); obtain ⟨c0, c1, c2, c3, c4, c5⟩ := HN3.out.zero; clear hb3)
    go_loop [23] (fun t => t = .int .i64 0) (fun _ => 0)
    case atStart => rfl
    case round =>
      subst hrel
      go_wp2_with (first | (go_at_call 75; refine (span2 0 0 0 0 nm _).mono ?_; rintro e w4 ⟨rfl, hb4⟩; have HB4 := hide hb4; have hz4 := hb4.size; have HN4 := hide (HN3.out.below hb4 (by omega)); obtain ⟨f0, f1, f2, f3, f4, f5⟩ := HN4.out.zero; have hz5 : w.heap.size < w4.heap.size := (by omega); have hz6 : w.heap.size ≠ w4.heap.size := (by omega); clear hb4) | (go_at_call 65; refine (implWord_any nm _ hs (HK.out.below (((((HB1.out.trans (HB2.out.mono (by omega))).trans (HB3.out.mono (by omega))).trans (HB4.out.mono (by omega))).alloc (by omega) _)) hg)).mono ?_; rintro e w5 ⟨rfl, hb5⟩; subst hb5))
      go_ret
      exact ⟨rfl, ((((HB1.out.trans (HB2.out.mono (by omega))).trans (HB3.out.mono (by omega))).trans (HB4.out.mono (by omega))).alloc (by omega) _)⟩
set_option maxRecDepth 20000 in
set_option maxHeartbeats 2000000 in
theorem nrY3 (a : Int) (i : Nat) (hi' : i < 1000) (w : World) :
    Calls Tryd.prog 68 #[.agg #[.int .i64 3, .int .i64 a, .int .i64 0, .int .i64 0, .int .i64 0, .string ⟨#[]⟩], .int .i64 i] w fun e w' => e = .returned (.bool (isB a 0 (i - 1))) ∧ Below w.heap.size w w' := by
  have hnil := fnil3
  have hme := meth3 a 0 0 0 ⟨#[]⟩
  have hpm := pmeth3 a 0 0 0 ⟨#[]⟩
  have hne : ∀ w, Sem.run Tryd.prog (binOp .neq 46 (.agg #[.int .i64 3, .int .i64 a, .int .i64 0, .int .i64 0, .int .i64 0, .string ⟨#[]⟩]) (.agg #[.int .i64 3, .int .i64 a, .int .i64 0, .int .i64 0, .int .i64 0, .string ⟨#[]⟩])) w = .ok (.bool false) w := fun w => by
    have := neq_node ((3, a, 0, 0, 0, (⟨#[]⟩ : ByteArray)) : Nd) ((3, a, 0, 0, 0, (⟨#[]⟩ : ByteArray)) : Nd) w
    rw [decide_eq_true rfl] at this
    exact this
  have HBX := hide (box_node w ((3, a, 0, 0, 0, (⟨#[]⟩ : ByteArray)) : Nd) 46)
  go_enter Tryd.func68, Tryd.ntmps68
  go_wp2_with (go_at_call 72; refine (form3 _ _ _ _ _ _).mono ?_; rintro e w1 ⟨rfl, hb1⟩; have hsz : w.heap.size < w1.heap.size := (by have := hb1.size; simp at this; omega); have HN1 := hide (HBX.out.below hb1 (by simp)); obtain ⟨c0, c1, c2, c3, c4, c5⟩ := HN1.out.zero; have HB1 : Hid (Below w.heap.size w w1) := ((Below.refl _ _).alloc (Nat.le_refl _) _).trans (hb1.mono (by simp)); clear hb1)
  go_region_with (go_at_call 101; refine (nodeM3 a 0 0 0 ⟨#[]⟩ _).mono ?_; rintro e w2 ⟨rfl, hb2⟩; have HB2 : Hid (Below w1.heap.size w1 w2) := ⟨hb2.os, hb2.tape, hb2.output, hb2.size, hb2.block⟩; have HN2 := hide (HN1.out.below HB2.out hsz); obtain ⟨d0, d1, d2, d3, d4, d5⟩ := HN2.out.zero; clear hb2)
  all_goals
    clear c0 c1 c2 c3 c4 c5 d0 d1 d2 d3 d4 d5 hnil hne hme
    have hz2 := HB2.out.size
    go_wp2_with (go_at_call 96; refine (parts1 a _).mono ?_; rintro e w3 ⟨g, rfl, hg1, hg2, hg3, hb3⟩; have HB3 := hide hb3; have hz3 := hb3.size; have HN3 := hide (HN2.out.below hb3 (by omega)); obtain ⟨c0, c1, c2, c3, c4, c5⟩ := HN3.out.zero; clear hb3)
    go_loop [23] (fun t => t = .int .i64 0 ∨ (t = .int .i64 1 ∧ isB a 0 (i - 1) = true)) (fun t => 1 - (intOf t).toNat)
    case atStart => exact Or.inl rfl
    case round =>
      rcases hrel with rfl | ⟨rfl, hA⟩
      · by_cases ha0 : a < 0
        · have HR := hide (isB_lo a 0 (i - 1) ha0)
          go_wp2_with fail
          go_ret
          exact ⟨ret_bool HR.out.symm, (HB1.out.trans (HB2.out.mono (by omega))).trans (HB3.out.mono (by omega))⟩
        by_cases ha1 : (i : Int) ≤ a
        · have HR := hide (isB_hi a 0 (i - 1) (by omega))
          go_wp2_with fail
          go_ret
          exact ⟨ret_bool HR.out.symm, (HB1.out.trans (HB2.out.mono (by omega))).trans (HB3.out.mono (by omega))⟩
        have HR : Hid (isB a 0 (i - 1) = true) := by simp [Hid, isB]; omega
        go_wp2_with fail
        go_round
        case rel => exact Or.inr ⟨rfl, HR.out⟩
        case measure => simp [intOf]
      have HA := hide hA
      clear hA
      go_wp2_with (first | (go_at_call 75; refine (span3 a 0 0 0 ⟨#[]⟩ _).mono ?_; rintro e w4 ⟨rfl, hb4⟩; have HB4 := hide hb4; have hz4 := hb4.size; have HN4 := hide (HN3.out.below hb4 (by omega)); obtain ⟨f0, f1, f2, f3, f4, f5⟩ := HN4.out.zero; have hz5 : w.heap.size < w4.heap.size := (by omega); have hz6 : w.heap.size ≠ w4.heap.size := (by omega); clear hb4))
      go_ret
      exact ⟨ret_bool HA.out.symm, ((((HB1.out.trans (HB2.out.mono (by omega))).trans (HB3.out.mono (by omega))).trans (HB4.out.mono (by omega))).alloc (by omega) _)⟩
end Go.Proofs.YtagklhfejbdkdaaDoor
