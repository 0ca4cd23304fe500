/-
  One node: the program's nodeRight, kind by kind.
-/
import Derived.Test.YtagklhfejbdkdaaDoorNrBase
namespace Go.Proofs.YtagklhfejbdkdaaDoor
open Go.RowKit
set_option linter.unusedVariables false
set_option linter.unusedSimpArgs false
set_option maxRecDepth 20000 in
set_option maxHeartbeats 2000000 in
theorem nrY4 (a b : Int) (i : Nat) (hi' : i < 1000) (w : World) :
    Calls Tryd.prog 68 #[.agg #[.int .i64 4, .int .i64 a, .int .i64 b, .int .i64 0, .int .i64 0, .string ⟨#[]⟩], .int .i64 i] w fun e w' => e = .returned (.bool (isB a 0 (i - 1) && isB b 0 (i - 1))) ∧ Below w.heap.size w w' := by
  have hnil := fnil4
  have hme := meth4 a b 0 0 ⟨#[]⟩
  have hpm := pmeth4 a b 0 0 ⟨#[]⟩
  have hne : ∀ w, Sem.run Tryd.prog (binOp .neq 46 (.agg #[.int .i64 4, .int .i64 a, .int .i64 b, .int .i64 0, .int .i64 0, .string ⟨#[]⟩]) (.agg #[.int .i64 4, .int .i64 a, .int .i64 b, .int .i64 0, .int .i64 0, .string ⟨#[]⟩])) w = .ok (.bool false) w := fun w => by
    have := neq_node ((4, a, b, 0, 0, (⟨#[]⟩ : ByteArray)) : Nd) ((4, a, b, 0, 0, (⟨#[]⟩ : ByteArray)) : Nd) w
    rw [decide_eq_true rfl] at this
    exact this
  have HBX := hide (box_node w ((4, a, b, 0, 0, (⟨#[]⟩ : ByteArray)) : Nd) 46)
  go_enter Tryd.func68, Tryd.ntmps68
  go_wp2_with (go_at_call 72; refine (form4 _ _ _ _ _ _).mono ?_; rintro e w1 ⟨rfl, hb1⟩; have hsz : w.heap.size < w1.heap.size := (by have := hb1.size; simp at this; omega); have HN1 := hide (HBX.out.below hb1 (by simp)); obtain ⟨c0, c1, c2, c3, c4, c5⟩ := HN1.out.zero; have HB1 : Hid (Below w.heap.size w w1) := ((Below.refl _ _).alloc (Nat.le_refl _) _).trans (hb1.mono (by simp)); clear hb1)
  go_region_with (go_at_call 102; refine (nodeM4 a b 0 0 ⟨#[]⟩ _).mono ?_; rintro e w2 ⟨rfl, hb2⟩; have HB2 : Hid (Below w1.heap.size w1 w2) := ⟨hb2.os, hb2.tape, hb2.output, hb2.size, hb2.block⟩; have HN2 := hide (HN1.out.below HB2.out hsz); obtain ⟨d0, d1, d2, d3, d4, d5⟩ := HN2.out.zero; clear hb2)
  all_goals
    clear c0 c1 c2 c3 c4 c5 d0 d1 d2 d3 d4 d5 hnil hne hme
    have hz2 := HB2.out.size
    go_wp2_with (go_at_call 97; refine (parts2 a b _).mono ?_; rintro e w3 ⟨g, rfl, hg1, hg2, hg3, hg4, hb3⟩; have HB3 := hide hb3; have hz3 := hb3.size; have HN3 := hide (HN2.out.below hb3 (by omega)); obtain ⟨c0, c1, c2, c3, c4, c5⟩ := HN3.out.zero; clear hb3)
    go_loop [23] (fun t => t = .int .i64 0 ∨ (t = .int .i64 1 ∧ isB a 0 (i - 1) = true) ∨ (t = .int .i64 2 ∧ isB a 0 (i - 1) = true ∧ isB b 0 (i - 1) = true)) (fun t => 2 - (intOf t).toNat)
    case atStart => exact Or.inl rfl
    case round =>
      rcases hrel with rfl | ⟨rfl, hA⟩ | ⟨rfl, hA, hB⟩
      · by_cases ha0 : a < 0
        · have HR := hide (isB_lo a 0 (i - 1) ha0)
          go_wp2_with fail
          go_ret
          exact ⟨ret_bool (by simp [HR.out]), (HB1.out.trans (HB2.out.mono (by omega))).trans (HB3.out.mono (by omega))⟩
        by_cases ha1 : (i : Int) ≤ a
        · have HR := hide (isB_hi a 0 (i - 1) (by omega))
          go_wp2_with fail
          go_ret
          exact ⟨ret_bool (by simp [HR.out]), (HB1.out.trans (HB2.out.mono (by omega))).trans (HB3.out.mono (by omega))⟩
        have HR : Hid (isB a 0 (i - 1) = true) := by simp [Hid, isB]; omega
        go_wp2_with fail
        go_round
        case rel => exact Or.inr (Or.inl ⟨rfl, HR.out⟩)
        case measure => simp [intOf]
      · have HA := hide hA
        clear hA
        by_cases ha0 : b < 0
        · have HR := hide (isB_lo b 0 (i - 1) ha0)
          go_wp2_with fail
          go_ret
          exact ⟨ret_bool (by simp [HR.out]), (HB1.out.trans (HB2.out.mono (by omega))).trans (HB3.out.mono (by omega))⟩
        by_cases ha1 : (i : Int) ≤ b
        · have HR := hide (isB_hi b 0 (i - 1) (by omega))
          go_wp2_with fail
          go_ret
          exact ⟨ret_bool (by simp [HR.out]), (HB1.out.trans (HB2.out.mono (by omega))).trans (HB3.out.mono (by omega))⟩
        have HR : Hid (isB b 0 (i - 1) = true) := by simp [Hid, isB]; omega
        go_wp2_with fail
        go_round
        case rel => exact Or.inr (Or.inr ⟨rfl, HA.out, HR.out⟩)
        case measure => simp [intOf]
      have HA := hide hA
      have HBq := hide hB
      clear hA hB
      go_wp2_with (first | (go_at_call 75; refine (span4 a b 0 0 ⟨#[]⟩ _).mono ?_; rintro e w4 ⟨rfl, hb4⟩; have HB4 := hide hb4; have hz4 := hb4.size; have HN4 := hide (HN3.out.below hb4 (by omega)); obtain ⟨f0, f1, f2, f3, f4, f5⟩ := HN4.out.zero; have hz5 : w.heap.size < w4.heap.size := (by omega); have hz6 : w.heap.size ≠ w4.heap.size := (by omega); clear hb4))
      go_ret
      exact ⟨ret_bool (by simp [HA.out, HBq.out]), ((((HB1.out.trans (HB2.out.mono (by omega))).trans (HB3.out.mono (by omega))).trans (HB4.out.mono (by omega))).alloc (by omega) _)⟩
set_option maxRecDepth 20000 in
set_option maxHeartbeats 2000000 in
theorem nrY5 (a b : Int) (i : Nat) (hi' : i < 1000) (w : World) :
    Calls Tryd.prog 68 #[.agg #[.int .i64 5, .int .i64 a, .int .i64 b, .int .i64 0, .int .i64 0, .string ⟨#[]⟩], .int .i64 i] w fun e w' => e = .returned (.bool (isB a 0 (i - 1) && isB b 0 (i - 1))) ∧ Below w.heap.size w w' := by
  have hnil := fnil5
  have hme := meth5 a b 0 0 ⟨#[]⟩
  have hpm := pmeth5 a b 0 0 ⟨#[]⟩
  have hne : ∀ w, Sem.run Tryd.prog (binOp .neq 46 (.agg #[.int .i64 5, .int .i64 a, .int .i64 b, .int .i64 0, .int .i64 0, .string ⟨#[]⟩]) (.agg #[.int .i64 5, .int .i64 a, .int .i64 b, .int .i64 0, .int .i64 0, .string ⟨#[]⟩])) w = .ok (.bool false) w := fun w => by
    have := neq_node ((5, a, b, 0, 0, (⟨#[]⟩ : ByteArray)) : Nd) ((5, a, b, 0, 0, (⟨#[]⟩ : ByteArray)) : Nd) w
    rw [decide_eq_true rfl] at this
    exact this
  have HBX := hide (box_node w ((5, a, b, 0, 0, (⟨#[]⟩ : ByteArray)) : Nd) 46)
  go_enter Tryd.func68, Tryd.ntmps68
  go_wp2_with (go_at_call 72; refine (form5 _ _ _ _ _ _).mono ?_; rintro e w1 ⟨rfl, hb1⟩; have hsz : w.heap.size < w1.heap.size := (by have := hb1.size; simp at this; omega); have HN1 := hide (HBX.out.below hb1 (by simp)); obtain ⟨c0, c1, c2, c3, c4, c5⟩ := HN1.out.zero; have HB1 : Hid (Below w.heap.size w w1) := ((Below.refl _ _).alloc (Nat.le_refl _) _).trans (hb1.mono (by simp)); clear hb1)
  go_region_with (go_at_call 103; refine (nodeM5 a b 0 0 ⟨#[]⟩ _).mono ?_; rintro e w2 ⟨rfl, hb2⟩; have HB2 : Hid (Below w1.heap.size w1 w2) := ⟨hb2.os, hb2.tape, hb2.output, hb2.size, hb2.block⟩; have HN2 := hide (HN1.out.below HB2.out hsz); obtain ⟨d0, d1, d2, d3, d4, d5⟩ := HN2.out.zero; clear hb2)
  all_goals
    clear c0 c1 c2 c3 c4 c5 d0 d1 d2 d3 d4 d5 hnil hne hme
    have hz2 := HB2.out.size
    go_wp2_with (go_at_call 97; refine (parts2 a b _).mono ?_; rintro e w3 ⟨g, rfl, hg1, hg2, hg3, hg4, hb3⟩; have HB3 := hide hb3; have hz3 := hb3.size; have HN3 := hide (HN2.out.below hb3 (by omega)); obtain ⟨c0, c1, c2, c3, c4, c5⟩ := HN3.out.zero; clear hb3)
    go_loop [23] (fun t => t = .int .i64 0 ∨ (t = .int .i64 1 ∧ isB a 0 (i - 1) = true) ∨ (t = .int .i64 2 ∧ isB a 0 (i - 1) = true ∧ isB b 0 (i - 1) = true)) (fun t => 2 - (intOf t).toNat)
    case atStart => exact Or.inl rfl
    case round =>
      rcases hrel with rfl | ⟨rfl, hA⟩ | ⟨rfl, hA, hB⟩
      · by_cases ha0 : a < 0
        · have HR := hide (isB_lo a 0 (i - 1) ha0)
          go_wp2_with fail
          go_ret
          exact ⟨ret_bool (by simp [HR.out]), (HB1.out.trans (HB2.out.mono (by omega))).trans (HB3.out.mono (by omega))⟩
        by_cases ha1 : (i : Int) ≤ a
        · have HR := hide (isB_hi a 0 (i - 1) (by omega))
          go_wp2_with fail
          go_ret
          exact ⟨ret_bool (by simp [HR.out]), (HB1.out.trans (HB2.out.mono (by omega))).trans (HB3.out.mono (by omega))⟩
        have HR : Hid (isB a 0 (i - 1) = true) := by simp [Hid, isB]; omega
        go_wp2_with fail
        go_round
        case rel => exact Or.inr (Or.inl ⟨rfl, HR.out⟩)
        case measure => simp [intOf]
      · have HA := hide hA
        clear hA
        by_cases ha0 : b < 0
        · have HR := hide (isB_lo b 0 (i - 1) ha0)
          go_wp2_with fail
          go_ret
          exact ⟨ret_bool (by simp [HR.out]), (HB1.out.trans (HB2.out.mono (by omega))).trans (HB3.out.mono (by omega))⟩
        by_cases ha1 : (i : Int) ≤ b
        · have HR := hide (isB_hi b 0 (i - 1) (by omega))
          go_wp2_with fail
          go_ret
          exact ⟨ret_bool (by simp [HR.out]), (HB1.out.trans (HB2.out.mono (by omega))).trans (HB3.out.mono (by omega))⟩
        have HR : Hid (isB b 0 (i - 1) = true) := by simp [Hid, isB]; omega
        go_wp2_with fail
        go_round
        case rel => exact Or.inr (Or.inr ⟨rfl, HA.out, HR.out⟩)
        case measure => simp [intOf]
      have HA := hide hA
      have HBq := hide hB
      clear hA hB
      go_wp2_with (first | (go_at_call 75; refine (span5 a b 0 0 ⟨#[]⟩ _).mono ?_; rintro e w4 ⟨rfl, hb4⟩; have HB4 := hide hb4; have hz4 := hb4.size; have HN4 := hide (HN3.out.below hb4 (by omega)); obtain ⟨f0, f1, f2, f3, f4, f5⟩ := HN4.out.zero; have hz5 : w.heap.size < w4.heap.size := (by omega); have hz6 : w.heap.size ≠ w4.heap.size := (by omega); clear hb4))
      go_ret
      exact ⟨ret_bool (by simp [HA.out, HBq.out]), ((((HB1.out.trans (HB2.out.mono (by omega))).trans (HB3.out.mono (by omega))).trans (HB4.out.mono (by omega))).alloc (by omega) _)⟩
set_option maxRecDepth 20000 in
set_option maxHeartbeats 2000000 in
theorem nrY6 (a lo hi : Int) (i : Nat) (hi' : i < 1000) (w : World) :
    Calls Tryd.prog 68 #[.agg #[.int .i64 6, .int .i64 a, .int .i64 0, .int .i64 lo, .int .i64 hi, .string ⟨#[]⟩], .int .i64 i] w fun e w' => e = .returned (.bool ((isB a 0 (i - 1)) && spanB lo hi)) ∧ Below w.heap.size w w' := by
  have hnil := fnil6
  have hme := meth6 a 0 lo hi ⟨#[]⟩
  have hpm := pmeth6 a 0 lo hi ⟨#[]⟩
  have hne : ∀ w, Sem.run Tryd.prog (binOp .neq 46 (.agg #[.int .i64 6, .int .i64 a, .int .i64 0, .int .i64 lo, .int .i64 hi, .string ⟨#[]⟩]) (.agg #[.int .i64 6, .int .i64 a, .int .i64 0, .int .i64 lo, .int .i64 hi, .string ⟨#[]⟩])) w = .ok (.bool false) w := fun w => by
    have := neq_node ((6, a, 0, lo, hi, (⟨#[]⟩ : ByteArray)) : Nd) ((6, a, 0, lo, hi, (⟨#[]⟩ : ByteArray)) : Nd) w
    rw [decide_eq_true rfl] at this
    exact this
  have HBX := hide (box_node w ((6, a, 0, lo, hi, (⟨#[]⟩ : ByteArray)) : Nd) 46)
  go_enter Tryd.func68, Tryd.ntmps68
  go_wp2_with (go_at_call 72; refine (form6 _ _ _ _ _ _).mono ?_; rintro e w1 ⟨rfl, hb1⟩; have hsz : w.heap.size < w1.heap.size := (by have := hb1.size; simp at this; omega); have HN1 := hide (HBX.out.below hb1 (by simp)); obtain ⟨c0, c1, c2, c3, c4, c5⟩ := HN1.out.zero; have HB1 : Hid (Below w.heap.size w w1) := ((Below.refl _ _).alloc (Nat.le_refl _) _).trans (hb1.mono (by simp)); clear hb1)
  go_region_with (go_at_call 104; refine (nodeM6 a 0 lo hi ⟨#[]⟩ _).mono ?_; rintro e w2 ⟨rfl, hb2⟩; have HB2 : Hid (Below w1.heap.size w1 w2) := ⟨hb2.os, hb2.tape, hb2.output, hb2.size, hb2.block⟩; have HN2 := hide (HN1.out.below HB2.out hsz); obtain ⟨d0, d1, d2, d3, d4, d5⟩ := HN2.out.zero; clear hb2)
  all_goals
    clear c0 c1 c2 c3 c4 c5 d0 d1 d2 d3 d4 d5 hnil hne hme
    have hz2 := HB2.out.size
    go_wp2_with (go_at_call 96; refine (parts1 a _).mono ?_; rintro e w3 ⟨g, rfl, hg1, hg2, hg3, hb3⟩; have HB3 := hide hb3; have hz3 := hb3.size; have HN3 := hide (HN2.out.below hb3 (by omega)); obtain ⟨c0, c1, c2, c3, c4, c5⟩ := HN3.out.zero; clear hb3)
    go_loop [23] (fun t => t = .int .i64 0 ∨ (t = .int .i64 1 ∧ isB a 0 (i - 1) = true)) (fun t => 1 - (intOf t).toNat)
    case atStart => exact Or.inl rfl
    case round =>
      rcases hrel with rfl | ⟨rfl, hA⟩
      · by_cases ha0 : a < 0
        · have HR := hide (isB_lo a 0 (i - 1) ha0)
          go_wp2_with fail
          go_ret
          exact ⟨ret_bool (by simp [HR.out]), (HB1.out.trans (HB2.out.mono (by omega))).trans (HB3.out.mono (by omega))⟩
        by_cases ha1 : (i : Int) ≤ a
        · have HR := hide (isB_hi a 0 (i - 1) (by omega))
          go_wp2_with fail
          go_ret
          exact ⟨ret_bool (by simp [HR.out]), (HB1.out.trans (HB2.out.mono (by omega))).trans (HB3.out.mono (by omega))⟩
        have HR : Hid (isB a 0 (i - 1) = true) := by simp [Hid, isB]; omega
        go_wp2_with fail
        go_round
        case rel => exact Or.inr ⟨rfl, HR.out⟩
        case measure => simp [intOf]
      have HA := hide hA
      clear hA
      go_wp2_with (first | (go_at_call 75; refine (span6 a 0 lo hi ⟨#[]⟩ _).mono ?_; rintro e w4 ⟨rfl, hb4⟩; have HB4 := hide hb4; have hz4 := hb4.size; have HN4 := hide (HN3.out.below hb4 (by omega)); obtain ⟨f0, f1, f2, f3, f4, f5⟩ := HN4.out.zero; have hz5 : w.heap.size < w4.heap.size := (by omega); have hz6 : w.heap.size ≠ w4.heap.size := (by omega); clear hb4) | (go_at_call 76; refine (right_any lo hi _).mono ?_; rintro e w5 ⟨rfl, hb5⟩; have HB5 := hide hb5; clear hb5))
      go_ret
      exact ⟨ret_bool (by simp [HA.out]), ((((HB1.out.trans (HB2.out.mono (by omega))).trans (HB3.out.mono (by omega))).trans (HB4.out.mono (by omega))).alloc (by omega) _).trans (HB5.out.mono (by simp; omega))⟩
end Go.Proofs.YtagklhfejbdkdaaDoor
