/-
  One node: the model's l02Is, l02Arms, l02Timed, l02Node, by their contracts.
-/
import Derived.Test.YtagklhfejbdkdaaDoorForm
namespace Go.Proofs.YtagklhfejbdkdaaDoor
open Go.RowKit
set_option linter.unusedVariables false
set_option linter.unusedSimpArgs false
theorem is_any (n lo hi : Int) (w : World) :
    Calls Tryd.prog 66 #[.int .i64 n, .int .i64 lo, .int .i64 hi] w fun e w' => e = .returned (.bool (isB n lo hi)) ∧ w' = w := by
  by_cases h1 : lo ≤ n <;> by_cases h2 : n ≤ hi
  all_goals
    go_enter Tryd.func66, Tryd.ntmps66
    go_wp2
    go_ret
    exact ⟨ret_bool (by simp [isB]; omega), rfl⟩
theorem timed_any (k : Int) (w : World) :
    Calls Tryd.prog 67 #[.int .i64 k] w fun e w' => e = .returned (.bool (timedB k)) ∧ w' = w := by
  by_cases h1 : 6 ≤ k <;> by_cases h2 : k ≤ 9
  all_goals
    go_enter Tryd.func67, Tryd.ntmps67
    go_wp2
    go_ret
    exact ⟨ret_bool (by simp [timedB]; omega), rfl⟩
theorem armsN_none (k : Int) (h3 : k ≠ 3) (h4 : k ≠ 4) (h5 : k ≠ 5) (h6 : k ≠ 6) (h7 : k ≠ 7) (h8 : k ≠ 8) (h9 : k ≠ 9) : armsN k = 0 := by
  simp [armsN, h3, h4, h5, h6, h7, h8, h9]
set_option maxHeartbeats 400000 in
theorem arms_any (k : Int) (w : World) :
    Calls Tryd.prog 61 #[.int .i64 k] w fun e w' => e = .returned (.int .i64 (armsN k)) ∧ w' = w := by
  by_cases h3 : k = 3
  · subst h3; go_enter Tryd.func61, Tryd.ntmps61; go_wp2; go_ret; exact ⟨rfl, rfl⟩
  by_cases h4 : k = 4
  · subst h4; go_enter Tryd.func61, Tryd.ntmps61; go_wp2; go_ret; exact ⟨rfl, rfl⟩
  by_cases h5 : k = 5
  · subst h5; go_enter Tryd.func61, Tryd.ntmps61; go_wp2; go_ret; exact ⟨rfl, rfl⟩
  by_cases h6 : k = 6
  · subst h6; go_enter Tryd.func61, Tryd.ntmps61; go_wp2; go_ret; exact ⟨rfl, rfl⟩
  by_cases h7 : k = 7
  · subst h7; go_enter Tryd.func61, Tryd.ntmps61; go_wp2; go_ret; exact ⟨rfl, rfl⟩
  by_cases h8 : k = 8
  · subst h8; go_enter Tryd.func61, Tryd.ntmps61; go_wp2; go_ret; exact ⟨rfl, rfl⟩
  by_cases h9 : k = 9
  · subst h9; go_enter Tryd.func61, Tryd.ntmps61; go_wp2; go_ret; exact ⟨rfl, rfl⟩
  have HN : Hid (armsN k = 0) := armsN_none k h3 h4 h5 h6 h7 h8 h9
  have b3 : (k == 3) = false := by simpa using h3
  have b4 : (k == 4) = false := by simpa using h4
  have b5 : (k == 5) = false := by simpa using h5
  have b6 : (k == 6) = false := by simpa using h6
  have b7 : (k == 7) = false := by simpa using h7
  have b8 : (k == 8) = false := by simpa using h8
  have b9 : (k == 9) = false := by simpa using h9
  clear h3 h4 h5 h6 h7 h8 h9
  go_enter Tryd.func61, Tryd.ntmps61
  go_wp2
  go_ret
  exact ⟨ret_int (by rw [HN.out]; rfl), rfl⟩

theorem isB_lo (n lo hi : Int) (h : n < lo) : isB n lo hi = false := by simp [isB]; omega
theorem isB_hi (n lo hi : Int) (h : hi < n) : isB n lo hi = false := by simp [isB]; omega
theorem node_kind (x : Nd) (i : Nat) (h : isB x.k 1 9 = false) : nodeB x i = false := by simp [nodeB, h]
theorem wordB_empty (s : ByteArray) (h : (s.toList == []) = true) : wordB s = false := by
  apply wordB_size
  have h1 : s.toList = [] := by simpa using h
  have h2 : s.toList.length = s.size := by rw [ByteArray.toList_eq]; rfl
  rw [h1] at h2
  simp at h2
  omega
set_option maxHeartbeats 2000000 in
theorem specNode1 (a b lo hi : Int) (nm : ByteArray) (hs : nm.size ≤ maxLen) (i : Nat) (hi' : i < 1000) (w : World) :
    Calls Tryd.prog 48 #[.agg #[.int .i64 1, .int .i64 a, .int .i64 b, .int .i64 lo, .int .i64 hi, .string nm], .int .i64 i] w fun e w' => e = .returned (.bool (nodeB (1, a, b, lo, hi, nm) i)) ∧ Below w.heap.size w w' := by
  have hA : ((armsN 1 : Nat) : Int) = 0 := by decide
  have hT : timedB 1 = false := by decide
  have hK : isB 1 1 9 = true := by decide
  go_enter Tryd.func48, Tryd.ntmps48
  go_wp2_with (first | (go_at_call 66; refine (is_any _ _ _ _).mono ?_; rintro e w' ⟨rfl, rfl⟩) | (go_at_call 61; refine (arms_any _ _).mono ?_; rintro e w' ⟨rfl, rfl⟩) | (go_at_call 67; refine (timed_any _ _).mono ?_; rintro e w' ⟨rfl, rfl⟩) | (go_at_call 45; refine (specWord_any _ _ hs).mono ?_; rintro e w' ⟨rfl, rfl⟩))
  all_goals
    go_ret
    refine ⟨ret_bool ?_, (Below.refl _ _).alloc (Nat.le_refl _) _⟩
    simp [nodeB, Nd.k, Nd.a, Nd.b, Nd.lo, Nd.hi, Nd.nm, emptyB, spanB, hT, hK, show armsN 1 = 0 from by decide, *]
set_option maxHeartbeats 2000000 in
theorem specNode2 (a b lo hi : Int) (nm : ByteArray) (hs : nm.size ≤ maxLen) (i : Nat) (hi' : i < 1000) (w : World) :
    Calls Tryd.prog 48 #[.agg #[.int .i64 2, .int .i64 a, .int .i64 b, .int .i64 lo, .int .i64 hi, .string nm], .int .i64 i] w fun e w' => e = .returned (.bool (nodeB (2, a, b, lo, hi, nm) i)) ∧ Below w.heap.size w w' := by
  have hA : ((armsN 2 : Nat) : Int) = 0 := by decide
  have hT : timedB 2 = false := by decide
  have hK : isB 2 1 9 = true := by decide
  have hx : ¬ ((nm.toList == []) = true ∧ wordB nm = true) := fun h => by rw [wordB_empty nm h.1] at h; cases h.2
  rcases Bool.eq_false_or_eq_true (nm.toList == []) with he | he <;> rcases Bool.eq_false_or_eq_true (wordB nm) with hw | hw
  · exact absurd ⟨he, hw⟩ hx
  all_goals clear hx
  all_goals go_enter Tryd.func48, Tryd.ntmps48
  all_goals go_wp2_with (first | (go_at_call 66; refine (is_any _ _ _ _).mono ?_; rintro e w' ⟨rfl, rfl⟩) | (go_at_call 61; refine (arms_any _ _).mono ?_; rintro e w' ⟨rfl, rfl⟩) | (go_at_call 67; refine (timed_any _ _).mono ?_; rintro e w' ⟨rfl, rfl⟩) | (go_at_call 45; refine (specWord_any _ _ hs).mono ?_; rintro e w' ⟨rfl, rfl⟩))
  all_goals
    go_ret
    refine ⟨ret_bool ?_, (Below.refl _ _).alloc (Nat.le_refl _) _⟩
    simp [nodeB, Nd.k, Nd.a, Nd.b, Nd.lo, Nd.hi, Nd.nm, emptyB, spanB, hT, hK, show armsN 2 = 0 from by decide, *]
set_option maxHeartbeats 2000000 in
theorem specNode3 (a b lo hi : Int) (nm : ByteArray) (hs : nm.size ≤ maxLen) (i : Nat) (hi' : i < 1000) (w : World) :
    Calls Tryd.prog 48 #[.agg #[.int .i64 3, .int .i64 a, .int .i64 b, .int .i64 lo, .int .i64 hi, .string nm], .int .i64 i] w fun e w' => e = .returned (.bool (nodeB (3, a, b, lo, hi, nm) i)) ∧ Below w.heap.size w w' := by
  have hA : ((armsN 3 : Nat) : Int) = 1 := by decide
  have hT : timedB 3 = false := by decide
  have hK : isB 3 1 9 = true := by decide
  go_enter Tryd.func48, Tryd.ntmps48
  go_wp2_with (first | (go_at_call 66; refine (is_any _ _ _ _).mono ?_; rintro e w' ⟨rfl, rfl⟩) | (go_at_call 61; refine (arms_any _ _).mono ?_; rintro e w' ⟨rfl, rfl⟩) | (go_at_call 67; refine (timed_any _ _).mono ?_; rintro e w' ⟨rfl, rfl⟩) | (go_at_call 45; refine (specWord_any _ _ hs).mono ?_; rintro e w' ⟨rfl, rfl⟩))
  all_goals
    go_ret
    refine ⟨ret_bool ?_, (Below.refl _ _).alloc (Nat.le_refl _) _⟩
    simp [nodeB, Nd.k, Nd.a, Nd.b, Nd.lo, Nd.hi, Nd.nm, emptyB, spanB, hT, hK, show armsN 3 = 1 from by decide, *]
set_option maxHeartbeats 2000000 in
theorem specNode4 (a b lo hi : Int) (nm : ByteArray) (hs : nm.size ≤ maxLen) (i : Nat) (hi' : i < 1000) (w : World) :
    Calls Tryd.prog 48 #[.agg #[.int .i64 4, .int .i64 a, .int .i64 b, .int .i64 lo, .int .i64 hi, .string nm], .int .i64 i] w fun e w' => e = .returned (.bool (nodeB (4, a, b, lo, hi, nm) i)) ∧ Below w.heap.size w w' := by
  have hA : ((armsN 4 : Nat) : Int) = 2 := by decide
  have hT : timedB 4 = false := by decide
  have hK : isB 4 1 9 = true := by decide
  rcases Bool.eq_false_or_eq_true (isB b 0 (i - 1)) with hb | hb
  all_goals go_enter Tryd.func48, Tryd.ntmps48
  all_goals go_wp2_with (first | (go_at_call 66; refine (is_any _ _ _ _).mono ?_; rintro e w' ⟨rfl, rfl⟩) | (go_at_call 61; refine (arms_any _ _).mono ?_; rintro e w' ⟨rfl, rfl⟩) | (go_at_call 67; refine (timed_any _ _).mono ?_; rintro e w' ⟨rfl, rfl⟩) | (go_at_call 45; refine (specWord_any _ _ hs).mono ?_; rintro e w' ⟨rfl, rfl⟩))
  all_goals
    go_ret
    refine ⟨ret_bool ?_, (Below.refl _ _).alloc (Nat.le_refl _) _⟩
    simp [nodeB, Nd.k, Nd.a, Nd.b, Nd.lo, Nd.hi, Nd.nm, emptyB, spanB, hT, hK, show armsN 4 = 2 from by decide, *]
set_option maxHeartbeats 2000000 in
theorem specNode5 (a b lo hi : Int) (nm : ByteArray) (hs : nm.size ≤ maxLen) (i : Nat) (hi' : i < 1000) (w : World) :
    Calls Tryd.prog 48 #[.agg #[.int .i64 5, .int .i64 a, .int .i64 b, .int .i64 lo, .int .i64 hi, .string nm], .int .i64 i] w fun e w' => e = .returned (.bool (nodeB (5, a, b, lo, hi, nm) i)) ∧ Below w.heap.size w w' := by
  have hA : ((armsN 5 : Nat) : Int) = 2 := by decide
  have hT : timedB 5 = false := by decide
  have hK : isB 5 1 9 = true := by decide
  rcases Bool.eq_false_or_eq_true (isB b 0 (i - 1)) with hb | hb
  all_goals go_enter Tryd.func48, Tryd.ntmps48
  all_goals go_wp2_with (first | (go_at_call 66; refine (is_any _ _ _ _).mono ?_; rintro e w' ⟨rfl, rfl⟩) | (go_at_call 61; refine (arms_any _ _).mono ?_; rintro e w' ⟨rfl, rfl⟩) | (go_at_call 67; refine (timed_any _ _).mono ?_; rintro e w' ⟨rfl, rfl⟩) | (go_at_call 45; refine (specWord_any _ _ hs).mono ?_; rintro e w' ⟨rfl, rfl⟩))
  all_goals
    go_ret
    refine ⟨ret_bool ?_, (Below.refl _ _).alloc (Nat.le_refl _) _⟩
    simp [nodeB, Nd.k, Nd.a, Nd.b, Nd.lo, Nd.hi, Nd.nm, emptyB, spanB, hT, hK, show armsN 5 = 2 from by decide, *]
set_option maxHeartbeats 2000000 in
theorem specNode6 (a b lo hi : Int) (nm : ByteArray) (hs : nm.size ≤ maxLen) (i : Nat) (hi' : i < 1000) (w : World) :
    Calls Tryd.prog 48 #[.agg #[.int .i64 6, .int .i64 a, .int .i64 b, .int .i64 lo, .int .i64 hi, .string nm], .int .i64 i] w fun e w' => e = .returned (.bool (nodeB (6, a, b, lo, hi, nm) i)) ∧ Below w.heap.size w w' := by
  have hA : ((armsN 6 : Nat) : Int) = 1 := by decide
  have hT : timedB 6 = true := by decide
  have hK : isB 6 1 9 = true := by decide
  go_enter Tryd.func48, Tryd.ntmps48
  go_wp2_with (first | (go_at_call 66; refine (is_any _ _ _ _).mono ?_; rintro e w' ⟨rfl, rfl⟩) | (go_at_call 61; refine (arms_any _ _).mono ?_; rintro e w' ⟨rfl, rfl⟩) | (go_at_call 67; refine (timed_any _ _).mono ?_; rintro e w' ⟨rfl, rfl⟩) | (go_at_call 45; refine (specWord_any _ _ hs).mono ?_; rintro e w' ⟨rfl, rfl⟩))
  all_goals
    go_ret
    refine ⟨ret_bool ?_, (Below.refl _ _).alloc (Nat.le_refl _) _⟩
    simp [nodeB, Nd.k, Nd.a, Nd.b, Nd.lo, Nd.hi, Nd.nm, emptyB, spanB, hT, hK, show armsN 6 = 1 from by decide, *]
set_option maxHeartbeats 2000000 in
theorem specNode7 (a b lo hi : Int) (nm : ByteArray) (hs : nm.size ≤ maxLen) (i : Nat) (hi' : i < 1000) (w : World) :
    Calls Tryd.prog 48 #[.agg #[.int .i64 7, .int .i64 a, .int .i64 b, .int .i64 lo, .int .i64 hi, .string nm], .int .i64 i] w fun e w' => e = .returned (.bool (nodeB (7, a, b, lo, hi, nm) i)) ∧ Below w.heap.size w w' := by
  have hA : ((armsN 7 : Nat) : Int) = 1 := by decide
  have hT : timedB 7 = true := by decide
  have hK : isB 7 1 9 = true := by decide
  go_enter Tryd.func48, Tryd.ntmps48
  go_wp2_with (first | (go_at_call 66; refine (is_any _ _ _ _).mono ?_; rintro e w' ⟨rfl, rfl⟩) | (go_at_call 61; refine (arms_any _ _).mono ?_; rintro e w' ⟨rfl, rfl⟩) | (go_at_call 67; refine (timed_any _ _).mono ?_; rintro e w' ⟨rfl, rfl⟩) | (go_at_call 45; refine (specWord_any _ _ hs).mono ?_; rintro e w' ⟨rfl, rfl⟩))
  all_goals
    go_ret
    refine ⟨ret_bool ?_, (Below.refl _ _).alloc (Nat.le_refl _) _⟩
    simp [nodeB, Nd.k, Nd.a, Nd.b, Nd.lo, Nd.hi, Nd.nm, emptyB, spanB, hT, hK, show armsN 7 = 1 from by decide, *]
set_option maxHeartbeats 2000000 in
theorem specNode8 (a b lo hi : Int) (nm : ByteArray) (hs : nm.size ≤ maxLen) (i : Nat) (hi' : i < 1000) (w : World) :
    Calls Tryd.prog 48 #[.agg #[.int .i64 8, .int .i64 a, .int .i64 b, .int .i64 lo, .int .i64 hi, .string nm], .int .i64 i] w fun e w' => e = .returned (.bool (nodeB (8, a, b, lo, hi, nm) i)) ∧ Below w.heap.size w w' := by
  have hA : ((armsN 8 : Nat) : Int) = 1 := by decide
  have hT : timedB 8 = true := by decide
  have hK : isB 8 1 9 = true := by decide
  go_enter Tryd.func48, Tryd.ntmps48
  go_wp2_with (first | (go_at_call 66; refine (is_any _ _ _ _).mono ?_; rintro e w' ⟨rfl, rfl⟩) | (go_at_call 61; refine (arms_any _ _).mono ?_; rintro e w' ⟨rfl, rfl⟩) | (go_at_call 67; refine (timed_any _ _).mono ?_; rintro e w' ⟨rfl, rfl⟩) | (go_at_call 45; refine (specWord_any _ _ hs).mono ?_; rintro e w' ⟨rfl, rfl⟩))
  all_goals
    go_ret
    refine ⟨ret_bool ?_, (Below.refl _ _).alloc (Nat.le_refl _) _⟩
    simp [nodeB, Nd.k, Nd.a, Nd.b, Nd.lo, Nd.hi, Nd.nm, emptyB, spanB, hT, hK, show armsN 8 = 1 from by decide, *]
set_option maxHeartbeats 2000000 in
theorem specNode9 (a b lo hi : Int) (nm : ByteArray) (hs : nm.size ≤ maxLen) (i : Nat) (hi' : i < 1000) (w : World) :
    Calls Tryd.prog 48 #[.agg #[.int .i64 9, .int .i64 a, .int .i64 b, .int .i64 lo, .int .i64 hi, .string nm], .int .i64 i] w fun e w' => e = .returned (.bool (nodeB (9, a, b, lo, hi, nm) i)) ∧ Below w.heap.size w w' := by
  have hA : ((armsN 9 : Nat) : Int) = 2 := by decide
  have hT : timedB 9 = true := by decide
  have hK : isB 9 1 9 = true := by decide
  rcases Bool.eq_false_or_eq_true (isB b 0 (i - 1)) with hb | hb
  all_goals go_enter Tryd.func48, Tryd.ntmps48
  all_goals go_wp2_with (first | (go_at_call 66; refine (is_any _ _ _ _).mono ?_; rintro e w' ⟨rfl, rfl⟩) | (go_at_call 61; refine (arms_any _ _).mono ?_; rintro e w' ⟨rfl, rfl⟩) | (go_at_call 67; refine (timed_any _ _).mono ?_; rintro e w' ⟨rfl, rfl⟩) | (go_at_call 45; refine (specWord_any _ _ hs).mono ?_; rintro e w' ⟨rfl, rfl⟩))
  all_goals
    go_ret
    refine ⟨ret_bool ?_, (Below.refl _ _).alloc (Nat.le_refl _) _⟩
    simp [nodeB, Nd.k, Nd.a, Nd.b, Nd.lo, Nd.hi, Nd.nm, emptyB, spanB, hT, hK, show armsN 9 = 2 from by decide, *]
end Go.Proofs.YtagklhfejbdkdaaDoor
