/-
  The program's formOf by its contract: the value of a kind's own type.
-/
import Derived.Test.YtagklhfejbdkdaaDoorRight
namespace Go.Proofs.YtagklhfejbdkdaaDoor
open Go.RowKit
set_option linter.unusedVariables false
set_option linter.unusedSimpArgs false
set_option maxHeartbeats 400000 in
theorem form1 (a b lo hi : Int) (nm : ByteArray) (w : World) :
    Calls Tryd.prog 72 #[.agg #[.int .i64 1, .int .i64 a, .int .i64 b, .int .i64 lo, .int .i64 hi, .string nm]] w fun e w' => e = .returned (.iface 116 (.agg #[])) ∧ Below w.heap.size w w' := by
  go_enter Tryd.func72, Tryd.ntmps72
  go_wp2
  go_ret
  exact ⟨rfl, (((((Below.refl _ _).alloc (Nat.le_refl _) _).alloc (by simp) _).alloc (by simp; omega) _).alloc (by simp; omega) _)⟩
set_option maxHeartbeats 400000 in
theorem form2 (a b lo hi : Int) (nm : ByteArray) (w : World) :
    Calls Tryd.prog 72 #[.agg #[.int .i64 2, .int .i64 a, .int .i64 b, .int .i64 lo, .int .i64 hi, .string nm]] w fun e w' => e = .returned (.iface 118 (.agg #[.string nm])) ∧ Below w.heap.size w w' := by
  go_enter Tryd.func72, Tryd.ntmps72
  go_wp2
  go_ret
  exact ⟨rfl, (((((Below.refl _ _).alloc (Nat.le_refl _) _).alloc (by simp) _).alloc (by simp; omega) _).alloc (by simp; omega) _)⟩
set_option maxHeartbeats 400000 in
theorem form3 (a b lo hi : Int) (nm : ByteArray) (w : World) :
    Calls Tryd.prog 72 #[.agg #[.int .i64 3, .int .i64 a, .int .i64 b, .int .i64 lo, .int .i64 hi, .string nm]] w fun e w' => e = .returned (.iface 120 (.agg #[.int .i64 a])) ∧ Below w.heap.size w w' := by
  go_enter Tryd.func72, Tryd.ntmps72
  go_wp2
  go_ret
  exact ⟨rfl, (((((Below.refl _ _).alloc (Nat.le_refl _) _).alloc (by simp) _).alloc (by simp; omega) _).alloc (by simp; omega) _)⟩
set_option maxHeartbeats 400000 in
theorem form4 (a b lo hi : Int) (nm : ByteArray) (w : World) :
    Calls Tryd.prog 72 #[.agg #[.int .i64 4, .int .i64 a, .int .i64 b, .int .i64 lo, .int .i64 hi, .string nm]] w fun e w' => e = .returned (.iface 122 (.agg #[.int .i64 a, .int .i64 b])) ∧ Below w.heap.size w w' := by
  go_enter Tryd.func72, Tryd.ntmps72
  go_wp2
  go_ret
  exact ⟨rfl, (((((Below.refl _ _).alloc (Nat.le_refl _) _).alloc (by simp) _).alloc (by simp; omega) _).alloc (by simp; omega) _)⟩
set_option maxHeartbeats 400000 in
theorem form5 (a b lo hi : Int) (nm : ByteArray) (w : World) :
    Calls Tryd.prog 72 #[.agg #[.int .i64 5, .int .i64 a, .int .i64 b, .int .i64 lo, .int .i64 hi, .string nm]] w fun e w' => e = .returned (.iface 123 (.agg #[.int .i64 a, .int .i64 b])) ∧ Below w.heap.size w w' := by
  go_enter Tryd.func72, Tryd.ntmps72
  go_wp2
  go_ret
  exact ⟨rfl, (((((Below.refl _ _).alloc (Nat.le_refl _) _).alloc (by simp) _).alloc (by simp; omega) _).alloc (by simp; omega) _)⟩
set_option maxHeartbeats 400000 in
theorem form6 (a b lo hi : Int) (nm : ByteArray) (w : World) :
    Calls Tryd.prog 72 #[.agg #[.int .i64 6, .int .i64 a, .int .i64 b, .int .i64 lo, .int .i64 hi, .string nm]] w fun e w' => e = .returned (.iface 125 (.agg #[.int .i64 lo, .int .i64 hi, .int .i64 a])) ∧ Below w.heap.size w w' := by
  go_enter Tryd.func72, Tryd.ntmps72
  go_wp2
  go_ret
  exact ⟨rfl, (((((Below.refl _ _).alloc (Nat.le_refl _) _).alloc (by simp) _).alloc (by simp; omega) _).alloc (by simp; omega) _)⟩
set_option maxHeartbeats 400000 in
theorem form7 (a b lo hi : Int) (nm : ByteArray) (w : World) :
    Calls Tryd.prog 72 #[.agg #[.int .i64 7, .int .i64 a, .int .i64 b, .int .i64 lo, .int .i64 hi, .string nm]] w fun e w' => e = .returned (.iface 126 (.agg #[.int .i64 lo, .int .i64 hi, .int .i64 a])) ∧ Below w.heap.size w w' := by
  go_enter Tryd.func72, Tryd.ntmps72
  go_wp2
  go_ret
  exact ⟨rfl, (((((Below.refl _ _).alloc (Nat.le_refl _) _).alloc (by simp) _).alloc (by simp; omega) _).alloc (by simp; omega) _)⟩
set_option maxHeartbeats 400000 in
theorem form8 (a b lo hi : Int) (nm : ByteArray) (w : World) :
    Calls Tryd.prog 72 #[.agg #[.int .i64 8, .int .i64 a, .int .i64 b, .int .i64 lo, .int .i64 hi, .string nm]] w fun e w' => e = .returned (.iface 127 (.agg #[.int .i64 lo, .int .i64 hi, .int .i64 a])) ∧ Below w.heap.size w w' := by
  go_enter Tryd.func72, Tryd.ntmps72
  go_wp2
  go_ret
  exact ⟨rfl, (((((Below.refl _ _).alloc (Nat.le_refl _) _).alloc (by simp) _).alloc (by simp; omega) _).alloc (by simp; omega) _)⟩
set_option maxHeartbeats 400000 in
theorem form9 (a b lo hi : Int) (nm : ByteArray) (w : World) :
    Calls Tryd.prog 72 #[.agg #[.int .i64 9, .int .i64 a, .int .i64 b, .int .i64 lo, .int .i64 hi, .string nm]] w fun e w' => e = .returned (.iface 129 (.agg #[.int .i64 lo, .int .i64 hi, .int .i64 a, .int .i64 b])) ∧ Below w.heap.size w w' := by
  go_enter Tryd.func72, Tryd.ntmps72
  go_wp2
  go_ret
  exact ⟨rfl, (((((Below.refl _ _).alloc (Nat.le_refl _) _).alloc (by simp) _).alloc (by simp; omega) _).alloc (by simp; omega) _)⟩
set_option maxHeartbeats 400000 in
theorem form_bad (k a b lo hi : Int) (nm : ByteArray) (w : World) (h : isB k 1 9 = false) :
    Calls Tryd.prog 72 #[.agg #[.int .i64 k, .int .i64 a, .int .i64 b, .int .i64 lo, .int .i64 hi, .string nm]] w fun e w' => e = .returned .nilIface ∧ Below w.heap.size w w' := by
  have h' : k < 1 ∨ 9 < k := by simp [isB] at h; omega
  have b1 : (k == 1) = false := by simp; omega
  have b2 : (k == 2) = false := by simp; omega
  have b3 : (k == 3) = false := by simp; omega
  have b4 : (k == 4) = false := by simp; omega
  have b5 : (k == 5) = false := by simp; omega
  have b6 : (k == 6) = false := by simp; omega
  have b7 : (k == 7) = false := by simp; omega
  have b8 : (k == 8) = false := by simp; omega
  have b9 : (k == 9) = false := by simp; omega
  clear h h'
  go_enter Tryd.func72, Tryd.ntmps72
  go_wp2
  go_ret
  exact ⟨rfl, (((((Below.refl _ _).alloc (Nat.le_refl _) _).alloc (by simp) _).alloc (by simp; omega) _).alloc (by simp; omega) _)⟩
end Go.Proofs.YtagklhfejbdkdaaDoor
