/-
  One node: the program's nodeRight, kind by kind.
-/
import Derived.Test.YtagklhfejbdkdaaDoorNrBase
namespace Go.Proofs.YtagklhfejbdkdaaDoor
open Go.RowKit
set_option linter.unusedVariables false
set_option linter.unusedSimpArgs false
set_option maxRecDepth 20000 in
set_option maxHeartbeats 1000000 in
theorem nrN1 (a b lo hi : Int) (nm : ByteArray) (i : Nat) (w : World) (hx : ((1, 0, 0, 0, 0, (⟨#[]⟩ : ByteArray)) : Nd) ≠ ((1, a, b, lo, hi, nm) : Nd)) :
    Calls Tryd.prog 68 #[.agg #[.int .i64 1, .int .i64 a, .int .i64 b, .int .i64 lo, .int .i64 hi, .string nm], .int .i64 i] w fun e w' => e = .returned (.bool false) ∧ Below w.heap.size w w' := by
  have hnil := fnil1
  have hme := meth1 a b lo hi nm
  have hne : ∀ w, Sem.run Tryd.prog (binOp .neq 46 (.agg #[.int .i64 1, .int .i64 0, .int .i64 0, .int .i64 0, .int .i64 0, .string ⟨#[]⟩]) (.agg #[.int .i64 1, .int .i64 a, .int .i64 b, .int .i64 lo, .int .i64 hi, .string nm])) w = .ok (.bool true) w := fun w => by
    have := neq_node ((1, 0, 0, 0, 0, (⟨#[]⟩ : ByteArray)) : Nd) ((1, a, b, lo, hi, nm) : Nd) w
    rw [decide_eq_false hx] at this
    exact this
  clear hx
  have HBX := hide (box_node w ((1, a, b, lo, hi, nm) : Nd) 46)
  go_enter Tryd.func68, Tryd.ntmps68
  go_wp2_with (go_at_call 72; refine (form1 _ _ _ _ _ _).mono ?_; rintro e w1 ⟨rfl, hb1⟩; have hsz : w.heap.size < w1.heap.size := (by have := hb1.size; simp at this; omega); have HN1 := hide (HBX.out.below hb1 (by simp)); obtain ⟨c0, c1, c2, c3, c4, c5⟩ := HN1.out.zero; have HB1 : Hid (Below w.heap.size w w1) := ((Below.refl _ _).alloc (Nat.le_refl _) _).trans (hb1.mono (by simp)); clear hb1)
  go_region_with (go_at_call 99; refine (nodeM1 a b lo hi nm _).mono ?_; rintro e w2 ⟨rfl, hb2⟩; have HB2 : Hid (Below w1.heap.size w1 w2) := ⟨hb2.os, hb2.tape, hb2.output, hb2.size, hb2.block⟩; have HN2 := hide (HN1.out.below HB2.out hsz); obtain ⟨d0, d1, d2, d3, d4, d5⟩ := HN2.out.zero; clear hb2)
  all_goals
    go_wp2
    go_ret
    exact ⟨rfl, HB1.out.trans (HB2.out.mono (by omega))⟩
set_option maxRecDepth 20000 in
set_option maxHeartbeats 1000000 in
theorem nrN2 (a b lo hi : Int) (nm : ByteArray) (i : Nat) (w : World) (hx : ((2, 0, 0, 0, 0, nm) : Nd) ≠ ((2, a, b, lo, hi, nm) : Nd)) :
    Calls Tryd.prog 68 #[.agg #[.int .i64 2, .int .i64 a, .int .i64 b, .int .i64 lo, .int .i64 hi, .string nm], .int .i64 i] w fun e w' => e = .returned (.bool false) ∧ Below w.heap.size w w' := by
  have hnil := fnil2
  have hme := meth2 a b lo hi nm
  have hne : ∀ w, Sem.run Tryd.prog (binOp .neq 46 (.agg #[.int .i64 2, .int .i64 0, .int .i64 0, .int .i64 0, .int .i64 0, .string nm]) (.agg #[.int .i64 2, .int .i64 a, .int .i64 b, .int .i64 lo, .int .i64 hi, .string nm])) w = .ok (.bool true) w := fun w => by
    have := neq_node ((2, 0, 0, 0, 0, nm) : Nd) ((2, a, b, lo, hi, nm) : Nd) w
    rw [decide_eq_false hx] at this
    exact this
  clear hx
  have HBX := hide (box_node w ((2, a, b, lo, hi, nm) : Nd) 46)
  go_enter Tryd.func68, Tryd.ntmps68
  go_wp2_with (go_at_call 72; refine (form2 _ _ _ _ _ _).mono ?_; rintro e w1 ⟨rfl, hb1⟩; have hsz : w.heap.size < w1.heap.size := (by have := hb1.size; simp at this; omega); have HN1 := hide (HBX.out.below hb1 (by simp)); obtain ⟨c0, c1, c2, c3, c4, c5⟩ := HN1.out.zero; have HB1 : Hid (Below w.heap.size w w1) := ((Below.refl _ _).alloc (Nat.le_refl _) _).trans (hb1.mono (by simp)); clear hb1)
  go_region_with (go_at_call 100; refine (nodeM2 a b lo hi _ _).mono ?_; rintro e w2 ⟨rfl, hb2⟩; have HB2 : Hid (Below w1.heap.size w1 w2) := ⟨hb2.os, hb2.tape, hb2.output, hb2.size, hb2.block⟩; have HN2 := hide (HN1.out.below HB2.out hsz); obtain ⟨d0, d1, d2, d3, d4, d5⟩ := HN2.out.zero; clear hb2)
  all_goals
    go_wp2
    go_ret
    exact ⟨rfl, HB1.out.trans (HB2.out.mono (by omega))⟩
set_option maxRecDepth 20000 in
set_option maxHeartbeats 1000000 in
theorem nrN3 (a b lo hi : Int) (nm : ByteArray) (i : Nat) (w : World) (hx : ((3, a, 0, 0, 0, (⟨#[]⟩ : ByteArray)) : Nd) ≠ ((3, a, b, lo, hi, nm) : Nd)) :
    Calls Tryd.prog 68 #[.agg #[.int .i64 3, .int .i64 a, .int .i64 b, .int .i64 lo, .int .i64 hi, .string nm], .int .i64 i] w fun e w' => e = .returned (.bool false) ∧ Below w.heap.size w w' := by
  have hnil := fnil3
  have hme := meth3 a b lo hi nm
  have hne : ∀ w, Sem.run Tryd.prog (binOp .neq 46 (.agg #[.int .i64 3, .int .i64 a, .int .i64 0, .int .i64 0, .int .i64 0, .string ⟨#[]⟩]) (.agg #[.int .i64 3, .int .i64 a, .int .i64 b, .int .i64 lo, .int .i64 hi, .string nm])) w = .ok (.bool true) w := fun w => by
    have := neq_node ((3, a, 0, 0, 0, (⟨#[]⟩ : ByteArray)) : Nd) ((3, a, b, lo, hi, nm) : Nd) w
    rw [decide_eq_false hx] at this
    exact this
  clear hx
  have HBX := hide (box_node w ((3, a, b, lo, hi, nm) : Nd) 46)
  go_enter Tryd.func68, Tryd.ntmps68
  go_wp2_with (go_at_call 72; refine (form3 _ _ _ _ _ _).mono ?_; rintro e w1 ⟨rfl, hb1⟩; have hsz : w.heap.size < w1.heap.size := (by have := hb1.size; simp at this; omega); have HN1 := hide (HBX.out.below hb1 (by simp)); obtain ⟨c0, c1, c2, c3, c4, c5⟩ := HN1.out.zero; have HB1 : Hid (Below w.heap.size w w1) := ((Below.refl _ _).alloc (Nat.le_refl _) _).trans (hb1.mono (by simp)); clear hb1)
  go_region_with (go_at_call 101; refine (nodeM3 _ b lo hi nm _).mono ?_; rintro e w2 ⟨rfl, hb2⟩; have HB2 : Hid (Below w1.heap.size w1 w2) := ⟨hb2.os, hb2.tape, hb2.output, hb2.size, hb2.block⟩; have HN2 := hide (HN1.out.below HB2.out hsz); obtain ⟨d0, d1, d2, d3, d4, d5⟩ := HN2.out.zero; clear hb2)
  all_goals
    go_wp2
    go_ret
    exact ⟨rfl, HB1.out.trans (HB2.out.mono (by omega))⟩
set_option maxRecDepth 20000 in
set_option maxHeartbeats 1000000 in
theorem nrN4 (a b lo hi : Int) (nm : ByteArray) (i : Nat) (w : World) (hx : ((4, a, b, 0, 0, (⟨#[]⟩ : ByteArray)) : Nd) ≠ ((4, a, b, lo, hi, nm) : Nd)) :
    Calls Tryd.prog 68 #[.agg #[.int .i64 4, .int .i64 a, .int .i64 b, .int .i64 lo, .int .i64 hi, .string nm], .int .i64 i] w fun e w' => e = .returned (.bool false) ∧ Below w.heap.size w w' := by
  have hnil := fnil4
  have hme := meth4 a b lo hi nm
  have hne : ∀ w, Sem.run Tryd.prog (binOp .neq 46 (.agg #[.int .i64 4, .int .i64 a, .int .i64 b, .int .i64 0, .int .i64 0, .string ⟨#[]⟩]) (.agg #[.int .i64 4, .int .i64 a, .int .i64 b, .int .i64 lo, .int .i64 hi, .string nm])) w = .ok (.bool true) w := fun w => by
    have := neq_node ((4, a, b, 0, 0, (⟨#[]⟩ : ByteArray)) : Nd) ((4, a, b, lo, hi, nm) : Nd) w
    rw [decide_eq_false hx] at this
    exact this
  clear hx
  have HBX := hide (box_node w ((4, a, b, lo, hi, nm) : Nd) 46)
  go_enter Tryd.func68, Tryd.ntmps68
  go_wp2_with (go_at_call 72; refine (form4 _ _ _ _ _ _).mono ?_; rintro e w1 ⟨rfl, hb1⟩; have hsz : w.heap.size < w1.heap.size := (by have := hb1.size; simp at this; omega); have HN1 := hide (HBX.out.below hb1 (by simp)); obtain ⟨c0, c1, c2, c3, c4, c5⟩ := HN1.out.zero; have HB1 : Hid (Below w.heap.size w w1) := ((Below.refl _ _).alloc (Nat.le_refl _) _).trans (hb1.mono (by simp)); clear hb1)
  go_region_with (go_at_call 102; refine (nodeM4 _ _ lo hi nm _).mono ?_; rintro e w2 ⟨rfl, hb2⟩; have HB2 : Hid (Below w1.heap.size w1 w2) := ⟨hb2.os, hb2.tape, hb2.output, hb2.size, hb2.block⟩; have HN2 := hide (HN1.out.below HB2.out hsz); obtain ⟨d0, d1, d2, d3, d4, d5⟩ := HN2.out.zero; clear hb2)
  all_goals
    go_wp2
    go_ret
    exact ⟨rfl, HB1.out.trans (HB2.out.mono (by omega))⟩
set_option maxRecDepth 20000 in
set_option maxHeartbeats 1000000 in
theorem nrN5 (a b lo hi : Int) (nm : ByteArray) (i : Nat) (w : World) (hx : ((5, a, b, 0, 0, (⟨#[]⟩ : ByteArray)) : Nd) ≠ ((5, a, b, lo, hi, nm) : Nd)) :
    Calls Tryd.prog 68 #[.agg #[.int .i64 5, .int .i64 a, .int .i64 b, .int .i64 lo, .int .i64 hi, .string nm], .int .i64 i] w fun e w' => e = .returned (.bool false) ∧ Below w.heap.size w w' := by
  have hnil := fnil5
  have hme := meth5 a b lo hi nm
  have hne : ∀ w, Sem.run Tryd.prog (binOp .neq 46 (.agg #[.int .i64 5, .int .i64 a, .int .i64 b, .int .i64 0, .int .i64 0, .string ⟨#[]⟩]) (.agg #[.int .i64 5, .int .i64 a, .int .i64 b, .int .i64 lo, .int .i64 hi, .string nm])) w = .ok (.bool true) w := fun w => by
    have := neq_node ((5, a, b, 0, 0, (⟨#[]⟩ : ByteArray)) : Nd) ((5, a, b, lo, hi, nm) : Nd) w
    rw [decide_eq_false hx] at this
    exact this
  clear hx
  have HBX := hide (box_node w ((5, a, b, lo, hi, nm) : Nd) 46)
  go_enter Tryd.func68, Tryd.ntmps68
  go_wp2_with (go_at_call 72; refine (form5 _ _ _ _ _ _).mono ?_; rintro e w1 ⟨rfl, hb1⟩; have hsz : w.heap.size < w1.heap.size := (by have := hb1.size; simp at this; omega); have HN1 := hide (HBX.out.below hb1 (by simp)); obtain ⟨c0, c1, c2, c3, c4, c5⟩ := HN1.out.zero; have HB1 : Hid (Below w.heap.size w w1) := ((Below.refl _ _).alloc (Nat.le_refl _) _).trans (hb1.mono (by simp)); clear hb1)
  go_region_with (go_at_call 103; refine (nodeM5 _ _ lo hi nm _).mono ?_; rintro e w2 ⟨rfl, hb2⟩; have HB2 : Hid (Below w1.heap.size w1 w2) := ⟨hb2.os, hb2.tape, hb2.output, hb2.size, hb2.block⟩; have HN2 := hide (HN1.out.below HB2.out hsz); obtain ⟨d0, d1, d2, d3, d4, d5⟩ := HN2.out.zero; clear hb2)
  all_goals
    go_wp2
    go_ret
    exact ⟨rfl, HB1.out.trans (HB2.out.mono (by omega))⟩
set_option maxRecDepth 20000 in
set_option maxHeartbeats 1000000 in
theorem nrN6 (a b lo hi : Int) (nm : ByteArray) (i : Nat) (w : World) (hx : ((6, a, 0, lo, hi, (⟨#[]⟩ : ByteArray)) : Nd) ≠ ((6, a, b, lo, hi, nm) : Nd)) :
    Calls Tryd.prog 68 #[.agg #[.int .i64 6, .int .i64 a, .int .i64 b, .int .i64 lo, .int .i64 hi, .string nm], .int .i64 i] w fun e w' => e = .returned (.bool false) ∧ Below w.heap.size w w' := by
  have hnil := fnil6
  have hme := meth6 a b lo hi nm
  have hne : ∀ w, Sem.run Tryd.prog (binOp .neq 46 (.agg #[.int .i64 6, .int .i64 a, .int .i64 0, .int .i64 lo, .int .i64 hi, .string ⟨#[]⟩]) (.agg #[.int .i64 6, .int .i64 a, .int .i64 b, .int .i64 lo, .int .i64 hi, .string nm])) w = .ok (.bool true) w := fun w => by
    have := neq_node ((6, a, 0, lo, hi, (⟨#[]⟩ : ByteArray)) : Nd) ((6, a, b, lo, hi, nm) : Nd) w
    rw [decide_eq_false hx] at this
    exact this
  clear hx
  have HBX := hide (box_node w ((6, a, b, lo, hi, nm) : Nd) 46)
  go_enter Tryd.func68, Tryd.ntmps68
  go_wp2_with (go_at_call 72; refine (form6 _ _ _ _ _ _).mono ?_; rintro e w1 ⟨rfl, hb1⟩; have hsz : w.heap.size < w1.heap.size := (by have := hb1.size; simp at this; omega); have HN1 := hide (HBX.out.below hb1 (by simp)); obtain ⟨c0, c1, c2, c3, c4, c5⟩ := HN1.out.zero; have HB1 : Hid (Below w.heap.size w w1) := ((Below.refl _ _).alloc (Nat.le_refl _) _).trans (hb1.mono (by simp)); clear hb1)
  go_region_with (go_at_call 104; refine (nodeM6 _ b _ _ nm _).mono ?_; rintro e w2 ⟨rfl, hb2⟩; have HB2 : Hid (Below w1.heap.size w1 w2) := ⟨hb2.os, hb2.tape, hb2.output, hb2.size, hb2.block⟩; have HN2 := hide (HN1.out.below HB2.out hsz); obtain ⟨d0, d1, d2, d3, d4, d5⟩ := HN2.out.zero; clear hb2)
  all_goals
    go_wp2
    go_ret
    exact ⟨rfl, HB1.out.trans (HB2.out.mono (by omega))⟩
set_option maxRecDepth 20000 in
set_option maxHeartbeats 1000000 in
theorem nrN7 (a b lo hi : Int) (nm : ByteArray) (i : Nat) (w : World) (hx : ((7, a, 0, lo, hi, (⟨#[]⟩ : ByteArray)) : Nd) ≠ ((7, a, b, lo, hi, nm) : Nd)) :
    Calls Tryd.prog 68 #[.agg #[.int .i64 7, .int .i64 a, .int .i64 b, .int .i64 lo, .int .i64 hi, .string nm], .int .i64 i] w fun e w' => e = .returned (.bool false) ∧ Below w.heap.size w w' := by
  have hnil := fnil7
  have hme := meth7 a b lo hi nm
  have hne : ∀ w, Sem.run Tryd.prog (binOp .neq 46 (.agg #[.int .i64 7, .int .i64 a, .int .i64 0, .int .i64 lo, .int .i64 hi, .string ⟨#[]⟩]) (.agg #[.int .i64 7, .int .i64 a, .int .i64 b, .int .i64 lo, .int .i64 hi, .string nm])) w = .ok (.bool true) w := fun w => by
    have := neq_node ((7, a, 0, lo, hi, (⟨#[]⟩ : ByteArray)) : Nd) ((7, a, b, lo, hi, nm) : Nd) w
    rw [decide_eq_false hx] at this
    exact this
  clear hx
  have HBX := hide (box_node w ((7, a, b, lo, hi, nm) : Nd) 46)
  go_enter Tryd.func68, Tryd.ntmps68
  go_wp2_with (go_at_call 72; refine (form7 _ _ _ _ _ _).mono ?_; rintro e w1 ⟨rfl, hb1⟩; have hsz : w.heap.size < w1.heap.size := (by have := hb1.size; simp at this; omega); have HN1 := hide (HBX.out.below hb1 (by simp)); obtain ⟨c0, c1, c2, c3, c4, c5⟩ := HN1.out.zero; have HB1 : Hid (Below w.heap.size w w1) := ((Below.refl _ _).alloc (Nat.le_refl _) _).trans (hb1.mono (by simp)); clear hb1)
  go_region_with (go_at_call 105; refine (nodeM7 _ b _ _ nm _).mono ?_; rintro e w2 ⟨rfl, hb2⟩; have HB2 : Hid (Below w1.heap.size w1 w2) := ⟨hb2.os, hb2.tape, hb2.output, hb2.size, hb2.block⟩; have HN2 := hide (HN1.out.below HB2.out hsz); obtain ⟨d0, d1, d2, d3, d4, d5⟩ := HN2.out.zero; clear hb2)
  all_goals
    go_wp2
    go_ret
    exact ⟨rfl, HB1.out.trans (HB2.out.mono (by omega))⟩
set_option maxRecDepth 20000 in
set_option maxHeartbeats 1000000 in
theorem nrN8 (a b lo hi : Int) (nm : ByteArray) (i : Nat) (w : World) (hx : ((8, a, 0, lo, hi, (⟨#[]⟩ : ByteArray)) : Nd) ≠ ((8, a, b, lo, hi, nm) : Nd)) :
    Calls Tryd.prog 68 #[.agg #[.int .i64 8, .int .i64 a, .int .i64 b, .int .i64 lo, .int .i64 hi, .string nm], .int .i64 i] w fun e w' => e = .returned (.bool false) ∧ Below w.heap.size w w' := by
  have hnil := fnil8
  have hme := meth8 a b lo hi nm
  have hne : ∀ w, Sem.run Tryd.prog (binOp .neq 46 (.agg #[.int .i64 8, .int .i64 a, .int .i64 0, .int .i64 lo, .int .i64 hi, .string ⟨#[]⟩]) (.agg #[.int .i64 8, .int .i64 a, .int .i64 b, .int .i64 lo, .int .i64 hi, .string nm])) w = .ok (.bool true) w := fun w => by
    have := neq_node ((8, a, 0, lo, hi, (⟨#[]⟩ : ByteArray)) : Nd) ((8, a, b, lo, hi, nm) : Nd) w
    rw [decide_eq_false hx] at this
    exact this
  clear hx
  have HBX := hide (box_node w ((8, a, b, lo, hi, nm) : Nd) 46)
  go_enter Tryd.func68, Tryd.ntmps68
  go_wp2_with (go_at_call 72; refine (form8 _ _ _ _ _ _).mono ?_; rintro e w1 ⟨rfl, hb1⟩; have hsz : w.heap.size < w1.heap.size := (by have := hb1.size; simp at this; omega); have HN1 := hide (HBX.out.below hb1 (by simp)); obtain ⟨c0, c1, c2, c3, c4, c5⟩ := HN1.out.zero; have HB1 : Hid (Below w.heap.size w w1) := ((Below.refl _ _).alloc (Nat.le_refl _) _).trans (hb1.mono (by simp)); clear hb1)
  go_region_with (go_at_call 106; refine (nodeM8 _ b _ _ nm _).mono ?_; rintro e w2 ⟨rfl, hb2⟩; have HB2 : Hid (Below w1.heap.size w1 w2) := ⟨hb2.os, hb2.tape, hb2.output, hb2.size, hb2.block⟩; have HN2 := hide (HN1.out.below HB2.out hsz); obtain ⟨d0, d1, d2, d3, d4, d5⟩ := HN2.out.zero; clear hb2)
  all_goals
    go_wp2
    go_ret
    exact ⟨rfl, HB1.out.trans (HB2.out.mono (by omega))⟩
set_option maxRecDepth 20000 in
set_option maxHeartbeats 1000000 in
theorem nrN9 (a b lo hi : Int) (nm : ByteArray) (i : Nat) (w : World) (hx : ((9, a, b, lo, hi, (⟨#[]⟩ : ByteArray)) : Nd) ≠ ((9, a, b, lo, hi, nm) : Nd)) :
    Calls Tryd.prog 68 #[.agg #[.int .i64 9, .int .i64 a, .int .i64 b, .int .i64 lo, .int .i64 hi, .string nm], .int .i64 i] w fun e w' => e = .returned (.bool false) ∧ Below w.heap.size w w' := by
  have hnil := fnil9
  have hme := meth9 a b lo hi nm
  have hne : ∀ w, Sem.run Tryd.prog (binOp .neq 46 (.agg #[.int .i64 9, .int .i64 a, .int .i64 b, .int .i64 lo, .int .i64 hi, .string ⟨#[]⟩]) (.agg #[.int .i64 9, .int .i64 a, .int .i64 b, .int .i64 lo, .int .i64 hi, .string nm])) w = .ok (.bool true) w := fun w => by
    have := neq_node ((9, a, b, lo, hi, (⟨#[]⟩ : ByteArray)) : Nd) ((9, a, b, lo, hi, nm) : Nd) w
    rw [decide_eq_false hx] at this
    exact this
  clear hx
  have HBX := hide (box_node w ((9, a, b, lo, hi, nm) : Nd) 46)
  go_enter Tryd.func68, Tryd.ntmps68
  go_wp2_with (go_at_call 72; refine (form9 _ _ _ _ _ _).mono ?_; rintro e w1 ⟨rfl, hb1⟩; have hsz : w.heap.size < w1.heap.size := (by have := hb1.size; simp at this; omega); have HN1 := hide (HBX.out.below hb1 (by simp)); obtain ⟨c0, c1, c2, c3, c4, c5⟩ := HN1.out.zero; have HB1 : Hid (Below w.heap.size w w1) := ((Below.refl _ _).alloc (Nat.le_refl _) _).trans (hb1.mono (by simp)); clear hb1)
  go_region_with (go_at_call 107; refine (nodeM9 _ _ _ _ nm _).mono ?_; rintro e w2 ⟨rfl, hb2⟩; have HB2 : Hid (Below w1.heap.size w1 w2) := ⟨hb2.os, hb2.tape, hb2.output, hb2.size, hb2.block⟩; have HN2 := hide (HN1.out.below HB2.out hsz); obtain ⟨d0, d1, d2, d3, d4, d5⟩ := HN2.out.zero; clear hb2)
  all_goals
    go_wp2
    go_ret
    exact ⟨rfl, HB1.out.trans (HB2.out.mono (by omega))⟩
end Go.Proofs.YtagklhfejbdkdaaDoor
