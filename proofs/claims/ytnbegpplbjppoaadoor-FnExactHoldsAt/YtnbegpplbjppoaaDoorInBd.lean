/-
  The program's cmp.Compare, compareGap, InBounds by their contracts.
-/
import Derived.Test.YtnbegpplbjppoaaDoorSmP
namespace Go.Proofs.YtnbegpplbjppoaaDoor
open Go.RowKit
set_option linter.unusedVariables false
set_option linter.unusedSimpArgs false
theorem isNaN_any (x : Int) (w : World) : Calls Tryd.prog 65 #[.int .i64 x] w fun e w' => e = .returned (.bool false) ∧ w = w' := by
  have hx : (x != x) = false := by simp
  go_enter Tryd.func65, Tryd.ntmps65
  go_wp2
  go_ret
  exact ⟨ret_bool (by simp), rfl⟩
def cmpI (x y : Int) : Int := if x < y then -1 else if y < x then 1 else 0
theorem compare_any (x y : Int) (w : World) : Calls Tryd.prog 69 #[.int .i64 x, .int .i64 y] w fun e w' => e = .returned (.int .i64 (cmpI x y)) ∧ w = w' := by
  by_cases h1 : x < y
  · have HV : Hid (cmpI x y = -1) := by show cmpI x y = _; simp [cmpI, h1]
    go_enter Tryd.func69, Tryd.ntmps69
    go_wp2_with (go_at_call 65; refine (isNaN_any _ _).mono ?_; rintro e w' ⟨rfl, rfl⟩)
    go_ret
    exact ⟨ret_int HV.out.symm, rfl⟩
  · by_cases h2 : y < x
    · have HV : Hid (cmpI x y = 1) := by show cmpI x y = _; simp [cmpI, h1, h2]
      go_enter Tryd.func69, Tryd.ntmps69
      go_wp2_with (go_at_call 65; refine (isNaN_any _ _).mono ?_; rintro e w' ⟨rfl, rfl⟩)
      go_ret
      exact ⟨ret_int HV.out.symm, rfl⟩
    · have HV : Hid (cmpI x y = 0) := by show cmpI x y = _; simp [cmpI, h1, h2]
      go_enter Tryd.func69, Tryd.ntmps69
      go_wp2_with (go_at_call 65; refine (isNaN_any _ _).mono ?_; rintro e w' ⟨rfl, rfl⟩)
      go_ret
      exact ⟨ret_int HV.out.symm, rfl⟩
theorem gap_any (a b n : Int) (ha : 0 ≤ a ∧ a ≤ 1000000) (hb : 0 ≤ b ∧ b ≤ 1000000) (w : World) : Calls Tryd.prog 68 #[.int .i64 a, .int .i64 b, .int .i64 n] w fun e w' => e = .returned (.int .i64 (cmpI (b - a) n)) ∧ w = w' := by
  obtain ⟨a1, a2⟩ := ha
  obtain ⟨b1, b2⟩ := hb
  by_cases h : a ≤ b
  · have h' : 0 ≤ b - a := by omega
    go_enter Tryd.func68, Tryd.ntmps68
    go_wp2_with (go_at_call 69; refine (compare_any _ _ _).mono ?_; rintro e w' ⟨rfl, rfl⟩)
    go_ret
    exact ⟨rfl, rfl⟩
  · have h' : b - a < 0 := by omega
    go_enter Tryd.func68, Tryd.ntmps68
    go_wp2_with (go_at_call 69; refine (compare_any _ _ _).mono ?_; rintro e w' ⟨rfl, rfl⟩)
    go_ret
    exact ⟨rfl, rfl⟩
theorem cmpI_lt (x y : Int) : cmpI x y < 0 ↔ x < y := by unfold cmpI; split <;> (try split) <;> omega
theorem cmpI_le (x y : Int) : cmpI x y ≤ 0 ↔ x ≤ y := by unfold cmpI; split <;> (try split) <;> omega
set_option maxRecDepth 20000 in
set_option maxHeartbeats 1000000 in
theorem boundsR_any (xk xa xb xlo xhi : Int) (xnm : ByteArray) (a b : Int) (ha : 0 ≤ a ∧ a ≤ 1000000) (hb : 0 ≤ b ∧ b ≤ 1000000) (w : World) : Calls Tryd.prog 67 #[.agg #[.int .i64 xk, .int .i64 xa, .int .i64 xb, .int .i64 xlo, .int .i64 xhi, .string xnm], .int .i64 a, .int .i64 b] w fun e w' => e = .returned (.bool (inB xlo xhi (b - a))) ∧ Below w.heap.size w w' := by
  have HA := hid ha
  have HB := hid hb
  have HL := hid (cmpI_lt (b - a) xlo)
  have HH := hid (cmpI_le (b - a) xhi)
  have HC1 := hid (fun w => gap_any a b xlo ha hb w)
  have HC2 := hid (fun w => gap_any a b xhi ha hb w)
  clear ha hb
  have HV : Hid (inB xlo xhi (b - a) = (decide (xlo ≤ b - a) && (decide (xhi = -1) || decide (b - a ≤ xhi)))) := rfl
  have HB0 := hid ((Below.refl w.heap.size w).alloc (Nat.le_refl _) (.cells #[.int .i64 xk, .int .i64 xa, .int .i64 xb, .int .i64 xlo, .int .i64 xhi, .string xnm] 43))
  generalize cmpI (b - a) xlo = r1 at *
  generalize cmpI (b - a) xhi = r2 at *
  by_cases h1 : r1 < 0
  · go_enter Tryd.func67, Tryd.ntmps67
    go_wp2_with (go_at_call 68; refine (HC1.out _).mono ?_; rintro e w' ⟨rfl, rfl⟩)
    go_ret
    have := HL.out.1 h1
    exact ⟨ret_bool (by rw [HV.out]; simp; omega), HB0.out⟩
  · by_cases h2 : xhi = -1
    · have h2' : (xhi == -1) = true := by simpa using h2
      go_enter Tryd.func67, Tryd.ntmps67
      go_wp2_with (go_at_call 68; refine (HC1.out _).mono ?_; rintro e w' ⟨rfl, rfl⟩)
      go_ret
      have hL := HL.out
      exact ⟨ret_bool (by rw [HV.out, Bool.eq_iff_iff]; simp [h2]; omega), (Below.refl _ _).alloc (Nat.le_refl _) _⟩
    · have h2' : (xhi == -1) = false := by simpa using h2
      have HN := hid h2
      clear h2
      go_enter Tryd.func67, Tryd.ntmps67
      go_wp2_with (first | (go_at_call_of 68 (xlo); refine (HC1.out _).mono ?_; rintro e w' ⟨rfl, rfl⟩) | (go_at_call 68; refine (HC2.out _).mono ?_; rintro e w' ⟨rfl, rfl⟩))
      go_ret
      have hL := HL.out
      have hH := HH.out
      exact ⟨ret_bool (by rw [HV.out, Bool.eq_iff_iff]; simp [HN.out]; omega), HB0.out⟩
end Go.Proofs.YtnbegpplbjppoaaDoor
