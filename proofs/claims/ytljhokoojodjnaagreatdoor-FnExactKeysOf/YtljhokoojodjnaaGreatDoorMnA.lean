/-
  Which kinds keep times; the bare Keep of a node: by their contracts.
-/
import Derived.Test.YtljhokoojodjnaaGreatDoorKpE0
import Derived.Test.YtljhokoojodjnaaGreatDoorForm
namespace Go.Proofs.YtljhokoojodjnaaGreatDoor
open Go.RowKit
set_option linter.unusedVariables false
set_option linter.unusedSimpArgs false
def keepsK (k : Int) : Bool := decide (7 ≤ k ∧ k ≤ 9)
theorem keepsK_is (k : Int) : keepsK k = ((k == 7) || ((k == 8) || (k == 9))) := by
  unfold keepsK
  by_cases h7 : k = 7
  · subst h7; rfl
  · by_cases h8 : k = 8
    · subst h8; rfl
    · by_cases h9 : k = 9
      · subst h9; rfl
      · have h : ¬ (7 ≤ k ∧ k ≤ 9) := by omega
        simp only [h, decide_false]
        simp [h7, h8, h9]
set_option maxHeartbeats 400000 in
theorem keepsS_is (k : Int) (v : Bool) (hv : keepsK k = v) (w : World) : Calls Tryz.prog 116 #[.int .i64 k] w fun e w' => e = .returned (.bool v) ∧ w = w' := by
  rw [keepsK_is] at hv
  have HV := hid hv
  clear hv
  rcases Bool.eq_false_or_eq_true (k == 7) with h7 | h7
  · go_enter Tryz.func116, Tryz.ntmps116
    go_wp2
    go_ret
    exact ⟨ret_bool (by rw [← HV.out, h7]; rfl), rfl⟩
  · rcases Bool.eq_false_or_eq_true (k == 8) with h8 | h8
    · go_enter Tryz.func116, Tryz.ntmps116
      go_wp2
      go_ret
      exact ⟨ret_bool (by rw [← HV.out, h7, h8]; rfl), rfl⟩
    · go_enter Tryz.func116, Tryz.ntmps116
      go_wp2
      go_ret
      exact ⟨ret_bool (by rw [← HV.out, h7, h8]; rfl), rfl⟩
set_option maxHeartbeats 400000 in
theorem keepsI_is (x : Nd) (v : Bool) (hv : keepsK x.k = v) (w : World) : Calls Tryz.prog 162 #[ndV x] w fun e w' => e = .returned (.bool v) ∧ Below w.heap.size w w' := by
  rw [keepsK_is] at hv
  unfold ndV
  have HV := hid hv
  have HB := hid (below_one' w (.cells #[.int .i64 x.k, .int .i64 x.a, .int .i64 x.b, .int .i64 x.lo, .int .i64 x.hi, .string x.nm] 132))
  clear hv
  rcases Bool.eq_false_or_eq_true (x.k == 7) with h7 | h7
  · go_enter Tryz.func162, Tryz.ntmps162
    go_wp2
    go_ret
    exact ⟨ret_bool (by rw [← HV.out, h7]; rfl), HB.out⟩
  · rcases Bool.eq_false_or_eq_true (x.k == 8) with h8 | h8
    · go_enter Tryz.func162, Tryz.ntmps162
      go_wp2
      go_ret
      exact ⟨ret_bool (by rw [← HV.out, h7, h8]; rfl), HB.out⟩
    · go_enter Tryz.func162, Tryz.ntmps162
      go_wp2
      go_ret
      exact ⟨ret_bool (by rw [← HV.out, h7, h8]; rfl), HB.out⟩
/-- The bounds of the bare Keep of a node. -/
def bareLo (x : Nd) : Int := if keepsK x.k then x.lo else 0
def bareHi (x : Nd) : Int := if keepsK x.k then x.hi else 0
theorem bbelow2 (w : World) (o1 o2 : Obj) : Below w.heap.size w ((w.alloc o1).alloc o2) := ((Below.refl w.heap.size w).alloc (Nat.le_refl _) o1).alloc (by simp) o2
theorem bset3 {B : Nat} {a w : World} (h : Below B a w) (q : Nat) (hq : B ≤ q) (x y z : Value) : Below B a (((w.setCell ⟨q, 0, none⟩ x).setCell ⟨q, 1, none⟩ y).setCell ⟨q, 2, none⟩ z) :=
  ((h.setCell (p := ⟨q, 0, none⟩) hq x).setCell (p := ⟨q, 1, none⟩) hq y).setCell (p := ⟨q, 2, none⟩) hq z
set_option maxRecDepth 20000 in
set_option maxHeartbeats 1000000 in
theorem bare_is (x : Nd) (lo hi : Int) (h1 : bareLo x = lo) (h2 : bareHi x = hi) (w : World) : Calls Tryz.prog 132 #[ndV x] w fun e w' => e = .returned (.agg #[.int .i64 lo, .int .i64 hi, .slice none 0 0]) ∧ Below w.heap.size w w' := by
  unfold bareLo at h1
  unfold bareHi at h2
  have HU : Hid (ndV x = .agg #[.int .i64 x.k, .int .i64 x.a, .int .i64 x.b, .int .i64 x.lo, .int .i64 x.hi, .string x.nm]) := rfl
  rw [HU.out]
  have HB0 := hid (bbelow2 w (.cells #[.int .i64 x.k, .int .i64 x.a, .int .i64 x.b, .int .i64 x.lo, .int .i64 x.hi, .string x.nm] 132) (.cells #[.int .i64 0, .int .i64 0, .slice none 0 0] 103))
  rcases Bool.eq_false_or_eq_true (keepsK x.k) with hk | hk
  · simp only [hk, if_true] at h1 h2
    have HC := hid (fun w => keepsI_is x true hk w)
    rw [HU.out] at HC
    subst h1 h2
    clear hk
    go_enter Tryz.func132, Tryz.ntmps132
    go_wp2_with (go_at_call 162; refine (HC.out _).mono ?_; rintro e w1 ⟨rfl, hb⟩; have HB1 := hid (HB0.out.trans (hb.mono (by simp; omega))); obtain ⟨hc, hf⟩ := bcell hb; have hz : w.heap.size + 2 ≤ w1.heap.size := (by have := hb.size; simp at this; omega); clear hb)
    refine bodyPost_ret (v := .agg #[.int .i64 x.lo, .int .i64 x.hi, .slice none 0 0]) (by simp [results, Tryz.results132, go_sem, hc, hf, hz]) rfl ?_
    exact ⟨rfl, bset3 HB1.out _ (by omega) _ _ _⟩
  · simp only [hk, Bool.false_eq_true, if_false] at h1 h2
    have HC := hid (fun w => keepsI_is x false hk w)
    rw [HU.out] at HC
    subst h1 h2
    clear hk
    go_enter Tryz.func132, Tryz.ntmps132
    go_wp2_with (go_at_call 162; refine (HC.out _).mono ?_; rintro e w1 ⟨rfl, hb⟩; have HB1 := hid (HB0.out.trans (hb.mono (by simp; omega))); obtain ⟨hc, hf⟩ := bcell hb; have hz : w.heap.size + 2 ≤ w1.heap.size := (by have := hb.size; simp at this; omega); clear hb)
    refine bodyPost_ret (v := .agg #[.int .i64 0, .int .i64 0, .slice none 0 0]) (by simp [results, Tryz.results132, go_sem, hc, hf, hz]) rfl ?_
    exact ⟨rfl, bset3 HB1.out _ (by omega) _ _ _⟩
end Go.Proofs.YtljhokoojodjnaaGreatDoor
