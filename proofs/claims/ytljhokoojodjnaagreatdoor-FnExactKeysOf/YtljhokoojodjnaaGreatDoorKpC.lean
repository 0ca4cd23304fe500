/-
  KeepRight and KeepMost, the model's and the program's, by one contract.
-/
import Derived.Test.YtljhokoojodjnaaGreatDoorKpB
namespace Go.Proofs.YtljhokoojodjnaaGreatDoor
open Go.RowKit
set_option linter.unusedVariables false
set_option linter.unusedSimpArgs false
/-- A Keep's box. -/
structure KBox (W : World) (q : Nat) (lo hi : Int) (a : Option Addr) (n c : Nat) : Prop where
  lt : q < W.heap.size
  k0 : W.cell? ⟨q, 0, none⟩ = some (.int .i64 lo)
  k1 : W.cell? ⟨q, 1, none⟩ = some (.int .i64 hi)
  k2 : W.cell? ⟨q, 2, none⟩ = some (.slice a n c)
theorem KBox.new (w : World) (lo hi : Int) (a : Option Addr) (n c : Nat) (t : TypeId) : KBox (w.alloc (.cells #[.int .i64 lo, .int .i64 hi, .slice a n c] t)) w.heap.size lo hi a n c :=
  ⟨by simp, by simp [go_sem], by simp [go_sem], by simp [go_sem]⟩
theorem KBox.below {W W' : World} {q : Nat} {lo hi : Int} {a : Option Addr} {n c : Nat} {B : Nat} (h : KBox W q lo hi a n c) (hb : Below B W W') (hq : q < B) : KBox W' q lo hi a n c :=
  ⟨Nat.lt_of_lt_of_le h.lt hb.size, (hb.cell (p := ⟨q, _, none⟩) hq).trans h.k0, (hb.cell (p := ⟨q, _, none⟩) hq).trans h.k1, (hb.cell (p := ⟨q, _, none⟩) hq).trans h.k2⟩
theorem spanB_hi1 {lo hi : Int} (h : spanB lo hi = true) : -1 ≤ hi ∧ hi ≤ 1000 := by have := spanB_parts h; omega
set_option maxRecDepth 20000 in
set_option maxHeartbeats 4000000 in
theorem specKr_any (lo hi : Int) (Z : List Int) (n : Nat) (hn : Z.length = n) (a : Option Addr) (c : Nat) (hl : n ≤ 2000000) (w : World) (hA : ArgI w a Z) :
    Calls Tryz.prog 148 #[kpV lo hi a n c] w fun e w' => e = .returned (.bool (krB lo hi Z)) ∧ Below w.heap.size w w' := by
  unfold kpV
  subst hn
  have HB0 := hid ((Below.refl w.heap.size w).alloc (Nat.le_refl _) (.cells #[.int .i64 lo, .int .i64 hi, .slice a Z.length c] 103))
  have HA := hid (hA.on HB0.out)
  clear hA
  rcases Bool.eq_false_or_eq_true (spanB lo hi) with hs | hs
  rotate_left
  · have HN := hid (krB_span lo hi Z hs)
    go_enter Tryz.func148, Tryz.ntmps148
    go_wp2_with fail
    go_quiet (first | (go_at_call 177; exact Calls.quiet_of_same (specBounds_any _ _ _)))
    go_wp2_with fail
    go_ret
    exact ⟨ret_bool HN.out.symm, below_drewN HB0.out _⟩
  obtain ⟨hh1, hh2⟩ := spanB_hi1 hs
  have HQ := hid (fun w => specMostI_any hi hh1 hh2 w)
  by_cases hm : mostI hi < (Z.length : Int)
  · have HN := hid (krB_most lo hi Z hm)
    go_enter Tryz.func148, Tryz.ntmps148
    go_wp2_with fail
    go_quiet (first | (go_at_call 177; exact Calls.quiet_of_same (specBounds_any _ _ _)) | (go_at_call 178; exact Calls.quiet_of_same (HQ.out _)))
    go_wp2_with fail
    go_ret
    exact ⟨ret_bool HN.out.symm, below_drewN HB0.out _⟩
  have HBX := hid (KBox.new w lo hi a Z.length c 103)
  go_enter Tryz.func148, Tryz.ntmps148
  go_wp2_with fail
  go_quiet (first | (go_at_call 177; exact Calls.quiet_of_same (specBounds_any _ _ _)) | (go_at_call 178; exact Calls.quiet_of_same (HQ.out _)))
  go_wp2_with fail
  have hlz := HBX.out.lt
  generalize w.alloc (.cells #[.int .i64 lo, .int .i64 hi, .slice a Z.length c] 103) = W at *
  go_loopw [3] (fun t wr => ∃ k : Nat, k ≤ Z.length ∧ t = .int .i64 k ∧ riseTo Z k = true ∧ Below W.heap.size W wr) (fun t _ => Z.length - (intOf t).toNat)
  case atStart => exact ⟨0, Nat.zero_le _, rfl, rfl, below_drewN (Below.refl _ _) _⟩
  case round =>
    obtain ⟨k, hk, rfl, hg, hbel⟩ := hrel
    have HG := hid hg
    have HB := hid hbel
    obtain ⟨_, k0, k1, k2⟩ := HBX.out.below hbel hlz
    have hqz := Nat.lt_of_lt_of_le hlz hbel.size
    have hw0 := HB0.out.size
    clear hg hbel
    by_cases hlt : k < Z.length
    · have HS1 := hid (riseTo_succ Z k)
      have HNo := hid (krB_no lo hi Z k hlt)
      rcases HA.out with h0 | ⟨b, off, rfl, hb, hc⟩
      · omega
      have d0 := (HB.out.cell (p := ⟨b, off + k, none⟩) hb).trans (hc k hlt)
      cases k with
      | zero =>
        rw [Nat.add_zero] at d0
        generalize hT : zAt Z 0 = T at *
        clear hT hc
        rcases Bool.eq_false_or_eq_true (timeB T) with ht | ht
        · go_wp2_with fail
          go_quiet ((go_at_call 101; exact Calls.quiet_of_same (specTime_any _ _)))
          go_wp2_with fail
          go_roundw
          case rel => exact ⟨1, by omega, by go_num, by rw [HS1.out, HG.out, ht]; rfl, below_drewN HB.out _⟩
          case measure => simp [intOf]; omega
        · go_wp2_with fail
          go_quiet ((go_at_call 101; exact Calls.quiet_of_same (specTime_any _ _)))
          go_wp2_with fail
          go_ret
          exact ⟨ret_bool (HNo.out (by rw [HS1.out, ht]; simp)).symm, HB0.out.trans (below_drewN (HB.out.mono hw0) _)⟩
      | succ j =>
        have d1 := (HB.out.cell (p := ⟨b, off + j, none⟩) hb).trans (hc j (by omega))
        simp only [Nat.add_sub_cancel] at HS1
        generalize hT : zAt Z (j + 1) = T at *
        generalize hU : zAt Z j = U at *
        clear hT hU hc
        rcases Bool.eq_false_or_eq_true (timeB T) with ht | ht <;> rcases Bool.eq_false_or_eq_true (decide (U < T)) with hx | hx
        · have hx' : decide (T ≤ U) = false := by simp at hx ⊢; omega
          go_wp2_with fail
          go_quiet ((go_at_call 101; exact Calls.quiet_of_same (specTime_any _ _)))
          go_wp2_with fail
          go_roundw
          case rel => exact ⟨j + 2, by omega, by go_num, by rw [HS1.out, HG.out, ht, hx]; simp, below_drewN HB.out _⟩
          case measure => simp [intOf]; omega
        all_goals
          have hx' : decide (T ≤ U) = !(decide (U < T)) := by by_cases h : U < T <;> simp [h] <;> omega
          rw [hx] at hx'
          simp only [Bool.not_true, Bool.not_false] at hx'
          go_wp2_with fail
          go_quiet ((go_at_call 101; exact Calls.quiet_of_same (specTime_any _ _)))
          go_wp2_with fail
          go_ret
          exact ⟨ret_bool (HNo.out (by rw [HS1.out]; simp [ht, hx])).symm, HB0.out.trans (below_drewN (HB.out.mono hw0) _)⟩
    · have hk' : k = Z.length := by omega
      subst hk'
      have HN := hid (krB_yes lo hi Z hs (by omega) HG.out)
      go_wp2_with fail
      go_ret
      exact ⟨ret_bool HN.out.symm, HB0.out.trans (HB.out.mono hw0)⟩
end Go.Proofs.YtljhokoojodjnaaGreatDoor
