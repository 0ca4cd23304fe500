/-
  The program's KeepRight; KeepMost, the model's and the program's; by one contract.
-/
import Derived.Test.YtljhokoojodjnaaGreatDoorKpC
import Derived.Lib.QuietBelow
namespace Go.Proofs.YtljhokoojodjnaaGreatDoor
open Go.RowKit
set_option linter.unusedVariables false
set_option linter.unusedSimpArgs false
theorem right_is (lo hi : Int) (v : Bool) (hv : spanB lo hi = v) (w : World) : Calls Tryz.prog 145 #[.agg #[.int .i64 lo, .int .i64 hi]] w fun e w' => e = .returned (.bool v) ∧ Below w.heap.size w w' := by
  subst hv; exact right_any lo hi w
theorem mostT_is (hi : Int) (h1 : -1 ≤ hi) (h2 : hi ≤ 1000) (w : World) : Calls Tryz.prog 188 #[.int .i64 hi] w fun e w' => e = .returned (.int .i64 (mostI hi)) ∧ Below w.heap.size w w' :=
  (implMostI_any hi h1 h2 w).mono (by rintro e w' ⟨rfl, rfl⟩; exact ⟨rfl, Below.refl _ _⟩)
def kmI (lo hi : Int) (Z : List Int) : Int := if krB lo hi Z then mostI hi else -1
structure SBox (W : World) (q : Nat) (lo hi : Int) : Prop where
  lt : q < W.heap.size
  s0 : W.cell? ⟨q, 0, none⟩ = some (.int .i64 lo)
  s1 : W.cell? ⟨q, 1, none⟩ = some (.int .i64 hi)
set_option maxRecDepth 20000 in
set_option maxHeartbeats 4000000 in
theorem implKr_any (lo hi : Int) (Z : List Int) (n : Nat) (hn : Z.length = n) (a : Option Addr) (c : Nat) (hl : n ≤ 2000000) (w : World) (hA : ArgI w a Z) :
    Calls Tryz.prog 163 #[kpV lo hi a n c] w fun e w' => e = .returned (.bool (krB lo hi Z)) ∧ Below w.heap.size w w' := by
  unfold kpV
  subst hn
  have HB0 := hid (((Below.refl w.heap.size w).alloc (Nat.le_refl _) (.cells #[.int .i64 lo, .int .i64 hi, .slice a Z.length c] 103)).alloc (by simp) (.cells #[.int .i64 lo, .int .i64 hi] 195))
  have HA := hid (hA.on HB0.out)
  have HBX : Hid (KBox ((w.alloc (.cells #[.int .i64 lo, .int .i64 hi, .slice a Z.length c] 103)).alloc (.cells #[.int .i64 lo, .int .i64 hi] 195)) w.heap.size lo hi a Z.length c) := (KBox.new w lo hi a Z.length c 103).below ((Below.refl _ _).alloc (Nat.le_refl _) _) (by simp)
  have HSX : Hid (SBox ((w.alloc (.cells #[.int .i64 lo, .int .i64 hi, .slice a Z.length c] 103)).alloc (.cells #[.int .i64 lo, .int .i64 hi] 195)) (w.heap.size + 1) lo hi) := by
    have e : w.heap.size + 1 = (w.alloc (.cells #[.int .i64 lo, .int .i64 hi, .slice a Z.length c] 103)).heap.size := by simp
    rw [e]
    exact ⟨by simp, by simp [go_sem], by simp [go_sem]⟩
  clear hA
  go_enter Tryz.func163, Tryz.ntmps163
  go_wp2_with fail
  have hlz := HBX.out.lt
  generalize (w.alloc (.cells #[.int .i64 lo, .int .i64 hi, .slice a Z.length c] 103)).alloc (.cells #[.int .i64 lo, .int .i64 hi] 195) = W at *
  have e0 := cell_regrown HBX.out.k0
  have e1 := cell_regrown HBX.out.k1
  have e2 := cell_regrown HBX.out.k2
  have s0 := cell_regrown HSX.out.s0
  have s1 := cell_regrown HSX.out.s1
  have hw0 := HB0.out.size
  rcases Bool.eq_false_or_eq_true (spanB lo hi) with hs | hs
  rotate_left
  · have HN := hid (krB_span lo hi Z hs)
    have HC := hid (fun d os => Calls.regrown_of (right_is lo hi false hs (Sort.grow (redrawn W d) os)))
    clear hs
    refine wp_region_quiet_below (by kernel_rfl) (by kernel_rfl) ?_
    repeat (go_big_quiet_step (exact HC.out _ _))
    refine wpQuiet_nil ?_
    intro _ hw'
    obtain ⟨⟨dq, osq⟩, hw''⟩ := hw'
    subst hw''
    go_wp2_with fail
    go_ret
    exact ⟨ret_bool HN.out.symm, HB0.out.trans ((below_regrown W dq osq).mono hw0)⟩
  obtain ⟨hh1, hh2⟩ := spanB_hi1 hs
  have HC := hid (fun d os => Calls.regrown_of (right_is lo hi true hs (Sort.grow (redrawn W d) os)))
  have HQ := hid (fun d os => Calls.regrown_of (mostT_is hi hh1 hh2 (Sort.grow (redrawn W d) os)))
  have HSp := hid hs
  clear hs
  by_cases hm : mostI hi < (Z.length : Int)
  · have HN := hid (krB_most lo hi Z hm)
    refine wp_region_quiet_below (by kernel_rfl) (by kernel_rfl) ?_
    repeat (go_big_quiet_step (first | exact HC.out _ _ | exact HQ.out _ _))
    refine wpQuiet_nil ?_
    intro _ hw'
    obtain ⟨⟨dq, osq⟩, hw''⟩ := hw'
    subst hw''
    go_wp2_with fail
    go_ret
    exact ⟨ret_bool HN.out.symm, HB0.out.trans ((below_regrown W dq osq).mono hw0)⟩
  refine wp_region_quiet_below (by kernel_rfl) (by kernel_rfl) ?_
  repeat (go_big_quiet_step (first | exact HC.out _ _ | exact HQ.out _ _))
  refine wpQuiet_nil ?_
  intro _ hw'
  obtain ⟨⟨dq, osq⟩, hw''⟩ := hw'
  subst hw''
  have HBr := hid (below_regrown W dq osq)
  have hbz := HBr.out.size
  have HA1 := hid (HA.out.on HBr.out)
  obtain ⟨_, k0, k1, k2⟩ := HBX.out.below HBr.out hlz
  clear e0 e1 e2 s0 s1 HC HQ
  generalize Sort.grow (redrawn W dq) osq = V at *
  go_wp2_with fail
  go_loopw [4, 27] (fun p t wr => ∃ k : Nat, k ≤ Z.length ∧ t = .int .i64 k ∧ p = .int .i64 (if k = 0 then -1 else zAt Z (k - 1)) ∧ riseTo Z k = true ∧ Below V.heap.size V wr) (fun _ t _ => Z.length - (intOf t).toNat)
  case atStart => exact ⟨0, Nat.zero_le _, rfl, rfl, rfl, Below.refl _ _⟩
  case round =>
    obtain ⟨k, hk, rfl, rfl, hg, hbel⟩ := hrel
    have HG := hid hg
    have HB := hid hbel
    have HBE := hid (HB0.out.trans ((HBr.out.mono hw0).trans (hbel.mono (by omega))))
    clear hg hbel
    by_cases hlt : k < Z.length
    · have HS1 := hid (riseTo_succ Z k)
      have HNo := hid (krB_no lo hi Z k hlt)
      rcases HA1.out with h0 | ⟨b, off, rfl, hb, hc⟩
      · omega
      have d0 := (HB.out.cell (p := ⟨b, off + k, none⟩) hb).trans (hc k hlt)
      clear hc
      have HP : Hid ((k == 0 || decide (zAt Z (k - 1) < zAt Z k)) = decide ((if k = 0 then -1 else zAt Z (k - 1)) < zAt Z k) ∨ timeB (zAt Z k) = false) := by
        show _ ∨ _
        by_cases h : k = 0
        · subst h
          rcases Bool.eq_false_or_eq_true (timeB (zAt Z 0)) with h | h
          · left
            simp [timeB] at h ⊢
            omega
          · exact Or.inr h
        · left
          simp [h]
      generalize hP : (if k = 0 then -1 else zAt Z (k - 1)) = P at *
      generalize hT : zAt Z k = T at *
      have HT := hid hT
      clear hP hT
      rcases Bool.eq_false_or_eq_true (timeB T) with ht | ht
      · by_cases hx : T ≤ P
        · go_wp2_with (go_at_call 92; refine (implTime_any _ _).mono ?_; rintro e w' ⟨rfl, rfl⟩)
          go_ret
          exact ⟨ret_bool (HNo.out (by rw [HS1.out, HP.out.resolve_right (by rw [ht]; simp)]; simp [hx])).symm, HBE.out⟩
        · go_wp2_with (go_at_call 92; refine (implTime_any _ _).mono ?_; rintro e w' ⟨rfl, rfl⟩)
          go_roundw
          case rel => exact ⟨k + 1, by omega, by go_num, by rw [if_neg (by omega)]; simp only [Nat.add_sub_cancel]; rw [HT.out], by rw [HS1.out, HG.out, HP.out.resolve_right (by rw [ht]; simp), ht]; simp; omega, HB.out⟩
          case measure => simp [intOf]; omega
      · go_wp2_with (go_at_call 92; refine (implTime_any _ _).mono ?_; rintro e w' ⟨rfl, rfl⟩)
        go_ret
        exact ⟨ret_bool (HNo.out (by rw [HS1.out, ht]; simp)).symm, HBE.out⟩
    · have hk' : k = Z.length := by omega
      subst hk'
      have HN := hid (krB_yes lo hi Z HSp.out (by omega) HG.out)
      generalize (if Z.length = 0 then -1 else zAt Z (Z.length - 1)) = P at *
      go_wp2_with fail
      go_ret
      exact ⟨ret_bool HN.out.symm, HBE.out⟩
end Go.Proofs.YtljhokoojodjnaaGreatDoor
