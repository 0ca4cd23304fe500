/-
  RingRight, the program's.
-/
import Derived.Test.YtfafeomegoikkaaRgB
namespace Go.Proofs.Ytfafeomegoikkaa
open Go.RowKit
set_option linter.unusedVariables false
set_option linter.unusedSimpArgs false
set_option maxHeartbeats 1000000 in
theorem waits_any (s t p : Int) (w : World) : Calls Try.prog 60 #[.agg #[.int .i64 s, .int .i64 t], .int .i64 p] w fun e w' => e = .returned (.bool (s == p && t == 0)) ∧ Below w.heap.size w w' := by
  rcases Bool.eq_false_or_eq_true (s == p) with h1 | h1 <;> rcases Bool.eq_false_or_eq_true (t == 0) with h2 | h2
  all_goals
    go_enter Try.func60, Try.ntmps60
    go_wp2
    go_ret
    exact ⟨ret_bool (by rw [h1, h2]; rfl), (Below.refl _ _).alloc (Nat.le_refl _) _⟩
set_option maxHeartbeats 1000000 in
theorem holds_any (s t p : Int) (hp : 0 ≤ p ∧ p ≤ 2000000) (w : World) : Calls Try.prog 79 #[.agg #[.int .i64 s, .int .i64 t], .int .i64 p] w fun e w' => e = .returned (.bool (s == p + 1 && itemB t)) ∧ Below w.heap.size w w' := by
  have HI := hid (fun t w => implItem_any t w)
  by_cases h1 : s = p + 1
  · subst h1
    have HQ : Hid ((p + 1 == p + 1 && itemB t) = itemB t) := by show _ = _; simp
    have q1 : (p + 1 == p + 1) = true := by simp
    go_enter Try.func79, Try.ntmps79
    go_wp2_with (go_at_call 75; refine (HI.out _ _).mono ?_; rintro e w' ⟨rfl, rfl⟩)
    go_ret
    exact ⟨ret_bool HQ.out.symm, (Below.refl _ _).alloc (Nat.le_refl _) _⟩
  · have q1 : (s == p + 1) = false := by simpa using h1
    have HQ : Hid ((s == p + 1 && itemB t) = false) := by show _ = _; simp [h1]
    go_enter Try.func79, Try.ntmps79
    go_wp2_with fail
    go_ret
    exact ⟨ret_bool HQ.out.symm, (Below.refl _ _).alloc (Nat.le_refl _) _⟩
set_option maxRecDepth 20000 in
set_option maxHeartbeats 2000000 in
theorem place_any (C P : Nat) (hd tl : Int) (Z : List Int) (hZ : Z.length = C * 2) (hC : 1 ≤ C) (hC2 : C ≤ 16) (hP : P ≤ 1500000) (a : Option Addr) (c : Nat) (w : World) (hA : ArgI w a Z) :
    Calls Try.prog 62 #[.agg #[.int .i64 C, .int .i64 hd, .int .i64 tl, .slice a C c], .int .i64 P] w fun e w' => e = .returned (.bool (cupB tl P (sqAt Z C P) (itAt Z C P))) ∧ Below w.heap.size w w' := by
  have HV : Hid (∀ cap hd tl a n c, rgV cap hd tl a n c = .agg #[.int .i64 cap, .int .i64 hd, .int .i64 tl, .slice a n c]) := fun _ _ _ _ _ _ => rfl
  have HB0 := hid ((Below.refl w.heap.size w).alloc (Nat.le_refl _) (.cells #[.int .i64 C, .int .i64 hd, .int .i64 tl, .slice a C c] 25))
  have HD := hid (implCup_any C P hd tl Z hZ hC hC2 (by omega) a c _ (hA.on HB0.out))
  have HBX := hid (RBox.new w C hd tl a C c 25)
  have hlz := HBX.out.lt
  have hw0 := HB0.out.size
  rw [HV.out] at HD
  unfold cuV at HD
  generalize sqAt Z C P = s at *
  generalize itAt Z C P = t at *
  have hp0 : 0 ≤ (P : Int) ∧ (P : Int) ≤ 1500000 := by omega
  generalize (P : Int) = p at *
  have HW := hid (fun w => waits_any s t p w)
  have HH := hid (fun w => holds_any s t p (by omega) w)
  clear hA hZ
  go_enter Try.func62, Try.ntmps62
  rcases Bool.eq_false_or_eq_true (s == p && t == 0) with x1 | x1
  · have HU : Hid (cupB tl p s t = true) := by show cupB tl p s t = true; simp [cupB, x1]
    rw [x1] at HW
    clear x1
    go_wp2_with (first | (go_at_call 59; refine HD.out.mono ?_; rintro e w1 ⟨rfl, hb1⟩; have HB1 := hid (HB0.out.trans (hb1.mono hw0)); have hz1 := HB1.out.size; obtain ⟨_, k0, k1, k2, k3⟩ := HBX.out.below hb1 hlz; have hne : ¬ w.heap.size = w1.heap.size := (by have := hb1.size; omega); clear hb1) | (go_at_call 60; refine (HW.out _).mono ?_; rintro e w2 ⟨rfl, hb2⟩; have HB2 := hid ((below_new HB1.out _).trans (hb2.mono (by simp; omega))); clear hb2))
    go_ret
    exact ⟨ret_bool HU.out.symm, HB2.out⟩
  rw [x1] at HW
  by_cases x2 : p < tl
  · have HU : Hid (cupB tl p s t = (s == p + 1 && itemB t)) := by show cupB tl p s t = _; simp only [cupB, x1, x2]; simp
    clear x1
    generalize (s == p + 1 && itemB t) = y at *
    go_wp2_with (first | (go_at_call 59; refine HD.out.mono ?_; rintro e w1 ⟨rfl, hb1⟩; have HB1 := hid (HB0.out.trans (hb1.mono hw0)); have hz1 := HB1.out.size; obtain ⟨_, k0, k1, k2, k3⟩ := HBX.out.below hb1 hlz; have hne : ¬ w.heap.size = w1.heap.size := (by have := hb1.size; omega); have hqz := Nat.lt_of_lt_of_le hlz hb1.size; clear hb1) | (go_at_call 60; refine (HW.out _).mono ?_; rintro e w2 ⟨rfl, hb2⟩; have HB2 := hid ((below_new HB1.out _).trans (hb2.mono (by simp; omega))); have m0 := (hb2.cell (p := ⟨w1.heap.size, 0, none⟩) (by simp)).trans (by simp [go_sem] : _ = some (.int .i64 s)); have m1 := (hb2.cell (p := ⟨w1.heap.size, 1, none⟩) (by simp)).trans (by simp [go_sem] : _ = some (.int .i64 t)); have k2' := (hb2.cell (p := ⟨w.heap.size, 2, none⟩) (by simp; omega)).trans ((World.cell?_alloc_past _ _ _ hqz).trans k2); clear hb2) | (go_at_call 79; refine (HH.out _).mono ?_; rintro e w3 ⟨rfl, hb3⟩; have HB3 := hid (HB2.out.trans (hb3.mono HB2.out.size)); clear hb3))
    go_ret
    exact ⟨ret_bool HU.out.symm, HB3.out⟩
  · have HU : Hid (cupB tl p s t = false) := by show cupB tl p s t = _; simp only [cupB, x1, x2]; simp
    clear x1
    go_wp2_with (first | (go_at_call 59; refine HD.out.mono ?_; rintro e w1 ⟨rfl, hb1⟩; have HB1 := hid (HB0.out.trans (hb1.mono hw0)); have hz1 := HB1.out.size; obtain ⟨_, k0, k1, k2, k3⟩ := HBX.out.below hb1 hlz; have hne : ¬ w.heap.size = w1.heap.size := (by have := hb1.size; omega); have hqz := Nat.lt_of_lt_of_le hlz hb1.size; clear hb1) | (go_at_call 60; refine (HW.out _).mono ?_; rintro e w2 ⟨rfl, hb2⟩; have HB2 := hid ((below_new HB1.out _).trans (hb2.mono (by simp; omega))); have m0 := (hb2.cell (p := ⟨w1.heap.size, 0, none⟩) (by simp)).trans (by simp [go_sem] : _ = some (.int .i64 s)); have m1 := (hb2.cell (p := ⟨w1.heap.size, 1, none⟩) (by simp)).trans (by simp [go_sem] : _ = some (.int .i64 t)); have k2' := (hb2.cell (p := ⟨w.heap.size, 2, none⟩) (by simp; omega)).trans ((World.cell?_alloc_past _ _ _ hqz).trans k2); clear hb2))
    go_ret
    exact ⟨ret_bool HU.out.symm, HB2.out⟩
set_option maxRecDepth 20000 in
set_option maxHeartbeats 4000000 in
theorem implRr_any (cap hd tl : Int) (Z : List Int) (n : Nat) (hn : Z.length = n * 2) (a : Option Addr) (c : Nat) (hl : n ≤ 2000000) (w : World) (hA : ArgI w a Z) :
    Calls Try.prog 29 #[rgV cap hd tl a n c] w fun e w' => e = .returned (.bool (ringB cap hd tl n Z)) ∧ Below w.heap.size w w' := by
  have HV : Hid (∀ cap hd tl a n c, rgV cap hd tl a n c = .agg #[.int .i64 cap, .int .i64 hd, .int .i64 tl, .slice a n c]) := fun _ _ _ _ _ _ => rfl
  rw [HV.out]
  have HB0 := hid ((Below.refl w.heap.size w).alloc (Nat.le_refl _) (.cells #[.int .i64 cap, .int .i64 hd, .int .i64 tl, .slice a n c] 25))
  have HA := hid (hA.on HB0.out)
  have HBX := hid (RBox.new w cap hd tl a n c 25)
  have HN := hid hn
  have HX := hid (fun t w => implTime_any t w)
  have HY := hid (fun t w => implCap_any t w)
  clear hA hn
  rcases Bool.eq_false_or_eq_true (capB cap) with h1 | h1
  rotate_left
  · have HR := hid (ringB_cap (hd := hd) (tl := tl) (n := n) (Z := Z) h1)
    go_enter Try.func29, Try.ntmps29
    go_wp2_with (first | (go_at_call 57; refine (HY.out _ _).mono ?_; rintro e w' ⟨rfl, rfl⟩) | (go_at_call 61; refine (HX.out _ _).mono ?_; rintro e w' ⟨rfl, rfl⟩))
    go_ret
    exact ⟨ret_bool HR.out.symm, HB0.out⟩
  have hc5 := capB_cases h1
  have hca : 1 ≤ cap ∧ cap ≤ 16 := by omega
  have HI1 := hid h1
  clear hc5
  by_cases h6 : (n : Int) = cap
  rotate_left
  · have HR := hid (ringB_len (hd := hd) (tl := tl) (Z := Z) h6)
    have g6 : ((n : Int) != cap) = true := by simpa using h6
    go_enter Try.func29, Try.ntmps29
    go_wp2_with (first | (go_at_call 57; refine (HY.out _ _).mono ?_; rintro e w' ⟨rfl, rfl⟩) | (go_at_call 61; refine (HX.out _ _).mono ?_; rintro e w' ⟨rfl, rfl⟩))
    go_ret
    exact ⟨ret_bool HR.out.symm, HB0.out⟩
  subst h6
  have g6 : ((n : Int) != (n : Int)) = false := by simp
  rcases Bool.eq_false_or_eq_true (timeB hd) with h2 | h2
  rotate_left
  · have HR := hid (ringB_hd (cap := n) (tl := tl) (n := n) (Z := Z) h2)
    go_enter Try.func29, Try.ntmps29
    go_wp2_with (first | (go_at_call 57; refine (HY.out _ _).mono ?_; rintro e w' ⟨rfl, rfl⟩) | (go_at_call 61; refine (HX.out _ _).mono ?_; rintro e w' ⟨rfl, rfl⟩))
    go_ret
    exact ⟨ret_bool HR.out.symm, HB0.out⟩
  have hh := timeB_iff.1 h2
  have HI2 := hid h2
  rcases Bool.eq_false_or_eq_true (timeB tl) with h3 | h3
  rotate_left
  · have HR := hid (ringB_tl (cap := n) (hd := hd) (n := n) (Z := Z) h3)
    go_enter Try.func29, Try.ntmps29
    go_wp2_with (first | (go_at_call 57; refine (HY.out _ _).mono ?_; rintro e w' ⟨rfl, rfl⟩) | (go_at_call 61; refine (HX.out _ _).mono ?_; rintro e w' ⟨rfl, rfl⟩))
    go_ret
    exact ⟨ret_bool HR.out.symm, HB0.out⟩
  have ht := timeB_iff.1 h3
  have HI3 := hid h3
  by_cases h4 : tl < hd
  · have HR := hid (ringB_lt (cap := n) (n := n) (Z := Z) h4)
    go_enter Try.func29, Try.ntmps29
    go_wp2_with (first | (go_at_call 57; refine (HY.out _ _).mono ?_; rintro e w' ⟨rfl, rfl⟩) | (go_at_call 61; refine (HX.out _ _).mono ?_; rintro e w' ⟨rfl, rfl⟩))
    go_ret
    exact ⟨ret_bool HR.out.symm, HB0.out⟩
  by_cases h5 : hd + n < tl
  · have HR := hid (ringB_gt (n := n) (Z := Z) h5)
    go_enter Try.func29, Try.ntmps29
    go_wp2_with (first | (go_at_call 57; refine (HY.out _ _).mono ?_; rintro e w' ⟨rfl, rfl⟩) | (go_at_call 61; refine (HX.out _ _).mono ?_; rintro e w' ⟨rfl, rfl⟩))
    go_ret
    exact ⟨ret_bool HR.out.symm, HB0.out⟩
  obtain ⟨H, rfl⟩ : ∃ H : Nat, hd = H := ⟨hd.toNat, by omega⟩
  have HQ := hid (ringB_rest (Z := Z) HI1.out HI2.out HI3.out (by omega) (by omega) (rfl : n = n))
  have hn16 : n ≤ 16 := by omega
  have hn1 : 1 ≤ n := by omega
  have hH : H ≤ 1000000 := by omega
  have HCU := hid (fun P hP w hA => place_any n P H tl Z HN.out hn1 hn16 hP a c w hA)
  go_enter Try.func29, Try.ntmps29
  go_wp2_with (first | (go_at_call 57; refine (HY.out _ _).mono ?_; rintro e w' ⟨rfl, rfl⟩) | (go_at_call 61; refine (HX.out _ _).mono ?_; rintro e w' ⟨rfl, rfl⟩))
  have hlz := HBX.out.lt
  have hw0 := HB0.out.size
  generalize w.alloc (.cells #[.int .i64 n, .int .i64 H, .int .i64 tl, .slice a n c] 25) = W at *
  clear h1 h2 h3 HI1 HI2 HI3 HX HY
  go_loopw [3] (fun t wr => ∃ k : Nat, k ≤ n ∧ t = .int .i64 ((H + k : Nat) : Int) ∧ placesTo tl Z n H k = true ∧ Below W.heap.size W wr) (fun t _ => H + n - (intOf t).toNat)
  case atStart => exact ⟨0, Nat.zero_le _, rfl, rfl, Below.refl _ _⟩
  case round =>
    obtain ⟨k, hk, rfl, hg, hbel⟩ := hrel
    have HG := hid hg
    have HB := hid hbel
    obtain ⟨_, k0, k1, k2, k3⟩ := HBX.out.below hbel hlz
    have hqz := Nat.lt_of_lt_of_le hlz hbel.size
    have HAr := hid (HA.out.on hbel)
    clear hg hbel
    by_cases hlt : k < n
    · have HS1 := hid (placesTo_succ tl Z n H k)
      have HNo := hid (fun h => HQ.out.trans (placesTo_false tl Z n H k n hlt h))
      have HD := hid (HCU.out (H + k) (by omega) wr HAr.out)
      have hqz' := HB.out.size
      have hp : ((H + k : Nat) : Int) < (H : Int) + n := by omega
      have hp0 : ((H + k : Nat) : Int) ≤ 1000016 ∧ 0 ≤ ((H + k : Nat) : Int) := by omega
      generalize sqAt Z n (H + k) = s at *
      generalize itAt Z n (H + k) = t at *
      generalize hp' : ((H + k : Nat) : Int) = p at *
      have HP := hid hp'
      clear hp'
      generalize cupB tl p s t = y at *
      cases y with
      | true =>
        go_wp2_with (go_at_call 62; refine HD.out.mono ?_; rintro e w1 ⟨rfl, hb1⟩; have HB1 := hid (HB.out.trans (hb1.mono hqz')); clear hb1)
        go_roundw
        case rel => exact ⟨k + 1, by omega, by rw [show ((H + (k + 1) : Nat) : Int) = ((H + k : Nat) : Int) + 1 by omega, HP.out], by rw [HS1.out, HG.out]; rfl, HB1.out⟩
        case measure => simp [intOf]; omega
      | false =>
        go_wp2_with (go_at_call 62; refine HD.out.mono ?_; rintro e w1 ⟨rfl, hb1⟩; have HB1 := hid (HB.out.trans (hb1.mono hqz')); clear hb1)
        go_ret
        exact ⟨ret_bool (HNo.out (by rw [HS1.out]; simp)).symm, HB0.out.trans (HB1.out.mono hw0)⟩
    · have hk' : k = n := by omega
      subst hk'
      go_wp2_with fail
      go_ret
      exact ⟨ret_bool (HQ.out.trans HG.out).symm, HB0.out.trans (HB.out.mono hw0)⟩
end Go.Proofs.Ytfafeomegoikkaa
