/-
  The program's KeepRight; KeepMost, the model's and the program's; by one contract.
  Small facts for the walks of laws over Keeps.
  Keeps: plain facts on what is asked; KeepRight and times by what they tell.
  The program's cmp.Compare, compareGap, InBounds by their contracts.
  KeepAsk, the model's and the program's, by one contract.
  Rows of numbers that a call owns; the model's l05Drop by its contract.
-/
import Derived.Test.YtbfkbgmkibkbnaaGreatDoorPa08
import Derived.Lib.QuietBelow
import Derived.Test.YtbfkbgmkibkbnaaGreatDoorPa00
namespace Go.Proofs.YtbfkbgmkibkbnaaGreatDoor
open Go.RowKit
set_option linter.unusedVariables false
set_option linter.unusedSimpArgs false
theorem right_is (lo hi : Int) (v : Bool) (hv : spanB lo hi = v) (w : World) : Calls Tryz.prog 117 #[.agg #[.int .i64 lo, .int .i64 hi]] w fun e w' => e = .returned (.bool v) ∧ Below w.heap.size w w' := by
  subst hv; exact right_any lo hi w
theorem mostT_is (hi : Int) (h1 : -1 ≤ hi) (h2 : hi ≤ 1000) (w : World) : Calls Tryz.prog 101 #[.int .i64 hi] w fun e w' => e = .returned (.int .i64 (mostI hi)) ∧ Below w.heap.size w w' :=
  (implMostI_any hi h1 h2 w).mono (by rintro e w' ⟨rfl, rfl⟩; exact ⟨rfl, Below.refl _ _⟩)
def kmI (lo hi : Int) (Z : List Int) : Int := if krB lo hi Z then mostI hi else -1
structure SBox (W : World) (q : Nat) (lo hi : Int) : Prop where
  lt : q < W.heap.size
  s0 : W.cell? ⟨q, 0, none⟩ = some (.int .i64 lo)
  s1 : W.cell? ⟨q, 1, none⟩ = some (.int .i64 hi)
set_option maxRecDepth 20000 in
set_option maxHeartbeats 4000000 in
theorem implKr_any (lo hi : Int) (Z : List Int) (n : Nat) (hn : Z.length = n) (a : Option Addr) (c : Nat) (hl : n ≤ 2000000) (w : World) (hA : ArgI w a Z) :
    Calls Tryz.prog 100 #[kpV lo hi a n c] w fun e w' => e = .returned (.bool (krB lo hi Z)) ∧ Below w.heap.size w w' := by
  unfold kpV
  subst hn
  have HB0 := hid (((Below.refl w.heap.size w).alloc (Nat.le_refl _) (.cells #[.int .i64 lo, .int .i64 hi, .slice a Z.length c] 94)).alloc (by simp) (.cells #[.int .i64 lo, .int .i64 hi] 169))
  have HA := hid (hA.on HB0.out)
  have HBX : Hid (KBox ((w.alloc (.cells #[.int .i64 lo, .int .i64 hi, .slice a Z.length c] 94)).alloc (.cells #[.int .i64 lo, .int .i64 hi] 169)) w.heap.size lo hi a Z.length c) := (KBox.new w lo hi a Z.length c 94).below ((Below.refl _ _).alloc (Nat.le_refl _) _) (by simp)
  have HSX : Hid (SBox ((w.alloc (.cells #[.int .i64 lo, .int .i64 hi, .slice a Z.length c] 94)).alloc (.cells #[.int .i64 lo, .int .i64 hi] 169)) (w.heap.size + 1) lo hi) := by
    have e : w.heap.size + 1 = (w.alloc (.cells #[.int .i64 lo, .int .i64 hi, .slice a Z.length c] 94)).heap.size := by simp
    rw [e]
    exact ⟨by simp, by simp [go_sem], by simp [go_sem]⟩
  clear hA
  go_enter Tryz.func100, Tryz.ntmps100
  go_wp2_with fail
  have hlz := HBX.out.lt
  generalize (w.alloc (.cells #[.int .i64 lo, .int .i64 hi, .slice a Z.length c] 94)).alloc (.cells #[.int .i64 lo, .int .i64 hi] 169) = W at *
  have e0 := cell_regrown HBX.out.k0
  have e1 := cell_regrown HBX.out.k1
  have e2 := cell_regrown HBX.out.k2
  have s0 := cell_regrown HSX.out.s0
  have s1 := cell_regrown HSX.out.s1
  have hw0 := HB0.out.size
  rcases Bool.eq_false_or_eq_true (spanB lo hi) with hs | hs
  rotate_left
  · have HN := hid (krB_span lo hi Z hs)
    have HC := hid (fun d os => Calls.regrown_of (right_is lo hi false hs (Sort.grow (redrawn W d) os)))
    clear hs
    refine wp_region_quiet_below (by kernel_rfl) (by kernel_rfl) ?_
    repeat (go_big_quiet_step (exact HC.out _ _))
    refine wpQuiet_nil ?_
    intro _ hw'
    obtain ⟨⟨dq, osq⟩, hw''⟩ := hw'
    subst hw''
    go_wp2_with fail
    go_ret
    exact ⟨ret_bool HN.out.symm, HB0.out.trans ((below_regrown W dq osq).mono hw0)⟩
  obtain ⟨hh1, hh2⟩ := spanB_hi1 hs
  have HC := hid (fun d os => Calls.regrown_of (right_is lo hi true hs (Sort.grow (redrawn W d) os)))
  have HQ := hid (fun d os => Calls.regrown_of (mostT_is hi hh1 hh2 (Sort.grow (redrawn W d) os)))
  have HSp := hid hs
  clear hs
  by_cases hm : mostI hi < (Z.length : Int)
  · have HN := hid (krB_most lo hi Z hm)
    refine wp_region_quiet_below (by kernel_rfl) (by kernel_rfl) ?_
    repeat (go_big_quiet_step (first | exact HC.out _ _ | exact HQ.out _ _))
    refine wpQuiet_nil ?_
    intro _ hw'
    obtain ⟨⟨dq, osq⟩, hw''⟩ := hw'
    subst hw''
    go_wp2_with fail
    go_ret
    exact ⟨ret_bool HN.out.symm, HB0.out.trans ((below_regrown W dq osq).mono hw0)⟩
  refine wp_region_quiet_below (by kernel_rfl) (by kernel_rfl) ?_
  repeat (go_big_quiet_step (first | exact HC.out _ _ | exact HQ.out _ _))
  refine wpQuiet_nil ?_
  intro _ hw'
  obtain ⟨⟨dq, osq⟩, hw''⟩ := hw'
  subst hw''
  have HBr := hid (below_regrown W dq osq)
  have hbz := HBr.out.size
  have HA1 := hid (HA.out.on HBr.out)
  obtain ⟨_, k0, k1, k2⟩ := HBX.out.below HBr.out hlz
  clear e0 e1 e2 s0 s1 HC HQ
  generalize Sort.grow (redrawn W dq) osq = V at *
  go_wp2_with fail
  go_loopw [4, 27] (fun p t wr => ∃ k : Nat, k ≤ Z.length ∧ t = .int .i64 k ∧ p = .int .i64 (if k = 0 then -1 else zAt Z (k - 1)) ∧ riseTo Z k = true ∧ Below V.heap.size V wr) (fun _ t _ => Z.length - (intOf t).toNat)
  case atStart => exact ⟨0, Nat.zero_le _, rfl, rfl, rfl, Below.refl _ _⟩
  case round =>
    obtain ⟨k, hk, rfl, rfl, hg, hbel⟩ := hrel
    have HG := hid hg
    have HB := hid hbel
    have HBE := hid (HB0.out.trans ((HBr.out.mono hw0).trans (hbel.mono (by omega))))
    clear hg hbel
    by_cases hlt : k < Z.length
    · have HS1 := hid (riseTo_succ Z k)
      have HNo := hid (krB_no lo hi Z k hlt)
      rcases HA1.out with h0 | ⟨b, off, rfl, hb, hc⟩
      · omega
      have d0 := (HB.out.cell (p := ⟨b, off + k, none⟩) hb).trans (hc k hlt)
      clear hc
      have HP : Hid ((k == 0 || decide (zAt Z (k - 1) < zAt Z k)) = decide ((if k = 0 then -1 else zAt Z (k - 1)) < zAt Z k) ∨ timeB (zAt Z k) = false) := by
        show _ ∨ _
        by_cases h : k = 0
        · subst h
          rcases Bool.eq_false_or_eq_true (timeB (zAt Z 0)) with h | h
          · left
            simp [timeB] at h ⊢
            omega
          · exact Or.inr h
        · left
          simp [h]
      generalize hP : (if k = 0 then -1 else zAt Z (k - 1)) = P at *
      generalize hT : zAt Z k = T at *
      have HT := hid hT
      clear hP hT
      rcases Bool.eq_false_or_eq_true (timeB T) with ht | ht
      · by_cases hx : T ≤ P
        · go_wp2_with (go_at_call 95; refine (implTime_any _ _).mono ?_; rintro e w' ⟨rfl, rfl⟩)
          go_ret
          exact ⟨ret_bool (HNo.out (by rw [HS1.out, HP.out.resolve_right (by rw [ht]; simp)]; simp [hx])).symm, HBE.out⟩
        · go_wp2_with (go_at_call 95; refine (implTime_any _ _).mono ?_; rintro e w' ⟨rfl, rfl⟩)
          go_roundw
          case rel => exact ⟨k + 1, by omega, by go_num, by rw [if_neg (by omega)]; simp only [Nat.add_sub_cancel]; rw [HT.out], by rw [HS1.out, HG.out, HP.out.resolve_right (by rw [ht]; simp), ht]; simp; omega, HB.out⟩
          case measure => simp [intOf]; omega
      · go_wp2_with (go_at_call 95; refine (implTime_any _ _).mono ?_; rintro e w' ⟨rfl, rfl⟩)
        go_ret
        exact ⟨ret_bool (HNo.out (by rw [HS1.out, ht]; simp)).symm, HBE.out⟩
    · have hk' : k = Z.length := by omega
      subst hk'
      have HN := hid (krB_yes lo hi Z HSp.out (by omega) HG.out)
      generalize (if Z.length = 0 then -1 else zAt Z (Z.length - 1)) = P at *
      go_wp2_with fail
      go_ret
      exact ⟨ret_bool HN.out.symm, HBE.out⟩
set_option maxRecDepth 20000 in
set_option maxHeartbeats 1000000 in
theorem implMost_any (lo hi : Int) (Z : List Int) (n : Nat) (hn : Z.length = n) (a : Option Addr) (c : Nat) (hl : n ≤ 2000000) (w : World) (hA : ArgI w a Z) :
    Calls Tryz.prog 58 #[kpV lo hi a n c] w fun e w' => e = .returned (.int .i64 (kmI lo hi Z)) ∧ Below w.heap.size w w' := by
  have HB0 := hid ((Below.refl w.heap.size w).alloc (Nat.le_refl _) (.cells #[.int .i64 lo, .int .i64 hi, .slice a n c] 94))
  have HC := hid (implKr_any lo hi Z n hn a c hl _ (hA.on HB0.out))
  have HBX := hid (KBox.new w lo hi a n c 94)
  unfold kpV at HC ⊢
  unfold kmI
  clear hA
  rcases Bool.eq_false_or_eq_true (krB lo hi Z) with hk | hk
  · have hh := spanB_hi1 (krB_parts hk).1
    have HQ := hid (fun w => implMostI_any hi hh.1 hh.2 w)
    rw [hk] at HC
    simp only [hk, if_true]
    clear hk hh
    go_enter Tryz.func58, Tryz.ntmps58
    go_wp2_with (first | (go_at_call 100; refine HC.out.mono ?_; rintro e w1 ⟨rfl, hb⟩; obtain ⟨_, k0, k1, k2⟩ := HBX.out.below hb HBX.out.lt; have HB1 := hid (HB0.out.trans (hb.mono (by simp))); clear hb) | (go_at_call 101; refine (HQ.out _).mono ?_; rintro e w' ⟨rfl, rfl⟩))
    go_ret
    exact ⟨rfl, HB1.out⟩
  · rw [hk] at HC
    simp only [hk]
    clear hk
    go_enter Tryz.func58, Tryz.ntmps58
    go_wp2_with (first | (go_at_call 100; refine HC.out.mono ?_; rintro e w1 ⟨rfl, hb⟩; have HB1 := hid (HB0.out.trans (hb.mono (by simp))); clear hb))
    go_ret
    exact ⟨rfl, HB1.out⟩
end Go.Proofs.YtbfkbgmkibkbnaaGreatDoor
namespace Go.Proofs.YtbfkbgmkibkbnaaGreatDoor
open Go.RowKit
set_option linter.unusedVariables false
theorem KBox.on {W W' : World} {q : Nat} {lo hi : Int} {a : Option Addr} {n c : Nat} (h : KBox W q lo hi a n c) (hb : Below W.heap.size W W') : KBox W' q lo hi a n c := h.below hb h.lt
theorem KBox.save {W W' : World} {q : Nat} {lo hi : Int} {a : Option Addr} {n c : Nat} {S : Nat → Prop} (h : KBox W q lo hi a n c) (hs : Save W W' S) (h1 : ¬ S q) : KBox W' q lo hi a n c :=
  ⟨Nat.lt_of_lt_of_le h.lt hs.size, (hs.cell (p := ⟨q, _, none⟩) h.lt h1).trans h.k0, (hs.cell (p := ⟨q, _, none⟩) h.lt h1).trans h.k1, (hs.cell (p := ⟨q, _, none⟩) h.lt h1).trans h.k2⟩
theorem below_one' (w : World) (o : Obj) : Below w.heap.size w (w.alloc o) := (Below.refl _ _).alloc (Nat.le_refl _) o
end Go.Proofs.YtbfkbgmkibkbnaaGreatDoor
namespace Go.Proofs.YtbfkbgmkibkbnaaGreatDoor
open Go.RowKit
set_option linter.unusedVariables false
set_option linter.unusedSimpArgs false
def askTo (lo hi tm : Int) (Z : List Int) (k : Nat) : Bool := (List.range k).any fun i => inB lo hi (tm - zAt Z i)
def kaB (lo hi : Int) (Z : List Int) (tm : Int) : Bool := krB lo hi Z && (timeB tm && askTo lo hi tm Z Z.length)
theorem askTo_succ (lo hi tm : Int) (Z : List Int) (k : Nat) : askTo lo hi tm Z (k + 1) = (askTo lo hi tm Z k || inB lo hi (tm - zAt Z k)) := by simp [askTo, List.range_succ]
theorem askTo_true (lo hi tm : Int) (Z : List Int) (k m : Nat) (hk : k < m) (h : inB lo hi (tm - zAt Z k) = true) : askTo lo hi tm Z m = true := by
  simp only [askTo, List.any_eq_true, List.mem_range]
  exact ⟨k, hk, h⟩
theorem timeB_parts {t : Int} (h : timeB t = true) : 0 ≤ t ∧ t ≤ 1000000 := by simpa [timeB] using h
theorem timeS_is (t : Int) (v : Bool) (hv : timeB t = v) (w : World) : Calls Tryz.prog 91 #[.int .i64 t] w fun e w' => e = .returned (.bool v) ∧ w = w' := by
  subst hv; exact (specTime_any t w).mono (by rintro e w' ⟨rfl, rfl⟩; exact ⟨rfl, rfl⟩)
theorem timeI_is (t : Int) (v : Bool) (hv : timeB t = v) (w : World) : Calls Tryz.prog 95 #[.int .i64 t] w fun e w' => e = .returned (.bool v) ∧ w = w' := by
  subst hv; exact (implTime_any t w).mono (by rintro e w' ⟨rfl, rfl⟩; exact ⟨rfl, rfl⟩)
theorem specKr_is (lo hi : Int) (Z : List Int) (v : Bool) (hv : krB lo hi Z = v) (n : Nat) (hn : Z.length = n) (a : Option Addr) (c : Nat) (hl : n ≤ 2000000) (w : World) (hA : ArgI w a Z) :
    Calls Tryz.prog 136 #[.agg #[.int .i64 lo, .int .i64 hi, .slice a n c]] w fun e w' => e = .returned (.bool v) ∧ Below w.heap.size w w' := by
  subst hv; exact specKr_any lo hi Z n hn a c hl w hA
theorem implKr_is (lo hi : Int) (Z : List Int) (v : Bool) (hv : krB lo hi Z = v) (n : Nat) (hn : Z.length = n) (a : Option Addr) (c : Nat) (hl : n ≤ 2000000) (w : World) (hA : ArgI w a Z) :
    Calls Tryz.prog 100 #[.agg #[.int .i64 lo, .int .i64 hi, .slice a n c]] w fun e w' => e = .returned (.bool v) ∧ Below w.heap.size w w' := by
  subst hv; exact implKr_any lo hi Z n hn a c hl w hA
theorem krB_times {lo hi : Int} {Z : List Int} (h : krB lo hi Z = true) : ∀ i, i < Z.length → 0 ≤ zAt Z i ∧ zAt Z i ≤ 1000000 := fun i hi => by have := riseTo_at (krB_parts h).2.2 i hi; omega
/-- What a slice looks like. -/
def SlV (a : Option Addr) (n c : Nat) : Prop := (a = none ∧ n = 0 ∧ c = 0) ∨ (∃ b off, a = some ⟨b, off, none⟩ ∧ n ≤ c ∧ c ≤ maxLen)
theorem slV_made (b n : Nat) (h : n ≤ 1048576) : SlV (some ⟨b, 0, none⟩) n n := Or.inr ⟨b, 0, rfl, Nat.le_refl _, by unfold maxLen; omega⟩
theorem slV_nil : SlV none 0 0 := Or.inl ⟨rfl, rfl, rfl⟩
end Go.Proofs.YtbfkbgmkibkbnaaGreatDoor
namespace Go.Proofs.YtbfkbgmkibkbnaaGreatDoor
open Go.RowKit
set_option linter.unusedVariables false
set_option linter.unusedSimpArgs false
theorem isNaN_any (x : Int) (w : World) : Calls Tryz.prog 146 #[.int .i64 x] w fun e w' => e = .returned (.bool false) ∧ w = w' := by
  have hx : (x != x) = false := by simp
  go_enter Tryz.func146, Tryz.ntmps146
  go_wp2
  go_ret
  exact ⟨ret_bool (by simp), rfl⟩
def cmpI (x y : Int) : Int := if x < y then -1 else if y < x then 1 else 0
theorem compare_any (x y : Int) (w : World) : Calls Tryz.prog 167 #[.int .i64 x, .int .i64 y] w fun e w' => e = .returned (.int .i64 (cmpI x y)) ∧ w = w' := by
  by_cases h1 : x < y
  · have HV : Hid (cmpI x y = -1) := by show cmpI x y = _; simp [cmpI, h1]
    go_enter Tryz.func167, Tryz.ntmps167
    go_wp2_with (go_at_call 146; refine (isNaN_any _ _).mono ?_; rintro e w' ⟨rfl, rfl⟩)
    go_ret
    exact ⟨ret_int HV.out.symm, rfl⟩
  · by_cases h2 : y < x
    · have HV : Hid (cmpI x y = 1) := by show cmpI x y = _; simp [cmpI, h1, h2]
      go_enter Tryz.func167, Tryz.ntmps167
      go_wp2_with (go_at_call 146; refine (isNaN_any _ _).mono ?_; rintro e w' ⟨rfl, rfl⟩)
      go_ret
      exact ⟨ret_int HV.out.symm, rfl⟩
    · have HV : Hid (cmpI x y = 0) := by show cmpI x y = _; simp [cmpI, h1, h2]
      go_enter Tryz.func167, Tryz.ntmps167
      go_wp2_with (go_at_call 146; refine (isNaN_any _ _).mono ?_; rintro e w' ⟨rfl, rfl⟩)
      go_ret
      exact ⟨ret_int HV.out.symm, rfl⟩
theorem gap_any (a b n : Int) (ha : 0 ≤ a ∧ a ≤ 1000000) (hb : 0 ≤ b ∧ b ≤ 1000000) (w : World) : Calls Tryz.prog 161 #[.int .i64 a, .int .i64 b, .int .i64 n] w fun e w' => e = .returned (.int .i64 (cmpI (b - a) n)) ∧ w = w' := by
  obtain ⟨a1, a2⟩ := ha
  obtain ⟨b1, b2⟩ := hb
  by_cases h : a ≤ b
  · have h' : 0 ≤ b - a := by omega
    go_enter Tryz.func161, Tryz.ntmps161
    go_wp2_with (go_at_call 167; refine (compare_any _ _ _).mono ?_; rintro e w' ⟨rfl, rfl⟩)
    go_ret
    exact ⟨rfl, rfl⟩
  · have h' : b - a < 0 := by omega
    go_enter Tryz.func161, Tryz.ntmps161
    go_wp2_with (go_at_call 167; refine (compare_any _ _ _).mono ?_; rintro e w' ⟨rfl, rfl⟩)
    go_ret
    exact ⟨rfl, rfl⟩
theorem cmpI_lt (x y : Int) : cmpI x y < 0 ↔ x < y := by unfold cmpI; split <;> (try split) <;> omega
theorem cmpI_le (x y : Int) : cmpI x y ≤ 0 ↔ x ≤ y := by unfold cmpI; split <;> (try split) <;> omega
set_option maxRecDepth 20000 in
set_option maxHeartbeats 1000000 in
theorem boundsR_any (xk xa xb xlo xhi : Int) (xnm : ByteArray) (a b : Int) (ha : 0 ≤ a ∧ a ≤ 1000000) (hb : 0 ≤ b ∧ b ≤ 1000000) (w : World) : Calls Tryz.prog 148 #[.agg #[.int .i64 xk, .int .i64 xa, .int .i64 xb, .int .i64 xlo, .int .i64 xhi, .string xnm], .int .i64 a, .int .i64 b] w fun e w' => e = .returned (.bool (inB xlo xhi (b - a))) ∧ Below w.heap.size w w' := by
  have HA := hid ha
  have HB := hid hb
  have HL := hid (cmpI_lt (b - a) xlo)
  have HH := hid (cmpI_le (b - a) xhi)
  have HC1 := hid (fun w => gap_any a b xlo ha hb w)
  have HC2 := hid (fun w => gap_any a b xhi ha hb w)
  clear ha hb
  have HV : Hid (inB xlo xhi (b - a) = (decide (xlo ≤ b - a) && (decide (xhi = -1) || decide (b - a ≤ xhi)))) := rfl
  have HB0 := hid ((Below.refl w.heap.size w).alloc (Nat.le_refl _) (.cells #[.int .i64 xk, .int .i64 xa, .int .i64 xb, .int .i64 xlo, .int .i64 xhi, .string xnm] 81))
  generalize cmpI (b - a) xlo = r1 at *
  generalize cmpI (b - a) xhi = r2 at *
  by_cases h1 : r1 < 0
  · go_enter Tryz.func148, Tryz.ntmps148
    go_wp2_with (go_at_call 161; refine (HC1.out _).mono ?_; rintro e w' ⟨rfl, rfl⟩)
    go_ret
    have := HL.out.1 h1
    exact ⟨ret_bool (by rw [HV.out]; simp; omega), HB0.out⟩
  · by_cases h2 : xhi = -1
    · have h2' : (xhi == -1) = true := by simpa using h2
      go_enter Tryz.func148, Tryz.ntmps148
      go_wp2_with (go_at_call 161; refine (HC1.out _).mono ?_; rintro e w' ⟨rfl, rfl⟩)
      go_ret
      have hL := HL.out
      exact ⟨ret_bool (by rw [HV.out, Bool.eq_iff_iff]; simp [h2]; omega), (Below.refl _ _).alloc (Nat.le_refl _) _⟩
    · have h2' : (xhi == -1) = false := by simpa using h2
      have HN := hid h2
      clear h2
      go_enter Tryz.func148, Tryz.ntmps148
      go_wp2_with (first | (go_at_call_of 161 (xlo); refine (HC1.out _).mono ?_; rintro e w' ⟨rfl, rfl⟩) | (go_at_call 161; refine (HC2.out _).mono ?_; rintro e w' ⟨rfl, rfl⟩))
      go_ret
      have hL := HL.out
      have hH := HH.out
      exact ⟨ret_bool (by rw [HV.out, Bool.eq_iff_iff]; simp [HN.out]; omega), HB0.out⟩
end Go.Proofs.YtbfkbgmkibkbnaaGreatDoor
namespace Go.Proofs.YtbfkbgmkibkbnaaGreatDoor
open Go.RowKit
set_option linter.unusedVariables false
set_option linter.unusedSimpArgs false
set_option maxRecDepth 20000 in
set_option maxHeartbeats 4000000 in
theorem specAskR_any (lo hi : Int) (Z : List Int) (n : Nat) (hn : Z.length = n) (a : Option Addr) (c : Nat) (hl : n ≤ 2000000) (tm : Int) (ht : timeB tm = true) (hz : ∀ i, i < n → 0 ≤ zAt Z i ∧ zAt Z i ≤ 1000000) (w : World) (hA : ArgI w a Z) :
    Calls Tryz.prog 139 #[kpV lo hi a n c, .int .i64 tm] w fun e w' => e = .returned (.bool (askTo lo hi tm Z Z.length)) ∧ Below w.heap.size w w' := by
  unfold kpV
  subst hn
  obtain ⟨t1, t2⟩ := timeB_parts ht
  have HB0 := hid ((Below.refl w.heap.size w).alloc (Nat.le_refl _) (.cells #[.int .i64 lo, .int .i64 hi, .slice a Z.length c] 94))
  have HA := hid (hA.on HB0.out)
  have HBX := hid (KBox.new w lo hi a Z.length c 94)
  have HZ := hid hz
  clear hA ht hz
  go_enter Tryz.func139, Tryz.ntmps139
  go_wp2_with fail
  have hlz := HBX.out.lt
  have hw0 := HB0.out.size
  generalize w.alloc (.cells #[.int .i64 lo, .int .i64 hi, .slice a Z.length c] 94) = W at *
  go_loopw [5] (fun t wr => ∃ k : Nat, k ≤ Z.length ∧ t = .int .i64 k ∧ askTo lo hi tm Z k = false ∧ Below W.heap.size W wr) (fun t _ => Z.length - (intOf t).toNat)
  case atStart => exact ⟨0, Nat.zero_le _, rfl, rfl, Below.refl _ _⟩
  case round =>
    obtain ⟨k, hk, rfl, hg, hbel⟩ := hrel
    have HG := hid hg
    have HB := hid hbel
    obtain ⟨_, k0, k1, k2⟩ := HBX.out.below hbel hlz
    have hqz := Nat.lt_of_lt_of_le hlz hbel.size
    clear hg hbel
    by_cases hlt : k < Z.length
    · have HS1 := hid (askTo_succ lo hi tm Z k)
      have HYes := hid (askTo_true lo hi tm Z k Z.length hlt)
      rcases HA.out with h0 | ⟨b, off, rfl, hb, hc⟩
      · omega
      have d0 := (HB.out.cell (p := ⟨b, off + k, none⟩) hb).trans (hc k hlt)
      obtain ⟨z1, z2⟩ := HZ.out k hlt
      clear hc
      generalize zAt Z k = T at *
      rcases Bool.eq_false_or_eq_true (inB lo hi (tm - T)) with hx | hx
      · have HC := hid (fun w => specIn_is lo hi (tm - T) true hx w)
        have HX := hid hx
        clear hx
        go_wp2_with fail
        go_quiet ((go_at_call 121; exact Calls.quiet_of_same (HC.out _)))
        go_wp2_with fail
        go_ret
        exact ⟨ret_bool (HYes.out HX.out).symm, HB0.out.trans (below_drewN (HB.out.mono hw0) _)⟩
      · have HC := hid (fun w => specIn_is lo hi (tm - T) false hx w)
        have HX := hid hx
        clear hx
        go_wp2_with fail
        go_quiet ((go_at_call 121; exact Calls.quiet_of_same (HC.out _)))
        go_wp2_with fail
        go_roundw
        case rel => exact ⟨k + 1, by omega, by go_num, by rw [HS1.out, HG.out, HX.out]; rfl, below_drewN HB.out _⟩
        case measure => simp [intOf]; omega
    · have hk' : k = Z.length := by omega
      subst hk'
      go_wp2_with fail
      go_ret
      exact ⟨ret_bool HG.out.symm, HB0.out.trans (HB.out.mono hw0)⟩
theorem boundsR_is (lo hi : Int) (a b : Int) (v : Bool) (hv : inB lo hi (b - a) = v) (ha : 0 ≤ a ∧ a ≤ 1000000) (hb : 0 ≤ b ∧ b ≤ 1000000) (w : World) : Calls Tryz.prog 148 #[.agg #[.int .i64 0, .int .i64 0, .int .i64 0, .int .i64 lo, .int .i64 hi, .string ⟨#[]⟩], .int .i64 a, .int .i64 b] w fun e w' => e = .returned (.bool v) ∧ Below w.heap.size w w' := by
  subst hv
  exact boundsR_any 0 0 0 lo hi ⟨#[]⟩ a b ha hb w
structure NBox (W : World) (q : Nat) (lo hi : Int) : Prop where
  lt : q < W.heap.size
  n0 : W.cell? ⟨q, 0, none⟩ = some (.int .i64 0)
  n1 : W.cell? ⟨q, 1, none⟩ = some (.int .i64 0)
  n2 : W.cell? ⟨q, 2, none⟩ = some (.int .i64 0)
  n3 : W.cell? ⟨q, 3, none⟩ = some (.int .i64 lo)
  n4 : W.cell? ⟨q, 4, none⟩ = some (.int .i64 hi)
  n5 : W.cell? ⟨q, 5, none⟩ = some (.string ⟨#[]⟩)
theorem NBox.new (w : World) (lo hi : Int) (t : TypeId) : NBox (w.alloc (.cells #[.int .i64 0, .int .i64 0, .int .i64 0, .int .i64 lo, .int .i64 hi, .string ⟨#[]⟩] t)) w.heap.size lo hi :=
  ⟨by simp, by simp [go_sem], by simp [go_sem], by simp [go_sem], by simp [go_sem], by simp [go_sem], by simp [go_sem]⟩
theorem NBox.on {W W' : World} {q : Nat} {lo hi : Int} (h : NBox W q lo hi) (hb : Below W.heap.size W W') : NBox W' q lo hi :=
  ⟨Nat.lt_of_lt_of_le h.lt hb.size, (hb.cell (p := ⟨q, _, none⟩) h.lt).trans h.n0, (hb.cell (p := ⟨q, _, none⟩) h.lt).trans h.n1, (hb.cell (p := ⟨q, _, none⟩) h.lt).trans h.n2, (hb.cell (p := ⟨q, _, none⟩) h.lt).trans h.n3, (hb.cell (p := ⟨q, _, none⟩) h.lt).trans h.n4, (hb.cell (p := ⟨q, _, none⟩) h.lt).trans h.n5⟩
set_option maxRecDepth 20000 in
set_option maxHeartbeats 2000000 in
theorem implAsk_any (lo hi : Int) (Z : List Int) (n : Nat) (hn : Z.length = n) (a : Option Addr) (c : Nat) (hl : n ≤ 2000000) (tm : Int) (w : World) (hA : ArgI w a Z) :
    Calls Tryz.prog 164 #[kpV lo hi a n c, .int .i64 tm] w fun e w' => e = .returned (.bool (kaB lo hi Z tm)) ∧ Below w.heap.size w w' := by
  subst hn
  have HB0 := hid ((Below.refl w.heap.size w).alloc (Nat.le_refl _) (.cells #[.int .i64 lo, .int .i64 hi, .slice a Z.length c] 94))
  have HA := hid (hA.on HB0.out)
  have HBX := hid (KBox.new w lo hi a Z.length c 94)
  have HD : Hid (kaB lo hi Z tm = (krB lo hi Z && (timeB tm && askTo lo hi tm Z Z.length))) := rfl
  clear hA
  rcases Bool.eq_false_or_eq_true (krB lo hi Z) with hk | hk
  rotate_left
  · have HC := hid (implKr_is lo hi Z false hk Z.length rfl a c hl _ HA.out)
    have HK := hid hk
    unfold kpV
    clear hk
    go_enter Tryz.func164, Tryz.ntmps164
    go_wp2_with (go_at_call 100; refine HC.out.mono ?_; rintro e w1 ⟨rfl, hb⟩; have HB1 := hid (HB0.out.trans (hb.mono (by simp))); clear hb)
    go_ret
    exact ⟨ret_bool (by rw [HD.out, HK.out]; rfl), HB1.out⟩
  have HC := hid (implKr_is lo hi Z true hk Z.length rfl a c hl _ HA.out)
  have HK := hid hk
  clear hk
  rcases Bool.eq_false_or_eq_true (timeB tm) with ht | ht
  rotate_left
  · have HT := hid ht
    have HC2 := hid (fun w => timeI_is tm false ht w)
    unfold kpV
    clear ht
    go_enter Tryz.func164, Tryz.ntmps164
    go_wp2_with (first | (go_at_call 100; refine HC.out.mono ?_; rintro e w1 ⟨rfl, hb⟩; have HB1 := hid (HB0.out.trans (hb.mono (by simp))); clear hb) | (go_at_call 95; refine (HC2.out _).mono ?_; rintro e w' ⟨rfl, rfl⟩))
    go_ret
    exact ⟨ret_bool (by rw [HD.out, HK.out, HT.out]; rfl), HB1.out⟩
  have HT := hid ht
  have HC2 := hid (fun w => timeI_is tm true ht w)
  have HTM := hid (timeB_parts ht)
  have HZ := hid (krB_times HK.out)
  unfold kpV
  clear ht
  go_enter Tryz.func164, Tryz.ntmps164
  go_wp2_with (first | (go_at_call 100; refine HC.out.mono ?_; rintro e w1 ⟨rfl, hb⟩; have HB1 := hid (HB0.out.trans (hb.mono (by simp))); have HA1 := hid (HA.out.on hb); have hz1 := HB1.out.size; have HX1 := hid (HBX.out.on hb); obtain ⟨_, k0, k1, k2⟩ := HBX.out.on hb; clear hb) | (go_at_call 95; refine (HC2.out _).mono ?_; rintro e w' ⟨rfl, rfl⟩))
  have HN0 := hid (NBox.new w1 lo hi 81)
  have HBn := hid (below_one' w1 (.cells #[.int .i64 0, .int .i64 0, .int .i64 0, .int .i64 lo, .int .i64 hi, .string ⟨#[]⟩] 81))
  have HAW := hid (HA1.out.on HBn.out)
  have HBW := hid (HB1.out.trans (HBn.out.mono hz1))
  generalize w1.alloc (.cells #[.int .i64 0, .int .i64 0, .int .i64 0, .int .i64 lo, .int .i64 hi, .string ⟨#[]⟩] 81) = W at *
  have hzW := HBW.out.size
  clear k0 k1 k2
  go_loopw [24] (fun t wr => ∃ k : Nat, k ≤ Z.length ∧ t = .int .i64 k ∧ askTo lo hi tm Z k = false ∧ Below W.heap.size W wr) (fun t _ => Z.length - (intOf t).toNat)
  case atStart => exact ⟨0, Nat.zero_le _, rfl, rfl, Below.refl _ _⟩
  case round =>
    obtain ⟨k, hk, rfl, hg, hbel⟩ := hrel
    have HG := hid hg
    have HB := hid hbel
    have HBE := hid (HBW.out.trans (hbel.mono hzW))
    have hze := HBE.out.size
    obtain ⟨_, n0, n1, n2, n3, n4, n5⟩ := HN0.out.on hbel
    clear hg hbel
    by_cases hlt : k < Z.length
    · have HS1 := hid (askTo_succ lo hi tm Z k)
      have HYes := hid (askTo_true lo hi tm Z k Z.length hlt)
      rcases HAW.out with h0 | ⟨b, off, rfl, hb, hc⟩
      · omega
      have d0 := (HB.out.cell (p := ⟨b, off + k, none⟩) hb).trans (hc k hlt)
      have HZk := hid (HZ.out k hlt)
      clear hc
      generalize zAt Z k = T at *
      rcases Bool.eq_false_or_eq_true (inB lo hi (tm - T)) with hx | hx
      · have HC := hid (fun w => boundsR_is lo hi T tm true hx HZk.out HTM.out w)
        have HX := hid hx
        clear hx
        go_wp2_with (go_at_call 148; refine (HC.out _).mono ?_; rintro e w3 ⟨rfl, hb3⟩; have HB3 := hid (HBE.out.trans (hb3.mono hze)); clear hb3)
        go_ret
        exact ⟨ret_bool (by rw [HD.out, HK.out, HT.out, HYes.out HX.out]; rfl), HB3.out⟩
      · have HC := hid (fun w => boundsR_is lo hi T tm false hx HZk.out HTM.out w)
        have HX := hid hx
        have hwz := HB.out.size
        clear hx
        go_wp2_with (go_at_call 148; refine (HC.out _).mono ?_; rintro e w3 ⟨rfl, hb3⟩; have HB3 := hid (HB.out.trans (hb3.mono hwz)); clear hb3)
        go_roundw
        case rel => exact ⟨k + 1, by omega, by go_num, by rw [HS1.out, HG.out, HX.out]; rfl, HB3.out⟩
        case measure => simp [intOf]; omega
    · have hk' : k = Z.length := by omega
      subst hk'
      go_wp2_with fail
      go_ret
      exact ⟨ret_bool (by rw [HD.out, HK.out, HT.out, HG.out]; rfl), HBE.out⟩
end Go.Proofs.YtbfkbgmkibkbnaaGreatDoor
namespace Go.Proofs.YtbfkbgmkibkbnaaGreatDoor
open Go.RowKit
set_option linter.unusedVariables false
set_option linter.unusedSimpArgs false
def keepsB (hi tm z : Int) : Bool := decide (hi < 0) || decide (tm - z ≤ hi)
def dropTo (hi tm : Int) (Z : List Int) (k : Nat) : List Int := ((List.range k).map (zAt Z)).filter (keepsB hi tm)
def dropI (hi tm : Int) (Z : List Int) : List Int := dropTo hi tm Z Z.length
theorem dropTo_yes (hi tm : Int) (Z : List Int) (k : Nat) (h : keepsB hi tm (zAt Z k) = true) : dropTo hi tm Z (k + 1) = dropTo hi tm Z k ++ [zAt Z k] := by
  simp [dropTo, List.range_succ, h]
theorem dropTo_no (hi tm : Int) (Z : List Int) (k : Nat) (h : keepsB hi tm (zAt Z k) = false) : dropTo hi tm Z (k + 1) = dropTo hi tm Z k := by
  simp [dropTo, List.range_succ, h]
theorem dropTo_len (hi tm : Int) (Z : List Int) (k : Nat) : (dropTo hi tm Z k).length ≤ k := by
  have := List.length_filter_le (keepsB hi tm) ((List.range k).map (zAt Z))
  simpa [dropTo] using this
/-- A row of numbers that the call owns. -/
def OwnI (w : World) (base : Nat) (v : Value) (Z : List Int) : Prop := w.ownsRow base 2 1 v Z.length (Z.map (Value.int .i64))
theorem OwnI.save {w w' : World} {base : Nat} {v : Value} {Z : List Int} {S : Nat → Prop} (h : OwnI w base v Z) (hs : Save w w' S) (hS : ∀ k, v.ownBlock = some k → ¬ S k) : OwnI w' base v Z := by
  refine ⟨h.1, ?_⟩
  rcases h.2 with hn | ⟨b, cap, cur, rfl, hb, hg, rest⟩
  · exact .inl hn
  · refine .inr ⟨b, cap, cur, rfl, hb, ?_, rest⟩
    rw [hs.block b (Array.getElem?_eq_some_iff.1 hg).1 (hS b rfl)]
    exact hg
theorem OwnI.low {w : World} {base base' : Nat} {v : Value} {Z : List Int} (h : OwnI w base v Z) (hb : base' ≤ base) : OwnI w base' v Z := by
  refine ⟨h.1, ?_⟩
  rcases h.2 with hn | ⟨b, cap, cur, rfl, h1, rest⟩
  · exact .inl hn
  · exact .inr ⟨b, cap, cur, rfl, by omega, rest⟩
theorem OwnI.nil (w : World) (base : Nat) : OwnI w base (.slice none 0 0) [] := World.ownsRow_nil _ _ _ _
theorem OwnI.lt {w : World} {base : Nat} {v : Value} {Z : List Int} (h : OwnI w base v Z) : ∀ k, v.ownBlock = some k → base ≤ k ∧ k < w.heap.size := World.ownsRow.lt h
theorem OwnI.on {w w' : World} {base : Nat} {v : Value} {Z : List Int} (h : OwnI w base v Z) (hb : Below w.heap.size w w') : OwnI w' base v Z :=
  h.save (S := fun _ => False) (Save.of_below hb _ (fun j h1 h2 => absurd h1 (by omega))) (fun _ _ h => h)
theorem OwnI.form {w : World} {base : Nat} {v : Value} {Z : List Int} (h : OwnI w base v Z) : ∃ a c, v = .slice a Z.length c ∧ ArgI w a Z ∧ RowIs w a Z.length ∧ ∀ q, a = some q → base ≤ q.block ∧ q.block < w.heap.size := by
  rcases h.2 with ⟨hv, h0⟩ | ⟨g, cap, cur, hv, hb, hg, h1, h2, h3, h4⟩
  · exact ⟨none, 0, by rw [hv, h0], Or.inl h0, Or.inl h0, fun b e => (by cases e)⟩
  · have hlt := (Array.getElem?_eq_some_iff.1 hg).1
    refine ⟨some ⟨g, 0, none⟩, cap, hv, Or.inr ⟨g, 0, rfl, hlt, fun i hi => ?_⟩, Or.inr ⟨g, fun j => cur.getD j undef, cap, rfl, h1, ⟨cur, hg, by omega, fun i hi => ?_⟩⟩, fun b e => (by injection e with e1; subst e1; exact ⟨hb, hlt⟩)⟩
    · have h5 := World.ownsRow.cells h (g := g) (by rw [hv]; rfl) i (.int .i64 (zAt Z i)) (by simp [zAt, hi])
      rw [Addr.add_lit] at h5
      exact h5
    · have hi' : i < cur.size := by omega
      simp [hi']
theorem OwnI.arg {w : World} {base : Nat} {a : Option Addr} {n c : Nat} {Z : List Int} (h : OwnI w base (.slice a n c) Z) : ArgI w a Z := by
  obtain ⟨a', c', e, h1, _⟩ := h.form
  injection e with e1 e2 e3
  subst e1
  exact h1
theorem Save.over {a b c : World} {S T : Nat → Prop} (h : Save a b S) (k : Save b c T) (hT : ∀ j, j < a.heap.size → T j → S j) : Save a c S :=
  ⟨k.os.trans h.os, k.tape.trans h.tape, k.output.trans h.output, Nat.le_trans h.size k.size, fun j hj hs => (k.block j (Nat.lt_of_lt_of_le hj h.size) (fun t => hs (hT j hj t))).trans (h.block j hj hs)⟩
/-- Three boxes of a call over Keeps, one behind the other. -/
structure KBox3 (W : World) (q : Nat) (lo hi : Int) (a : Option Addr) (n c : Nat) : Prop where
  sz : W.heap.size = q + 3
  x : KBox W q lo hi a n c
  r : KBox W (q + 1) 0 0 none 0 0
  o : KBox W (q + 1 + 1) lo hi none 0 0
  f0 : W.frozen? ⟨q + 1, 0, none⟩ = false
  f1 : W.frozen? ⟨q + 1, 1, none⟩ = false
  f2 : W.frozen? ⟨q + 1, 2, none⟩ = false
  g2 : W.frozen? ⟨q + 1 + 1, 2, none⟩ = false
def kO (lo hi : Int) (a : Option Addr) (n c : Nat) : Obj := .cells #[.int .i64 lo, .int .i64 hi, .slice a n c] 94
theorem KBox3.new (w : World) (lo hi : Int) (a : Option Addr) (n c : Nat) : KBox3 (((w.alloc (kO lo hi a n c)).alloc (kO 0 0 none 0 0)).alloc (kO lo hi none 0 0)) w.heap.size lo hi a n c := by
  unfold kO
  have e1 : w.heap.size + 1 = (w.alloc (.cells #[.int .i64 lo, .int .i64 hi, .slice a n c] 94)).heap.size := by simp
  have e2 : w.heap.size + 1 + 1 = ((w.alloc (.cells #[.int .i64 lo, .int .i64 hi, .slice a n c] 94)).alloc (.cells #[.int .i64 0, .int .i64 0, .slice none 0 0] 94)).heap.size := by simp
  refine ⟨by simp, ⟨by simp; omega, by simp [go_sem], by simp [go_sem], by simp [go_sem]⟩, ?_, ?_, ?_, ?_, ?_, ?_⟩
  · rw [e1]; exact (KBox.new _ 0 0 none 0 0 94).on (below_one' _ _)
  · rw [e2]; exact KBox.new _ lo hi none 0 0 94
  · rw [e1]; simp [go_sem]
  · rw [e1]; simp [go_sem]
  · rw [e1]; simp [go_sem]
  · rw [e2]; simp [go_sem]
theorem below3 (w : World) (o1 o2 o3 : Obj) : Below w.heap.size w (((w.alloc o1).alloc o2).alloc o3) := (((Below.refl w.heap.size w).alloc (Nat.le_refl _) o1).alloc (by simp) o2).alloc (by simp; omega) o3
theorem frozen_setCell {w : World} {p a : Addr} {v : Value} (h : w.frozen? p = false) : (w.setCell a v).frozen? p = false := by simpa using h
theorem set3 (w : World) (q : Nat) (lo hi : Int) (v : Value) : Save w (((w.setCell ⟨q, 0, none⟩ (.int .i64 lo)).setCell ⟨q, 1, none⟩ (.int .i64 hi)).setCell ⟨q, 2, none⟩ v) (fun j => j = q) :=
  Save.setCell (S := fun j => j = q) (Save.setCell (S := fun j => j = q) (Save.setCell (S := fun j => j = q) (Save.refl w _) (p := ⟨q, 0, none⟩) (fun _ => rfl) _) (p := ⟨q, 1, none⟩) (fun _ => rfl) _) (p := ⟨q, 2, none⟩) (fun _ => rfl) _
/-- What stands in a round of l05Drop. -/
structure DropAt (W w : World) (q : Nat) (lo hi : Int) (va : Option Addr) (vc : Nat) (D : List Int) : Prop where
  own : OwnI w (q + 3) (.slice va D.length vc) D
  box : KBox w (q + 1 + 1) lo hi va D.length vc
  fr : w.frozen? ⟨q + 1 + 1, 2, none⟩ = false
  sv : Save W w (fun j => j = q + 1 + 1)
theorem DropAt.drewN {W w : World} {q : Nat} {lo hi : Int} {va : Option Addr} {vc : Nat} {D : List Int} (h : DropAt W w q lo hi va vc D) (n : Nat) : DropAt W (w.drewN n) q lo hi va vc D :=
  ⟨h.own, ⟨h.box.lt, h.box.k0, h.box.k1, h.box.k2⟩, h.fr, h.sv.drewN n⟩
theorem DropAt.mid {W V V' w3 : World} {q : Nat} {lo hi : Int} {va : Option Addr} {vc : Nat} {D : List Int} (h : DropAt W V q lo hi va vc D) (h1 : Save V V' (fun _ => False)) (hg : V'.grownBy w3 (Value.slice va D.length vc).ownBlock) :
    w3.cell? ⟨q + 1 + 1, 2, none⟩ = some (.slice va D.length vc) ∧ w3.frozen? ⟨q + 1 + 1, 2, none⟩ = false := by
  have hs : Save V w3 (fun j => (Value.slice va D.length vc).ownBlock = some j) := (h1.mono (T := fun j => (Value.slice va D.length vc).ownBlock = some j) (fun _ _ f => f.elim)).grown hg (fun k e _ => e)
  have hn : ¬ (Value.slice va D.length vc).ownBlock = some (q + 1 + 1) := fun e => by have := (h.own.lt _ e).1; omega
  exact ⟨(hs.cell (p := ⟨q + 1 + 1, 2, none⟩) h.box.lt hn).trans h.box.k2, (hs.frozen (p := ⟨q + 1 + 1, 2, none⟩) h.box.lt hn).trans h.fr⟩
theorem DropAt.put {W V V' w3 : World} {q : Nat} {lo hi : Int} {va : Option Addr} {vc : Nat} {D : List Int} {T : Int} {gb cp : Nat} (h : DropAt W V q lo hi va vc D) (hW : W.heap.size = q + 3) (h1 : Save V V' (fun _ => False)) (hg : V'.grownBy w3 (Value.slice va D.length vc).ownBlock) (ho : OwnI w3 (q + 3) (.slice (some ⟨gb, 0, none⟩) (D.length + 1) cp) (D ++ [T])) :
    DropAt W (w3.setCell ⟨q + 1 + 1, 2, none⟩ (.slice (some ⟨gb, 0, none⟩) (D.length + 1) cp)) q lo hi (some ⟨gb, 0, none⟩) cp (D ++ [T]) := by
  have hs : Save V w3 (fun j => (Value.slice va D.length vc).ownBlock = some j) := (h1.mono (T := fun j => (Value.slice va D.length vc).ownBlock = some j) (fun _ _ f => f.elim)).grown hg (fun k e _ => e)
  have hn : ¬ (Value.slice va D.length vc).ownBlock = some (q + 1 + 1) := fun e => by have := (h.own.lt _ e).1; omega
  have hb3 : q + 1 + 1 < w3.heap.size := Nat.lt_of_lt_of_le h.box.lt hs.size
  have hl : (D ++ [T]).length = D.length + 1 := by simp
  have c2 := (hs.cell (p := ⟨q + 1 + 1, 2, none⟩) h.box.lt hn).trans h.box.k2
  have hset : Save w3 (w3.setCell ⟨q + 1 + 1, 2, none⟩ (.slice (some ⟨gb, 0, none⟩) (D.length + 1) cp)) (fun j => j = q + 1 + 1) := Save.setCell (S := fun j => j = q + 1 + 1) (Save.refl w3 _) (p := ⟨q + 1 + 1, 2, none⟩) (fun _ => rfl) _
  refine ⟨?_, ⟨Nat.lt_of_lt_of_le hb3 hset.size, ?_, ?_, ?_⟩, ?_, ?_⟩
  · rw [hl]; exact ho.save hset (fun k e => by have := (ho.lt k e).1; intro h; omega)
  · rw [World.cell?_setCell_other _ _ _ _ (by simp)]; exact (hs.cell (p := ⟨q + 1 + 1, 0, none⟩) h.box.lt hn).trans h.box.k0
  · rw [World.cell?_setCell_other _ _ _ _ (by simp)]; exact (hs.cell (p := ⟨q + 1 + 1, 1, none⟩) h.box.lt hn).trans h.box.k1
  · rw [hl]; simp [go_sem, c2]
  · exact frozen_setCell ((hs.frozen (p := ⟨q + 1 + 1, 2, none⟩) h.box.lt hn).trans h.fr)
  · exact Save.setCell (S := fun j => j = q + 1 + 1) (h.sv.over hs (fun j hj e => by have := (h.own.lt _ e).1; omega)) (p := ⟨q + 1 + 1, 2, none⟩) (fun _ => rfl) _
set_option maxRecDepth 20000 in
set_option maxHeartbeats 4000000 in
theorem specDropR_any (lo hi : Int) (Z : List Int) (n : Nat) (hn : Z.length = n) (a : Option Addr) (c : Nat) (hl : n ≤ 2000000) (tm : Int) (ht : 0 ≤ tm ∧ tm ≤ 1000000) (hz : ∀ i, i < n → 0 ≤ zAt Z i ∧ zAt Z i ≤ 1000000) (w : World) (hA : ArgI w a Z) :
    Calls Tryz.prog 138 #[kpV lo hi a n c, .int .i64 tm] w fun e w' => ∃ va vc, e = .returned (kpV lo hi va (dropI hi tm Z).length vc) ∧ OwnI w' w.heap.size (.slice va (dropI hi tm Z).length vc) (dropI hi tm Z) ∧ Below w.heap.size w w' := by
  subst hn
  obtain ⟨t1, t2⟩ := ht
  have HU : Hid (∀ a n c, kpV lo hi a n c = .agg #[.int .i64 lo, .int .i64 hi, .slice a n c]) := fun _ _ _ => rfl
  obtain ⟨i0, hi0, hz0, hz1, hz2⟩ := info_parts Tryz.infoI
  have HB0 := hid (below3 w (kO lo hi a Z.length c) (kO 0 0 none 0 0) (kO lo hi none 0 0))
  have HK := hid (KBox3.new w lo hi a Z.length c)
  have HA := hid hA
  have HZ := hid hz
  unfold kO at HB0 HK
  rw [HU.out]
  clear hA hz
  go_enter Tryz.func138, Tryz.ntmps138
  go_wp2_with fail
  generalize ((w.alloc (.cells #[.int .i64 lo, .int .i64 hi, .slice a Z.length c] 94)).alloc (.cells #[.int .i64 0, .int .i64 0, .slice none 0 0] 94)).alloc (.cells #[.int .i64 lo, .int .i64 hi, .slice none 0 0] 94) = W at *
  have hWz := HK.out.sz
  go_loopw [6] (fun t wr => ∃ (k : Nat) (va : Option Addr) (vc : Nat), k ≤ Z.length ∧ t = .int .i64 k ∧ DropAt W wr w.heap.size lo hi va vc (dropTo hi tm Z k)) (fun t _ => Z.length - (intOf t).toNat)
  case atStart => exact ⟨0, none, 0, Nat.zero_le _, rfl, ⟨OwnI.nil _ _, HK.out.o, HK.out.g2, Save.refl _ _⟩⟩
  case round =>
    obtain ⟨k, va, vc, hk, rfl, hD⟩ := hrel
    have HD := hid hD
    have hdl := dropTo_len hi tm Z k
    have hsz := hD.sv.size
    obtain ⟨hq0, k0, k1, k2⟩ := HK.out.x.save hD.sv (by omega)
    obtain ⟨hq2, o0, o1, o2⟩ := hD.box
    have hfr := hD.fr
    clear hD
    by_cases hlt : k < Z.length
    · have HYes := hid (dropTo_yes hi tm Z k)
      have HNo := hid (dropTo_no hi tm Z k)
      rcases HA.out with h0 | ⟨b, off, rfl, hb, hc⟩
      · omega
      have d0 := (HD.out.sv.cell (p := ⟨b, off + k, none⟩) (by show b < W.heap.size; omega) (by show ¬ b = w.heap.size + 1 + 1; omega)).trans ((HB0.out.cell (p := ⟨b, off + k, none⟩) hb).trans (hc k hlt))
      have hbr : b < wr.heap.size := by omega
      obtain ⟨z1, z2⟩ := HZ.out k hlt
      clear hc
      generalize hT : zAt Z k = T at *
      have HT := hid hT
      clear hT
      have HKB : Hid (keepsB hi tm T = (decide (hi < 0) || decide (tm - T ≤ hi))) := rfl
      by_cases hno : 0 ≤ hi ∧ hi < tm - T
      · obtain ⟨n1, n2⟩ := hno
        have HN := hid (HNo.out (by rw [HKB.out]; simp; omega))
        have n1' : decide (hi < 0) = false := by simp; omega
        have n2' : decide (tm - T ≤ hi) = false := by simp; omega
        generalize dropTo hi tm Z k = D at *
        go_wp2_with fail
        go_quiet (fail)
        go_wp2_with fail
        go_roundw
        case rel => exact ⟨k + 1, va, vc, by omega, by go_num, by rw [HN.out]; exact HD.out.drewN _⟩
        case measure => simp [intOf]; omega
      · have HY := hid (HYes.out (by rw [HKB.out]; simp; omega))
        generalize dropTo hi tm Z k = D at *
        have hgd : decide (hi < 0) = true ∨ (decide (hi < 0) = false ∧ decide (tm - T ≤ hi) = true) := by
          by_cases h : hi < 0
          · exact Or.inl (by simpa using h)
          · exact Or.inr ⟨by simpa using h, by simp; omega⟩
        clear hno
        rcases hgd with h | ⟨h, h'⟩
        all_goals
          go_wp2_with fail
          go_quiet (fail)
          have HD1 := hid (HD.out.drewN nq)
          have HSV := hid ((Save.refl wr (fun _ => False)).drewN nq)
          generalize wr.drewN nq = V at *
          have hzV := HSV.out.size
          have e0 := (HSV.out.cell (p := ⟨b, off + k, none⟩) hbr (fun h => h)).trans d0
          have e2 := (HSV.out.cell (p := ⟨w.heap.size, 2, none⟩) hq0 (fun h => h)).trans k2
          have p2 := HD1.out.box.k2
          have hpz := HD1.out.box.lt
          have hpf := HD1.out.fr
          clear k0 k1 k2 o0 o1 o2 hfr d0
          go_wp2_with fail
          go_region_law (refine step_append_own rfl (.tmp 35) (.tmp 41) 82 rfl (w.heap.size + 3) 2 i0 _ 1 8 Tryz.uIs hi0 hz0 hz1 hz2 rfl (by decide) (.slice va D.length vc) D.length (D.map (Value.int .i64)) (by simp [Act.eval, Act.put]) (HD1.out.own.alloc _).drew ⟨V.heap.size, 0, none⟩ 1 1 [.int .i64 T] (by simp [Act.eval, Act.put]) rfl (cell_one V _ _) (by simp [Value.oneCell']) (by unfold maxLen; omega) (by omega) (by simp; omega) ?_; intro v' w3 hown3 hgrow3 hloc3; obtain ⟨gb, cp, rfl, _, _⟩ := World.ownsRow.form hown3 (by omega); have HO3 : Hid (OwnI w3 (w.heap.size + 3) (.slice (some ⟨gb, 0, none⟩) (D.length + 1) cp) (D ++ [T])) := (by show w3.ownsRow _ _ _ _ _ _; simpa using hown3); have HP := hid (HD1.out.put hWz (((Save.refl V (fun _ => False)).alloc _).drew) hgrow3 HO3.out); have hfc3 := HD1.out.mid (((Save.refl V (fun _ => False)).alloc _).drew) hgrow3; have hc3 := hfc3.1; have hf3 := hfc3.2; clear hfc3; clear hown3 hgrow3 hloc3)
          all_goals
            go_wp2_with fail
            go_roundw
            case rel => exact ⟨k + 1, some ⟨gb, 0, none⟩, cp, by omega, by go_num, by rw [HY.out]; exact HP.out⟩
            case measure => simp [intOf]; omega
    · have hk' : k = Z.length := by omega
      subst hk'
      have HE : Hid (dropI hi tm Z = dropTo hi tm Z Z.length) := rfl
      obtain ⟨r1, r2, r3, r4⟩ := HK.out.r.save HD.out.sv (by omega)
      have s0 := (HD.out.sv.frozen (p := ⟨w.heap.size + 1, 0, none⟩) (by show w.heap.size + 1 < W.heap.size; omega) (by show ¬ w.heap.size + 1 = w.heap.size + 1 + 1; omega)).trans HK.out.f0
      have s1 := (HD.out.sv.frozen (p := ⟨w.heap.size + 1, 1, none⟩) (by show w.heap.size + 1 < W.heap.size; omega) (by show ¬ w.heap.size + 1 = w.heap.size + 1 + 1; omega)).trans HK.out.f1
      have s2 := (HD.out.sv.frozen (p := ⟨w.heap.size + 1, 2, none⟩) (by show w.heap.size + 1 < W.heap.size; omega) (by show ¬ w.heap.size + 1 = w.heap.size + 1 + 1; omega)).trans HK.out.f2
      have HSet := hid (set3 wr (w.heap.size + 1) lo hi (.slice va (dropTo hi tm Z Z.length).length vc))
      generalize dropTo hi tm Z Z.length = D at *
      go_wp2_with fail
      refine bodyPost_ret (v := .agg #[.int .i64 lo, .int .i64 hi, .slice va D.length vc]) (by simp [results, Tryz.results138, go_sem, r2, r3, r4, s0, s1, s2]) rfl ?_
      rw [HE.out]
      refine ⟨va, vc, rfl, ?_, ?_⟩
      · exact (HD.out.own.save HSet.out (fun k e h => by have := (HD.out.own.lt k e).1; omega)).low (by omega)
      · exact (HB0.out.trans (HD.out.sv.below (B := w.heap.size) (by omega) (fun j h => by omega))).trans (HSet.out.below (B := w.heap.size) (by omega) (fun j h => by omega))
end Go.Proofs.YtbfkbgmkibkbnaaGreatDoor
