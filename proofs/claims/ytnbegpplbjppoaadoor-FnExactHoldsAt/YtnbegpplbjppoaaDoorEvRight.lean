/-
  EventRight, the model's and the program's, by one contract.
-/
import Derived.Test.YtnbegpplbjppoaaDoorEv
import Derived.Test.YtnbegpplbjppoaaDoorTm
import Derived.Deep.QuietTactic
import Derived.BigQuiet
namespace Go.Proofs.YtnbegpplbjppoaaDoor
open Go.RowKit
set_option linter.unusedVariables false
set_option linter.unusedSimpArgs false
set_option maxRecDepth 20000 in
set_option maxHeartbeats 2000000 in
theorem specNames_any (S : List ByteArray) (n : Nat) (hn : S.length = n) (a : Option Addr) (c : Nat) (hs : TxOk S) (hl : n ≤ maxLen) (w : World) (hA : TsAt w a S) :
    Calls Tryd.prog 48 #[.slice a n c] w fun e w' => e = .returned (.bool (namesB S)) ∧ Below w.heap.size w w' := by
  unfold maxLen at hl
  subst hn
  have HS := hid hs
  have HA := hid hA
  clear hs hA
  by_cases h8 : 8 < S.length
  · have HN := hid (namesB_long S h8)
    go_enter Tryd.func48, Tryd.ntmps48
    go_wp2_with fail
    go_ret
    exact ⟨ret_bool HN.out.symm, Below.refl _ _⟩
  go_enter Tryd.func48, Tryd.ntmps48
  go_wp2_with fail
  go_loopw [3] (fun t wr => ∃ k : Nat, k ≤ S.length ∧ t = .int .i64 k ∧ namesTo S k = true ∧ Below w.heap.size w wr) (fun t _ => S.length - (intOf t).toNat)
  case atStart => exact ⟨0, Nat.zero_le _, rfl, rfl, Below.refl _ _⟩
  case round =>
    obtain ⟨k, hk, rfl, hg, hbel⟩ := hrel
    have HG := hid hg
    have HB := hid hbel
    clear hg hbel
    by_cases hlt : k < S.length
    · have HS1 := hid (namesTo_succ S k)
      have HNo := hid (namesB_no S k hlt)
      rcases HA.out with h0 | ⟨b, rfl, hb, hc⟩
      · omega
      have d0 := (HB.out.cell (p := ⟨b, k, none⟩) hb).trans (hc k hlt)
      have HX := hid (HS.out k hlt)
      cases k with
      | zero =>
        generalize hT : txAt S 0 = T at *
        clear hT hc
        rcases Bool.eq_false_or_eq_true (wordB T) with hw | hw
        · go_wp2_with fail
          go_quiet ((go_at_call 44; exact Calls.quiet_of_same (specWord_any _ _ HX.out)))
          go_wp2_with fail
          go_roundw
          case rel => exact ⟨1, by omega, by go_num, by rw [HS1.out, HG.out, hw]; rfl, below_drewN HB.out _⟩
          case measure => simp [intOf]; omega
        · go_wp2_with fail
          go_quiet ((go_at_call 44; exact Calls.quiet_of_same (specWord_any _ _ HX.out)))
          go_wp2_with fail
          go_ret
          exact ⟨ret_bool (HNo.out (by rw [HS1.out, hw]; simp)).symm, below_drewN HB.out _⟩
      | succ j =>
        have d1 := (HB.out.cell (p := ⟨b, j, none⟩) hb).trans (hc j (by omega))
        simp only [Nat.add_sub_cancel] at HS1
        generalize hT : txAt S (j + 1) = T at *
        generalize hU : txAt S j = U at *
        clear hT hU hc
        rcases Bool.eq_false_or_eq_true (wordB T) with hw | hw <;> rcases Bool.eq_false_or_eq_true (Op.bytesLess U.toList T.toList) with hx | hx
        · go_wp2_with fail
          go_quiet ((go_at_call 44; exact Calls.quiet_of_same (specWord_any _ _ HX.out)))
          go_wp2_with fail
          go_roundw
          case rel => exact ⟨j + 2, by omega, by go_num, by rw [HS1.out, HG.out, hw, hx]; simp, below_drewN HB.out _⟩
          case measure => simp [intOf]; omega
        all_goals
          go_wp2_with fail
          go_quiet ((go_at_call 44; exact Calls.quiet_of_same (specWord_any _ _ HX.out)))
          go_wp2_with fail
          go_ret
          exact ⟨ret_bool (HNo.out (by rw [HS1.out]; simp [hw, hx])).symm, below_drewN HB.out _⟩
    · have hk' : k = S.length := by omega
      subst hk'
      have HN := hid (namesB_yes S (by omega) HG.out)
      go_wp2_with fail
      go_ret
      exact ⟨ret_bool HN.out.symm, HB.out⟩
set_option maxRecDepth 20000 in
set_option maxHeartbeats 2000000 in
theorem specEvent_any (t : Int) (S : List ByteArray) (n : Nat) (hn : S.length = n) (a : Option Addr) (c : Nat) (hs : TxOk S) (hl : n ≤ maxLen) (w : World) (hA : TsAt w a S) :
    Calls Tryd.prog 35 #[.agg #[.int .i64 t, .slice a n c]] w fun e w' => e = .returned (.bool (evB t S)) ∧ Below w.heap.size w w' := by
  have HB0 := hid ((Below.refl w.heap.size w).alloc (Nat.le_refl _) (.cells #[.int .i64 t, .slice a n c] 45))
  have HC := hid (specNames_any S n hn a c hs hl _ (hA.below HB0.out))
  clear hn hs hl hA
  rcases Bool.eq_false_or_eq_true (timeB t) with ht | ht
  · have HE : Hid (evB t S = namesB S) := by show evB t S = _; unfold timeB at ht; simp [evB, ht]
    go_enter Tryd.func35, Tryd.ntmps35
    go_wp2_with (first | (go_at_call 47; refine (specTime_any _ _).mono ?_; rintro e w' ⟨rfl, rfl⟩) | (go_at_call 48; refine HC.out.mono ?_; rintro e w1 ⟨rfl, hb⟩; have HB1 := hid (HB0.out.trans (hb.mono (by simp))); clear hb))
    go_ret
    exact ⟨ret_bool HE.out.symm, HB1.out⟩
  · have HE : Hid (evB t S = false) := by show evB t S = _; unfold timeB at ht; simp [evB, ht]
    go_enter Tryd.func35, Tryd.ntmps35
    go_wp2_with (go_at_call 47; refine (specTime_any _ _).mono ?_; rintro e w' ⟨rfl, rfl⟩)
    go_ret
    exact ⟨ret_bool HE.out.symm, HB0.out⟩
/-- No name is empty. -/
theorem word_full (T : ByteArray) (h : wordB T = true) : T.toList.isEmpty = false := by
  have h1 := (wordB_len T h).1
  have h2 : T.toList = T.data.toList := ByteArray.toList_eq T
  have h3 : T.data.toList.length = T.size := rfl
  rw [h2]
  cases hl : T.data.toList with
  | nil => rw [hl] at h3; simp at h3; omega
  | cons x l => rfl
theorem less_nil (l : List UInt8) : Op.bytesLess l [] = false := by cases l <;> rfl
theorem less_irr : ∀ a : List UInt8, Op.bytesLess a a = false
  | [] => rfl
  | x :: a => by simp [Op.bytesLess, less_irr a]
theorem less_asym : ∀ a b : List UInt8, Op.bytesLess a b = true → Op.bytesLess b a = false
  | _, [], h => by simp [less_nil] at h
  | [], _ :: _, _ => rfl
  | x :: a, y :: b, h => by
    simp only [Op.bytesLess, Bool.or_eq_true, Bool.and_eq_true, decide_eq_true_eq, beq_iff_eq] at h
    simp only [Op.bytesLess, Bool.or_eq_false_iff, Bool.and_eq_false_iff, decide_eq_false_iff_not, beq_eq_false_iff_ne]
    rcases h with h | ⟨rfl, h⟩
    · exact ⟨UInt8.lt_asymm h, Or.inl (fun e => by subst e; exact UInt8.lt_irrefl _ h)⟩
    · exact ⟨UInt8.lt_irrefl _, Or.inr (less_asym a b h)⟩
theorem less_ne (a b : List UInt8) (h : Op.bytesLess a b = true) : (b == a) = false := by
  rw [beq_eq_false_iff_ne]
  rintro rfl
  rw [less_irr] at h
  cases h
theorem less_tri : ∀ a b : List UInt8, Op.bytesLess a b = false → (b == a) = false → Op.bytesLess b a = true
  | [], [], _, h => by simp at h
  | _ :: _, [], _, _ => rfl
  | [], _ :: _, h, _ => by simp [Op.bytesLess] at h
  | x :: a, y :: b, h, h' => by
    simp only [Op.bytesLess, Bool.or_eq_false_iff, Bool.and_eq_false_iff, decide_eq_false_iff_not, beq_eq_false_iff_ne] at h
    simp only [Op.bytesLess, Bool.or_eq_true, Bool.and_eq_true, decide_eq_true_eq, beq_iff_eq]
    by_cases e : y = x
    · subst e
      right
      refine ⟨rfl, less_tri a b (h.2.resolve_left (fun h => h rfl)) ?_⟩
      rw [beq_eq_false_iff_ne] at h' ⊢
      exact fun q => h' (by rw [q])
    · left
      have h1 := UInt8.not_lt.1 h.1
      exact UInt8.lt_of_le_of_ne h1 e
set_option maxRecDepth 20000 in
set_option maxHeartbeats 2000000 in
theorem implEvent_any (t : Int) (S : List ByteArray) (n : Nat) (hn : S.length = n) (a : Option Addr) (c : Nat) (hs : TxOk S) (hl : n ≤ maxLen) (w : World) (hA : TsAt w a S) (hkw : Kw w) (hgl : 1 < w.heap.size) :
    Calls Tryd.prog 42 #[.agg #[.int .i64 t, .slice a n c]] w fun e w' => e = .returned (.bool (evB t S)) ∧ Below w.heap.size w w' := by
  unfold maxLen at hl
  subst hn
  have HB0 := hid ((Below.refl w.heap.size w).alloc (Nat.le_refl _) (.cells #[.int .i64 t, .slice a S.length c] 45))
  have HS := hid hs
  have HA := hid (hA.below HB0.out)
  have HK := hid (hkw.below HB0.out hgl)
  clear hs hA hkw
  rcases (Bool.eq_false_or_eq_true (timeB t)).symm with ht | ht
  · have HE : Hid (evB t S = false) := by show evB t S = _; unfold timeB at ht; simp [evB, ht]
    go_enter Tryd.func42, Tryd.ntmps42
    go_wp2_with (go_at_call 57; refine (implTime_any _ _).mono ?_; rintro e w' ⟨rfl, rfl⟩)
    go_ret
    exact ⟨ret_bool HE.out.symm, HB0.out⟩
  have HE : Hid (evB t S = namesB S) := by show evB t S = _; unfold timeB at ht; simp [evB, ht]
  by_cases h8 : 8 < S.length
  · have HN := hid (HE.out.trans (namesB_long S h8))
    go_enter Tryd.func42, Tryd.ntmps42
    go_wp2_with (go_at_call 57; refine (implTime_any _ _).mono ?_; rintro e w' ⟨rfl, rfl⟩)
    go_ret
    exact ⟨ret_bool HN.out.symm, HB0.out⟩
  go_enter Tryd.func42, Tryd.ntmps42
  go_wp2_with (go_at_call 57; refine (implTime_any _ _).mono ?_; rintro e w' ⟨rfl, rfl⟩)
  go_loop [3, 19] (fun s i => ∃ k : Nat, k ≤ S.length ∧ i = .int .i64 k ∧ s = .string (if k = 0 then ⟨#[]⟩ else txAt S (k - 1)) ∧ namesTo S k = true) (fun _ i => S.length - (intOf i).toNat)
  case atStart => exact ⟨0, Nat.zero_le _, rfl, rfl, rfl⟩
  case round =>
    obtain ⟨k, hk, rfl, rfl, hg⟩ := hrel
    have HG := hid hg
    clear hg
    by_cases hlt : k < S.length
    · have HS1 := hid (namesTo_succ S k)
      have HNo := hid (fun h => HE.out.trans (namesB_no S k hlt h))
      rcases HA.out with h0 | ⟨b, rfl, hb, hc⟩
      · omega
      have d0 := hc k hlt
      have HX := hid (HS.out k hlt)
      cases k with
      | zero =>
        simp only [if_true]
        generalize hT : txAt S 0 = T at *
        have HT := hid hT
        clear hT hc
        rcases Bool.eq_false_or_eq_true (wordB T) with hw | hw
        · have hx1 := less_nil T.toList
          have hx2 := word_full T hw
          go_wp2_with (go_at_call 54; refine (implWord_any _ _ HX.out HK.out).mono ?_; rintro e w' ⟨rfl, rfl⟩)
          go_round
          case rel => exact ⟨1, by omega, by go_num, by rw [if_neg (by omega), ← HT.out], by rw [HS1.out, HG.out, hw]; rfl⟩
          case measure => simp [intOf]; omega
        · go_wp2_with (go_at_call 54; refine (implWord_any _ _ HX.out HK.out).mono ?_; rintro e w' ⟨rfl, rfl⟩)
          go_ret
          exact ⟨ret_bool (HNo.out (by rw [HS1.out, hw]; simp)).symm, HB0.out⟩
      | succ j =>
        rw [if_neg (by omega)]
        simp only [Nat.add_sub_cancel] at HS1 ⊢
        generalize hT : txAt S (j + 1) = T at *
        have HT := hid hT
        generalize hU : txAt S j = U at *
        clear hT hU hc
        rcases Bool.eq_false_or_eq_true (wordB T) with hw | hw
        · rcases Bool.eq_false_or_eq_true (Op.bytesLess U.toList T.toList) with hx | hx
          · have HX3 := hid hx
            have hx1 := less_asym _ _ hx
            have hx2 := less_ne _ _ hx
            clear hx
            go_wp2_with (go_at_call 54; refine (implWord_any _ _ HX.out HK.out).mono ?_; rintro e w' ⟨rfl, rfl⟩)
            go_round
            case rel => exact ⟨j + 2, by omega, by go_num, by rw [if_neg (by omega), ← HT.out]; rfl, by rw [HS1.out, HG.out, hw, HX3.out]; simp⟩
            case measure => simp [intOf]; omega
          · have HX3 := hid hx
            clear hx
            rcases Bool.eq_false_or_eq_true (T.toList == U.toList) with hx2 | hx2
            · have hx3 : Op.bytesLess T.toList U.toList = false := by rw [beq_iff_eq] at hx2; rw [hx2]; exact less_irr _
              go_wp2_with (go_at_call 54; refine (implWord_any _ _ HX.out HK.out).mono ?_; rintro e w' ⟨rfl, rfl⟩)
              go_ret
              exact ⟨ret_bool (HNo.out (by rw [HS1.out, HX3.out]; simp)).symm, HB0.out⟩
            · have hx3 := less_tri _ _ HX3.out hx2
              go_wp2_with (go_at_call 54; refine (implWord_any _ _ HX.out HK.out).mono ?_; rintro e w' ⟨rfl, rfl⟩)
              go_ret
              exact ⟨ret_bool (HNo.out (by rw [HS1.out, HX3.out]; simp)).symm, HB0.out⟩
        · go_wp2_with (go_at_call 54; refine (implWord_any _ _ HX.out HK.out).mono ?_; rintro e w' ⟨rfl, rfl⟩)
          go_ret
          exact ⟨ret_bool (HNo.out (by rw [HS1.out, hw]; simp)).symm, HB0.out⟩
    · have hk' : k = S.length := by omega
      subst hk'
      have HN := hid (HE.out.trans (namesB_yes S (by omega) HG.out))
      generalize (if S.length = 0 then (⟨#[]⟩ : ByteArray) else txAt S (S.length - 1)) = q
      go_wp2_with fail
      go_ret
      exact ⟨ret_bool HN.out.symm, HB0.out⟩
end Go.Proofs.YtnbegpplbjppoaaDoor
