/-
  The text of an event: plain facts; the model's l01Dec and EventText by their contracts.
-/
import Derived.Test.YthjnlcjjhklfpaaDoorEvTr
import Derived.Lib.ItoaNum
namespace Go.Proofs.YthjnlcjjhklfpaaDoor
open Go.RowKit
set_option linter.unusedVariables false
set_option linter.unusedSimpArgs false
theorem mtL_dec (n : Nat) : ∀ o : List UInt8, 0 < n → mtL n n o = Lib.decDigits n ++ o := by
  induction n using Nat.strongRecOn with
  | _ n ih =>
    intro o h
    rw [mtL_step n o h, Lib.decDigits]
    by_cases h10 : n < 10
    · have e : n / 10 = 0 := by omega
      rw [dif_pos h10, e]
      have e2 : n % 10 = n := by omega
      rw [e2]
      simp [mtL]
    · rw [dif_neg h10, ih (n / 10) (by omega) _ (by omega)]
      simp
theorem dec_len (n : Nat) : (Lib.decDigits n).length ≤ n + 1 := by
  induction n using Nat.strongRecOn with
  | _ n ih =>
    rw [Lib.decDigits]
    by_cases h10 : n < 10
    · rw [dif_pos h10]; simp
    · rw [dif_neg h10]
      have := ih (n / 10) (by omega)
      simp
      omega
def decS (n : Nat) : ByteArray := ⟨(Lib.decDigits n).toArray⟩
set_option maxRecDepth 20000 in
set_option maxHeartbeats 1000000 in
theorem specDec_any (n : Nat) (hn : n ≤ 1000000000) (w : World) :
    Calls Tryd.prog 77 #[.int .i64 n] w fun e w' => e = .returned (.string (decS n)) ∧ Below w.heap.size w w' := by
  by_cases h0 : n = 0
  · subst h0
    go_enter Tryd.func77, Tryd.ntmps77
    go_wp2_with fail
    go_ret
    exact ⟨by rw [show decS 0 = ⟨#[48]⟩ by unfold decS; rw [Lib.decDigits]; rfl]; rfl, Below.refl _ _⟩
  have hpos : 0 < n := by omega
  have HD := hid (mtL_dec n [] hpos)
  have h0' : ¬ ((n : Int) = 0) := by omega
  have h0b : ((n : Int) == 0) = false := by simpa using h0'
  go_enter Tryd.func77, Tryd.ntmps77
  go_wp2_with fail
  clear h0' h0b h0
  go_loopw [0, 4] (fun t s wr => ∃ (j : Nat) (o : List UInt8), t = .int .i64 j ∧ s = .string ⟨o.toArray⟩ ∧ j ≤ 1000000000 ∧ o.length + j ≤ 1000000000 + 20 ∧ mtL j j o = mtL n n [] ∧ Below w.heap.size w wr) (fun t _ _ => (intOf t).toNat)
  case atStart => exact ⟨n, [], rfl, rfl, hn, by simp; omega, rfl, Below.refl _ _⟩
  case round =>
    obtain ⟨j, o, rfl, rfl, hj, ho, hm, hbel⟩ := hrel
    have HM := hid hm
    have HB := hid hbel
    have hsz := hbel.size
    clear hm hbel
    by_cases hj0 : 0 < j
    · have hjn : ((j : Int) != 0) = true := by simp; omega
      have hd : ¬ (j : Int) % 10 < 0 := by omega
      have hcv := run_convert_bytes_back (P := Tryd.prog) (wr.alloc (.cells #[.int .u8 (48 + (j : Int) % 10)] 5)) 150 9 5 ⟨wr.heap.size, 0, none⟩ 1 [UInt8.ofNat (48 + j % 10)] (by kernel_rfl) (by kernel_rfl) (by kernel_rfl) (by
        intro i hi
        have hi0 : i = 0 := by simpa using hi
        subst hi0
        have hb : (UInt8.ofNat (48 + j % 10)).toNat = 48 + j % 10 := by
          rw [UInt8.toNat_ofNat']
          omega
        have hc0 : (wr.alloc (.cells #[.int .u8 (48 + (j : Int) % 10)] 5)).cell? ((⟨wr.heap.size, 0, none⟩ : Addr).add 0) = some (.int .u8 (48 + (j : Int) % 10)) := by
          exact cell_one _ _ _ 0 _ (by simp)
        rw [hc0]
        simp only [List.getElem_cons_zero, hb]
        push_cast
        rfl)
      simp only [List.length_cons, List.length_nil] at hcv
      go_wp2_with fail
      refine ⟨⟨j / 10, UInt8.ofNat (48 + j % 10) :: o, by simp, ?_, by omega, by simp; omega, by rw [← mtL_step j o hj0]; exact HM, HB.alloc hsz _⟩, by simp [intOf]; omega⟩
      simp only [Value.string.injEq]
      apply ByteArray.ext
      simp
    · obtain rfl : j = 0 := by omega
      go_wp2_with fail
      go_ret
      have HM' : o = mtL n n [] := HM
      have e : decS n = ⟨o.toArray⟩ := by unfold decS; rw [HM', HD.out]; simp
      exact ⟨by rw [e]; rfl, HB⟩
/-- The text of the first k names of an event. -/
def etL (T : Evt) (k : Nat) : List UInt8 := Lib.decDigits T.1.toNat ++ (T.2.take k).flatMap fun x => 32 :: x.data.toList
def etS (T : Evt) : ByteArray := if evR T then ⟨(etL T T.2.length).toArray⟩ else ByteArray.empty
theorem etL_succ (T : Evt) (k : Nat) (h : k < T.2.length) : etL T (k + 1) = etL T k ++ (32 :: (txAt T.2 k).data.toList) := by
  unfold etL
  rw [List.take_add_one, List.getElem?_eq_getElem h, Option.toList_some, List.flatMap_append, ← List.append_assoc]
  congr 1
  simp [txAt, List.getD, h]
set_option maxRecDepth 20000 in
set_option maxHeartbeats 2000000 in
theorem specText_any (T : Evt) (hok : EvOk T) (a : Option Addr) (c : Nat) (w : World) (hA : TsAt w a T.2) :
    Calls Tryd.prog 32 #[.agg #[.int .i64 T.1, .slice a T.2.length c]] w fun e w' => e = .returned (.string (etS T)) ∧ Below w.heap.size w w' := by
  have HB0 := hid ((Below.refl w.heap.size w).alloc (Nat.le_refl _) (.cells #[.int .i64 T.1, .slice a T.2.length c] 38))
  have HX0 := hid (BoxE.new w T.1 (.slice a T.2.length c) 38)
  have HT0 := hid (hA.below HB0.out)
  have HO := hid hok
  clear hA hok
  rcases (Bool.eq_false_or_eq_true (evR T)).symm with hw | hw
  · have HV : Hid (etS T = ByteArray.empty) := by show etS T = _; simp [etS, hw]
    have HW := hid hw
    clear hw
    go_enter Tryd.func32, Tryd.ntmps32
    go_wp2_with (go_at_call 26; refine (specEvent_is T false HW.out HO.out a c _ HT0.out).mono ?_; rintro e w1 ⟨rfl, hb1⟩; have HB1 := hid (HB0.out.trans (hb1.mono (by simp))); clear hb1)
    go_ret
    exact ⟨by rw [HV.out]; rfl, HB1.out⟩
  have HV : Hid (etS T = ⟨(etL T T.2.length).toArray⟩) := by show etS T = _; simp [etS, hw]
  have htm := evR_time T hw
  have h8 : T.2.length ≤ 8 ∧ ∀ i, i < T.2.length → (txAt T.2 i).size ≤ 8 := by
    have h := hw
    simp only [evR, evB, namesB, Bool.and_eq_true, decide_eq_true_eq] at h
    exact ⟨h.2.1, fun i hi => (wordB_len _ (namesTo_word T.2 i _ hi h.2.2).1).2⟩
  have HSz := hid h8.2
  have hl8 := h8.1
  have HW := hid hw
  obtain ⟨q, hq⟩ : ∃ q : Nat, T.1 = q := ⟨T.1.toNat, by omega⟩
  have hq6 : q ≤ 1000000 := by omega
  have HQ := hid hq
  have HC := hid (fun w => specDec_any q (by omega) w)
  have HE0 : Hid (decS q = ⟨(etL T 0).toArray⟩) := by show decS q = _; unfold decS etL; rw [hq]; simp
  have HL0 := hid (dec_len q)
  clear hw h8 htm
  rw [hq] at HB0 HX0 HT0 ⊢
  go_enter Tryd.func32, Tryd.ntmps32
  go_wp2_with (first | (go_at_call 26; have HCR := specEvent_is T true HW.out HO.out a c _ HT0.out; rw [HQ.out] at HCR; refine HCR.mono ?_; rintro e w1 ⟨rfl, hb1⟩; have HB1 := hid (HB0.out.trans (hb1.mono (by simp))); have HX1 := hid (HX0.out.below hb1); have HT1 := hid (HT0.out.below hb1); obtain ⟨hq1, x0, x1⟩ := HX1.out; clear hb1 HCR) | (go_at_call 77; refine (HC.out _).mono ?_; rintro e w2 ⟨rfl, hb2⟩; have HB2 := hid (HB1.out.trans (hb2.mono HB1.out.size)); have HX2 := hid (HX1.out.below hb2); have HT2 := hid (HT1.out.below hb2); clear hb2 x0 x1 hq1))
  go_loopw [3, 4] (fun s t wr => ∃ k : Nat, k ≤ T.2.length ∧ t = .int .i64 k ∧ s = .string ⟨(etL T k).toArray⟩ ∧ (etL T k).length ≤ 1000001 + k * 9 ∧ Below w2.heap.size w2 wr) (fun _ t _ => T.2.length - (intOf t).toNat)
  case atStart => exact ⟨0, Nat.zero_le _, rfl, by rw [HE0.out], by unfold etL; rw [HQ.out]; simp; have := HL0.out; omega, Below.refl _ _⟩
  case round =>
    obtain ⟨k, hk, rfl, rfl, hlen, hbel⟩ := hrel
    have HB := hid hbel
    obtain ⟨hqr, x0, x1⟩ := HX2.out.below hbel
    have HTr := hid (HT2.out.below hbel)
    clear hbel
    by_cases hlt : k < T.2.length
    · have HS := hid (etL_succ T k hlt)
      rcases HTr.out with h0 | ⟨b, rfl, hb, hc⟩
      · omega
      have d0 := hc k hlt
      have hs8 := HSz.out k hlt
      clear hc
      generalize hY : txAt T.2 k = Y at *
      have HY := hid hY
      clear hY
      generalize hX : etL T k = X at *
      clear hX
      have hXs : (⟨X.toArray⟩ : ByteArray).size = X.length := by simp [ByteArray.size]
      go_wp2_with fail
      go_roundw
      case rel =>
        refine ⟨k + 1, by omega, by go_num, ?_, ?_, HB.out⟩
        · rw [HS.out]
          simp only [Value.string.injEq]
          apply ByteArray.ext
          simp
        · rw [HS.out]
          have : Y.data.toList.length = Y.size := rfl
          simp at hs8 ⊢
          omega
      case measure => simp [intOf]; omega
    · have hk' : k = T.2.length := by omega
      subst hk'
      go_wp2_with fail
      go_ret
      exact ⟨by rw [HV.out]; rfl, HB2.out.trans (HB.out.mono HB2.out.size)⟩
end Go.Proofs.YthjnlcjjhklfpaaDoor
