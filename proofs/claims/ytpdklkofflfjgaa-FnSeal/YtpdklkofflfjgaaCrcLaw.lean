/-
  The contracts of Crc and CrcMore, the model's and the program's, at every argument; and the walks of the two laws over them.
-/
import Derived.Test.YtpdklkofflfjgaaCrc
import Derived.ProofKit
import Derived.OpenShut
import Derived.ShutString
namespace Go.Proofs.Ytpdklkofflfjgaa
open Go.RowKit

def moreN (c : Int) (s : ByteArray) : Int := if s.size ≤ 8000 ∧ 0 ≤ c ∧ c ≤ 4294967295 then (crcN c.toNat s : Nat) else 0
theorem moreN_in (c : Nat) (s : ByteArray) (h1 : s.size ≤ 8000) (h2 : c < 4294967296) : moreN c s = (crcN c s : Nat) := by
  unfold moreN
  rw [if_pos ⟨h1, by omega, by omega⟩, Int.toNat_natCast]
theorem moreN_out (c : Int) (s : ByteArray) (h : ¬ (s.size ≤ 8000 ∧ 0 ≤ c ∧ c ≤ 4294967295)) : moreN c s = 0 := by
  unfold moreN
  rw [if_neg h]

set_option maxHeartbeats 1000000 in
theorem implMore_any (c : Int) (s : ByteArray) (hs : s.size ≤ maxLen) (w : World) :
    Calls Try.prog 17 #[.int .i64 c, .string s] w fun e w' => e = .returned (.int .i64 (moreN c s)) ∧ w' = w := by
  by_cases h1 : s.size ≤ 8000
  · by_cases h2 : 0 ≤ c
    · by_cases h3 : c ≤ 4294967295
      · obtain ⟨n, rfl⟩ := Int.eq_ofNat_of_zero_le h2
        rw [moreN_in n s h1 (by omega)]
        exact implMore_in n s (by omega) h1 w
      · rw [moreN_out c s (by omega)]
        have d1 : decide (8000 < s.size) = false := by simp; omega
        go_enter Try.func17, Try.ntmps17
        go_wp2_with (go_at_call 37; refine (tooLong_any s hs _).mono ?_; rintro e w' ⟨rfl, rfl⟩)
        go_ret
        exact ⟨rfl, rfl⟩
    · rw [moreN_out c s (by omega)]
      have d1 : decide (8000 < s.size) = false := by simp; omega
      have d2 : decide (c < 0) = true := by simp; omega
      go_enter Try.func17, Try.ntmps17
      go_wp2_with (go_at_call 37; refine (tooLong_any s hs _).mono ?_; rintro e w' ⟨rfl, rfl⟩)
      go_ret
      exact ⟨rfl, rfl⟩
  · rw [moreN_out c s (by omega)]
    have d1 : decide (8000 < s.size) = true := by simp; omega
    go_enter Try.func17, Try.ntmps17
    go_wp2_with (go_at_call 37; refine (tooLong_any s hs _).mono ?_; rintro e w' ⟨rfl, rfl⟩)
    go_ret
    exact ⟨rfl, rfl⟩

set_option maxHeartbeats 1000000 in
theorem specMore_any (c : Int) (s : ByteArray) (hs : s.size ≤ maxLen) (w : World) :
    Calls Try.prog 18 #[.int .i64 c, .string s] w fun e w' => e = .returned (.int .i64 (moreN c s)) ∧ w' = w := by
  unfold maxLen at hs
  by_cases h1 : s.size ≤ 8000
  · by_cases h2 : 0 ≤ c
    · by_cases h3 : c ≤ 4294967295
      · obtain ⟨n, rfl⟩ := Int.eq_ofNat_of_zero_le h2
        rw [moreN_in n s h1 (by omega)]
        have hn : n < 4294967296 := by omega
        go_enter Try.func18, Try.ntmps18
        go_wp2_with (go_at_call 36; refine (specCrc_in n s hn h1 _).mono ?_; rintro e w' ⟨rfl, rfl⟩)
        go_ret
        exact ⟨rfl, rfl⟩
      · rw [moreN_out c s (by omega)]
        go_enter Try.func18, Try.ntmps18
        go_wp2
        go_ret
        exact ⟨rfl, rfl⟩
    · rw [moreN_out c s (by omega)]
      have d2 : decide (c < 0) = true := by simp; omega
      go_enter Try.func18, Try.ntmps18
      go_wp2
      go_ret
      exact ⟨rfl, rfl⟩
  · rw [moreN_out c s (by omega)]
    have d1 : decide (8000 < (s.size : Int)) = true := by simp; omega
    go_enter Try.func18, Try.ntmps18
    go_wp2
    go_ret
    exact ⟨rfl, rfl⟩

theorem implCrc_any (s : ByteArray) (hs : s.size ≤ maxLen) (w : World) :
    Calls Try.prog 19 #[.string s] w fun e w' => e = .returned (.int .i64 (moreN 0 s)) ∧ w' = w := by
  go_enter Try.func19, Try.ntmps19
  go_wp2_with (go_at_call 17; refine (implMore_any 0 s hs _).mono ?_; rintro e w' ⟨rfl, rfl⟩)
  go_ret
  exact ⟨rfl, rfl⟩
theorem specCrc_any (s : ByteArray) (hs : s.size ≤ maxLen) (w : World) :
    Calls Try.prog 26 #[.string s] w fun e w' => e = .returned (.int .i64 (moreN 0 s)) ∧ w' = w := by
  unfold maxLen at hs
  by_cases h1 : s.size ≤ 8000
  · have HM : Hid (moreN 0 s = (crcN 0 s : Nat)) := moreN_in 0 s h1 (by omega)
    go_enter Try.func26, Try.ntmps26
    go_wp2_with (go_at_call 36; refine (specCrc_in 0 s (by omega) h1 _).mono ?_; rintro e w' ⟨rfl, rfl⟩)
    go_ret
    exact ⟨ret_int HM.out.symm, rfl⟩
  · rw [moreN_out 0 s (by omega)]
    go_enter Try.func26, Try.ntmps26
    go_wp2
    go_ret
    exact ⟨rfl, rfl⟩

theorem walkCrc (a0 : ByteArray) (w0 : a0.size ≤ maxLen) (w : World) :
    Calls Try.prog 7 #[.string a0] w fun e w' => e = .returned (.bool true) ∧ Grown w w' := by
  have hs := w0
  unfold maxLen at hs
  by_cases h1 : 1048576 < a0.size
  · go_enter Try.func7, Try.ntmps7
    go_wp2
    go_ret
    exact ⟨rfl, Grown.refl _⟩
  · go_enter Try.func7, Try.ntmps7
    go_wp2_with (first | (go_at_call 26; refine (specCrc_any a0 w0 _).mono ?_; rintro e w' ⟨rfl, rfl⟩) | (go_at_call 19; refine (implCrc_any a0 w0 _).mono ?_; rintro e w' ⟨rfl, rfl⟩))
    go_ret
    exact ⟨rfl, Grown.refl _⟩
theorem walkCrcMore (a0 : Int) (a1 : ByteArray) (_w0 : (Lit.int .i64 a0).wf = true) (w1 : a1.size ≤ maxLen) (w : World) :
    Calls Try.prog 8 #[.int .i64 a0, .string a1] w fun e w' => e = .returned (.bool true) ∧ Grown w w' := by
  have hs := w1
  unfold maxLen at hs
  by_cases h1 : 1048576 < a1.size
  · go_enter Try.func8, Try.ntmps8
    go_wp2
    go_ret
    exact ⟨rfl, Grown.refl _⟩
  · go_enter Try.func8, Try.ntmps8
    go_wp2_with (first | (go_at_call 18; refine (specMore_any a0 a1 w1 _).mono ?_; rintro e w' ⟨rfl, rfl⟩) | (go_at_call 17; refine (implMore_any a0 a1 w1 _).mono ?_; rintro e w' ⟨rfl, rfl⟩))
    go_ret
    exact ⟨rfl, Grown.refl _⟩
end Go.Proofs.Ytpdklkofflfjgaa
