/-
  For every text, the program's NameRight answers as the model's: the law FnExactNameRight returns true, whatever it is given. No condition.
-/
import Derived.Test.YtpdklkofflfjgaaName
import Derived.ProofKit
import Derived.OpenShut
import Derived.ShutString
namespace Go.Proofs.Ytpdklkofflfjgaa
open Go.RowKit

theorem nameB_first (s : ByteArray) (h : smallN (byteAt s 0) = false) : nameB s = false := by
  by_cases h1 : 1 ≤ s.size ∧ s.size ≤ 20
  · exact nameB_false_at s 0 (by omega) (by simp [okAt, h])
  · exact nameB_size s h1
theorem nameB_any (s : ByteArray) (h1 : 1 ≤ s.size) (h2 : s.size ≤ 20) (h : smallN (byteAt s 0) = true) : nameB s = anyTo s s.size := by
  rw [nameB_good s h1 h2]
  obtain ⟨k, hk⟩ : ∃ k, s.size = k + 1 := ⟨s.size - 1, by omega⟩
  rw [hk, goodTo_any, h, Bool.true_and]

set_option maxHeartbeats 1000000 in
theorem implName_any (s : ByteArray) (w : World) (hs : s.size ≤ maxLen) :
    Calls Try.prog 25 #[.string s] w fun e w' => e = .returned (.bool (nameB s)) ∧ w' = w := by
  unfold maxLen at hs
  by_cases h1 : s.size < 1
  · have HN : Hid (nameB s = false) := nameB_size s (by omega)
    go_enter Try.func25, Try.ntmps25
    go_wp2
    go_ret
    exact ⟨ret_bool HN.out.symm, rfl⟩
  by_cases h2 : 20 < s.size
  · have HN : Hid (nameB s = false) := nameB_size s (by omega)
    go_enter Try.func25, Try.ntmps25
    go_wp2
    go_ret
    exact ⟨ret_bool HN.out.symm, rfl⟩
  have hp : 0 < s.size := by omega
  have e0 := byteAt_eq s 0 hp
  rcases Bool.eq_false_or_eq_true (smallN (byteAt s 0)) with h0 | h0
  rotate_left
  · have HN : Hid (nameB s = false) := nameB_first s h0
    rw [e0] at h0
    clear e0
    go_enter Try.func25, Try.ntmps25
    go_wp2_with (go_at_call 43; refine (small_any _ (UInt8.toNat_lt _) _).mono ?_; rintro e w' ⟨rfl, rfl⟩)
    go_ret
    exact ⟨ret_bool HN.out.symm, rfl⟩
  have HG : Hid (nameB s = anyTo s s.size) := nameB_any s (by omega) (by omega) h0
  rw [e0] at h0
  clear e0
  go_enter Try.func25, Try.ntmps25
  go_wp2_with (go_at_call 43; refine (small_any _ (UInt8.toNat_lt _) _).mono ?_; rintro e w' ⟨rfl, rfl⟩)
  go_loop [21] (fun i => ∃ k : Nat, k ≤ s.size ∧ i = .int .i64 k ∧ anyTo s k = true) (fun i => s.size - (intOf i).toNat)
  case atStart => exact ⟨0, Nat.zero_le _, rfl, rfl⟩
  case round =>
    obtain ⟨k, hk, rfl, hg⟩ := hrel
    have HG2 : Hid (anyTo s k = true) := hg
    clear hg
    by_cases hlt : k < s.size
    · have HB : Hid (byteAt s k = s[k].toNat) := byteAt_eq s k hlt
      have HS : Hid (anyTo s (k + 1) = (anyTo s k && anyN (byteAt s k))) := anyTo_succ s k
      have HF : Hid (anyN (byteAt s k) = false → anyTo s s.size = false) := anyTo_false s k _ hlt
      rcases Bool.eq_false_or_eq_true (smallN s[k].toNat) with b1 | b1 <;>
        rcases Bool.eq_false_or_eq_true (digitN s[k].toNat) with b2 | b2 <;>
        rcases Bool.eq_false_or_eq_true ((s[k].toNat : Int) != 95) with b3 | b3
      all_goals go_wp2_with (first | (go_at_call 43; refine (small_any _ (UInt8.toNat_lt _) _).mono ?_; rintro e w' ⟨rfl, rfl⟩) | (go_at_call 44; refine (digit_any _ (UInt8.toNat_lt _) _).mono ?_; rintro e w' ⟨rfl, rfl⟩))
      all_goals first
        | (go_ret
           exact ⟨ret_bool (by rw [HG.out, HF.out (by rw [HB.out]; simp [anyN, b1, b2]; simp at b3; omega)]), rfl⟩)
        | (go_round
           case rel => exact ⟨k + 1, by omega, by go_num, by rw [HS.out, HG2.out, HB.out]; simp [anyN, b1, b2]; try (simp at b3; omega)⟩
           case measure => simp [intOf]; omega)
    · go_wp2
      go_ret
      have : k = s.size := by omega
      subst this
      exact ⟨ret_bool (by rw [HG.out, HG2.out]), rfl⟩

theorem walkName (a0 : ByteArray) (w0 : a0.size ≤ maxLen) (w : World) :
    Calls Try.prog 6 #[.string a0] w fun e w' => e = .returned (.bool true) ∧ Grown w w' := by
  have hs := w0
  unfold maxLen at hs
  by_cases h1 : 1048576 < a0.size
  · go_enter Try.func6, Try.ntmps6
    go_wp2
    go_ret
    exact ⟨rfl, Grown.refl _⟩
  · go_enter Try.func6, Try.ntmps6
    go_wp2_with (first | (go_at_call 24; refine (specName_any a0 _ w0).mono ?_; rintro e w' ⟨rfl, rfl⟩) | (go_at_call 25; refine (implName_any a0 _ w0).mono ?_; rintro e w' ⟨rfl, rfl⟩))
    go_ret
    exact ⟨rfl, Grown.refl _⟩
end Go.Proofs.Ytpdklkofflfjgaa
