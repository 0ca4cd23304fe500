/-
  WordRight at every text: the program's contract.
-/
import Derived.Test.YtagklhfejbdkdaaDoorWord
namespace Go.Proofs.YtagklhfejbdkdaaDoor
open Go.RowKit
set_option maxHeartbeats 1000000 in
theorem implWord_any (s : ByteArray) (w : World) (hs : s.size ≤ maxLen) (hkw : Kw w) :
    Calls Tryd.prog 65 #[.string s] w fun e w' => e = .returned (.bool (wordB s)) ∧ w' = w := by
  unfold maxLen at hs
  have HK : Hid (Kw w) := hkw
  clear hkw
  by_cases h1 : s.size < 1
  · have HN : Hid (wordB s = false) := wordB_size s (by omega)
    go_enter Tryd.func65, Tryd.ntmps65
    go_wp2
    go_ret
    exact ⟨ret_bool HN.out.symm, rfl⟩
  by_cases h2 : 8 < s.size
  · have HN : Hid (wordB s = false) := wordB_size s (by omega)
    go_enter Tryd.func65, Tryd.ntmps65
    go_wp2
    go_ret
    exact ⟨ret_bool HN.out.symm, rfl⟩
  have HG : Hid (smallTo s s.size = true → wordB s = (kindW s.toList == 0)) := wordB_eq s (by omega) (by omega)
  go_enter Tryd.func65, Tryd.ntmps65
  go_wp2
  go_loop [14] (fun i => ∃ k : Nat, k ≤ s.size ∧ i = .int .i64 k ∧ smallTo s k = true) (fun i => s.size - (intOf i).toNat)
  case atStart => exact ⟨0, Nat.zero_le _, rfl, rfl⟩
  case round =>
    obtain ⟨k, hk, rfl, hg⟩ := hrel
    have HG2 : Hid (smallTo s k = true) := hg
    clear hg
    by_cases hlt : k < s.size
    · have HB : Hid (byteAt s k = s[k].toNat) := byteAt_eq s k hlt
      have HS : Hid (smallTo s (k + 1) = (smallTo s k && smallN (byteAt s k))) := smallTo_succ s k
      have HF : Hid (smallN (byteAt s k) = false → wordB s = false) := wordB_small s k hlt
      rcases Bool.eq_false_or_eq_true (smallN s[k].toNat) with b1 | b1
      all_goals go_wp2_with (go_at_call 73; refine (small_any _ (UInt8.toNat_lt _) _).mono ?_; rintro e w' ⟨rfl, rfl⟩)
      all_goals first
        | (go_ret
           exact ⟨ret_bool (HF.out (by rw [HB.out]; exact b1)).symm, rfl⟩)
        | (go_round
           case rel => exact ⟨k + 1, by omega, by go_num, by rw [HS.out, HG2.out, HB.out, b1]; rfl⟩
           case measure => simp [intOf]; omega)
    · have hk' : k = s.size := by omega
      have HW : Hid (wordB s = (kindW s.toList == 0)) := HG.out (hk' ▸ HG2.out)
      clear HG HG2
      go_wp2_with (go_at_call 74; refine (kindW_any _ _ HK.out).mono ?_; rintro e w' ⟨rfl, rfl⟩)
      go_ret
      exact ⟨ret_bool HW.out.symm, rfl⟩
end Go.Proofs.YtagklhfejbdkdaaDoor
