/-
  WordRight at every text: the program's contract, and the walk of the law over both.
-/
import Derived.Test.YtjojlpnnappplaaDoorWord
namespace Go.Proofs.YtjojlpnnappplaaDoor
open Go.RowKit
set_option maxHeartbeats 1000000 in
theorem implWord_any (s : ByteArray) (w : World) (hs : s.size ≤ maxLen) (hkw : Kw w) :
    Calls Tryd.prog 11 #[.string s] w fun e w' => e = .returned (.bool (wordB s)) ∧ w' = w := by
  unfold maxLen at hs
  have HK : Hid (Kw w) := hkw
  clear hkw
  by_cases h1 : s.size < 1
  · have HN : Hid (wordB s = false) := wordB_size s (by omega)
    go_enter Tryd.func11, Tryd.ntmps11
    go_wp2
    go_ret
    exact ⟨ret_bool HN.out.symm, rfl⟩
  by_cases h2 : 8 < s.size
  · have HN : Hid (wordB s = false) := wordB_size s (by omega)
    go_enter Tryd.func11, Tryd.ntmps11
    go_wp2
    go_ret
    exact ⟨ret_bool HN.out.symm, rfl⟩
  have HG : Hid (smallTo s s.size = true → wordB s = (kindW s.toList == 0)) := wordB_eq s (by omega) (by omega)
  go_enter Tryd.func11, Tryd.ntmps11
  go_wp2
  go_loop [14] (fun i => ∃ k : Nat, k ≤ s.size ∧ i = .int .i64 k ∧ smallTo s k = true) (fun i => s.size - (intOf i).toNat)
  case atStart => exact ⟨0, Nat.zero_le _, rfl, rfl⟩
  case round =>
    obtain ⟨k, hk, rfl, hg⟩ := hrel
    have HG2 : Hid (smallTo s k = true) := hg
    clear hg
    by_cases hlt : k < s.size
    · have HB : Hid (byteAt s k = s[k].toNat) := byteAt_eq s k hlt
      have HS : Hid (smallTo s (k + 1) = (smallTo s k && smallN (byteAt s k))) := smallTo_succ s k
      have HF : Hid (smallN (byteAt s k) = false → wordB s = false) := wordB_small s k hlt
      rcases Bool.eq_false_or_eq_true (smallN s[k].toNat) with b1 | b1
      all_goals go_wp2_with (go_at_call 33; refine (small_any _ (UInt8.toNat_lt _) _).mono ?_; rintro e w' ⟨rfl, rfl⟩)
      all_goals first
        | (go_ret
           exact ⟨ret_bool (HF.out (by rw [HB.out]; exact b1)).symm, rfl⟩)
        | (go_round
           case rel => exact ⟨k + 1, by omega, by go_num, by rw [HS.out, HG2.out, HB.out, b1]; rfl⟩
           case measure => simp [intOf]; omega)
    · have hk' : k = s.size := by omega
      have HW : Hid (wordB s = (kindW s.toList == 0)) := HG.out (hk' ▸ HG2.out)
      clear HG HG2
      go_wp2_with (go_at_call 34; refine (kindW_any _ _ HK.out).mono ?_; rintro e w' ⟨rfl, rfl⟩)
      go_ret
      exact ⟨ret_bool HW.out.symm, rfl⟩
set_option maxHeartbeats 1000000 in
theorem walkWord (a0 : ByteArray) (w0 : a0.size ≤ maxLen) (w : World) (hk : Kw w) :
    Calls Tryd.prog 3 #[.string a0] w fun e w' => e = .returned (.bool true) ∧ Below w.heap.size w w' := by
  have hs := w0
  unfold maxLen at hs
  have HK : Hid (Kw w) := hk
  clear hk
  by_cases h1 : 1048576 < a0.size
  · go_enter Tryd.func3, Tryd.ntmps3
    go_wp2
    go_ret
    exact ⟨rfl, Below.refl _ _⟩
  · go_enter Tryd.func3, Tryd.ntmps3
    go_wp2_with (first | (go_at_call 10; refine (specWord_any a0 _ w0).mono ?_; rintro e w' ⟨rfl, rfl⟩) | (go_at_call 11; refine (implWord_any a0 _ w0 HK.out).mono ?_; rintro e w' ⟨rfl, rfl⟩))
    go_ret
    exact ⟨rfl, Below.refl _ _⟩
end Go.Proofs.YtjojlpnnappplaaDoor
