/-
  The contracts of the two functions NameRight: each answers 'nameB' of the text's bytes, and turns nothing.
-/
import Derived.Test.YtpdklkofflfjgaaRows
import Derived.WalkKit
import Derived.WalkSpells
import Derived.WalkLawsBesides
namespace Go.Proofs.Ytpdklkofflfjgaa
open Go.RowKit

/-! ### Plain facts -/
def smallN (c : Nat) : Bool := decide (97 ≤ c ∧ c ≤ 122)
def digitN (c : Nat) : Bool := decide (48 ≤ c ∧ c ≤ 57)
def anyN (c : Nat) : Bool := smallN c || digitN c || c == 95
def okAt (i c : Nat) : Bool := smallN c || (i != 0 && (digitN c || c == 95))
def byteAt (s : ByteArray) (k : Nat) : Nat := (s.data.toList.getD k 0).toNat
def goodTo (s : ByteArray) (k : Nat) : Bool := (List.range k).all fun i => okAt i (byteAt s i)
def anyTo (s : ByteArray) (k : Nat) : Bool := (List.range k).all fun i => anyN (byteAt s i)
def nameB (s : ByteArray) : Bool := decide (1 ≤ s.size ∧ s.size ≤ 20) && goodTo s s.size

theorem byteAt_eq (s : ByteArray) (k : Nat) (h : k < s.size) : byteAt s k = s[k].toNat := by
  unfold byteAt
  have h' : k < s.data.toList.length := by simpa using h
  simp [List.getD, h]
  rfl
theorem goodTo_succ (s : ByteArray) (k : Nat) : goodTo s (k + 1) = (goodTo s k && okAt k (byteAt s k)) := by
  simp [goodTo, List.range_succ]
theorem anyTo_succ (s : ByteArray) (k : Nat) : anyTo s (k + 1) = (anyTo s k && anyN (byteAt s k)) := by
  simp [anyTo, List.range_succ]
theorem goodTo_any (s : ByteArray) (k : Nat) : goodTo s (k + 1) = (smallN (byteAt s 0) && anyTo s (k + 1)) := by
  induction k with
  | zero => simp [goodTo, anyTo, okAt, anyN]; cases smallN (byteAt s 0) <;> simp
  | succ k ih =>
    rw [goodTo_succ, ih, anyTo_succ s (k + 1)]
    have : okAt (k + 1) (byteAt s (k + 1)) = anyN (byteAt s (k + 1)) := by simp [okAt, anyN, Bool.or_assoc]
    rw [this, Bool.and_assoc]
theorem goodTo_false (s : ByteArray) (k m : Nat) (hm : k < m) (h : okAt k (byteAt s k) = false) : goodTo s m = false := by
  simp only [goodTo, List.all_eq_false, List.mem_range]
  exact ⟨k, hm, by simp [h]⟩
theorem anyTo_false (s : ByteArray) (k m : Nat) (hm : k < m) (h : anyN (byteAt s k) = false) : anyTo s m = false := by
  simp only [anyTo, List.all_eq_false, List.mem_range]
  exact ⟨k, hm, by simp [h]⟩
theorem nameB_false_at (s : ByteArray) (k : Nat) (hm : k < s.size) (h : okAt k (byteAt s k) = false) : nameB s = false := by
  simp [nameB, goodTo_false s k s.size hm h]
theorem nameB_size (s : ByteArray) (h : ¬ (1 ≤ s.size ∧ s.size ≤ 20)) : nameB s = false := by
  simp [nameB, h]
theorem nameB_good (s : ByteArray) (h1 : 1 ≤ s.size) (h2 : s.size ≤ 20) : nameB s = goodTo s s.size := by
  simp [nameB, h1, h2]
theorem ret_bool {a b : Bool} (h : a = b) : Ending.returned (.bool a) = .returned (.bool b) := by rw [h]

/-- The seven kinds of bytes. -/
theorem kinds (c : Int) : (97 ≤ c ∧ c ≤ 122) ∨ 122 < c ∨ c < 48 ∨ (48 ≤ c ∧ c ≤ 57) ∨ (57 < c ∧ c < 95) ∨ (95 ≤ c ∧ c ≤ 95) ∨ (95 < c ∧ c < 97) := by omega

theorem ok_no {k c : Nat} (h : 122 < c ∨ c < 48 ∨ (57 < c ∧ c < 95) ∨ (95 < c ∧ c < 97) ∨ (k = 0 ∧ c < 97)) : okAt k c = false := by
  simp only [okAt, smallN, digitN, Bool.or_eq_false_iff, Bool.and_eq_false_iff, decide_eq_false_iff_not, bne_eq_false_iff_eq, beq_eq_false_iff_ne]
  omega
theorem ok_yes {k c : Nat} (h : (97 ≤ c ∧ c ≤ 122) ∨ (0 < k ∧ (48 ≤ c ∧ c ≤ 57 ∨ c = 95))) : okAt k c = true := by
  simp only [okAt, smallN, digitN, Bool.or_eq_true, Bool.and_eq_true, decide_eq_true_eq, bne_iff_ne, beq_iff_eq]
  omega

/-! ### The model's -/
set_option maxHeartbeats 1000000 in
theorem specName_any (s : ByteArray) (w : World) (hs : s.size ≤ maxLen) :
    Calls Try.prog 24 #[.string s] w fun e w' => e = .returned (.bool (nameB s)) ∧ w' = w := by
  unfold maxLen at hs
  by_cases h1 : s.size < 1
  · have HN : Hid (nameB s = false) := nameB_size s (by omega)
    go_enter Try.func24, Try.ntmps24
    go_wp2
    go_ret
    exact ⟨ret_bool HN.out.symm, rfl⟩
  by_cases h2 : 20 < s.size
  · have HN : Hid (nameB s = false) := nameB_size s (by omega)
    go_enter Try.func24, Try.ntmps24
    go_wp2
    go_ret
    exact ⟨ret_bool HN.out.symm, rfl⟩
  have HG : Hid (nameB s = goodTo s s.size) := nameB_good s (by omega) (by omega)
  go_enter Try.func24, Try.ntmps24
  go_wp2
  go_loop [3] (fun i => ∃ k : Nat, k ≤ s.size ∧ i = .int .i64 k ∧ goodTo s k = true) (fun i => s.size - (intOf i).toNat)
  case atStart => exact ⟨0, Nat.zero_le _, rfl, rfl⟩
  case round =>
    obtain ⟨k, hk, rfl, hg⟩ := hrel
    have HG2 : Hid (goodTo s k = true) := hg
    clear hg
    by_cases hlt : k < s.size
    · have HB : Hid (byteAt s k = s[k].toNat) := byteAt_eq s k hlt
      have HS : Hid (goodTo s (k + 1) = (goodTo s k && okAt k (byteAt s k))) := goodTo_succ s k
      have HF : Hid (okAt k (byteAt s k) = false → nameB s = false) := nameB_false_at s k hlt
      rcases kinds (s[k].toNat : Int) with h | h | h | h | h | h | h <;> by_cases hk0 : 0 < k
      all_goals rcases Bool.eq_false_or_eq_true (decide ((97 : Int) ≤ (s[k].toNat : Int))) with b0 | b0
      any_goals (exfalso; have q := b0; simp at q; omega)
      all_goals rcases Bool.eq_false_or_eq_true (decide ((s[k].toNat : Int) ≤ 122)) with b1 | b1
      any_goals (exfalso; have q := b1; simp at q; omega)
      all_goals rcases Bool.eq_false_or_eq_true (((k : Int) == 0)) with b2 | b2
      any_goals (exfalso; have q := b2; simp at q; omega)
      all_goals rcases Bool.eq_false_or_eq_true (decide ((48 : Int) ≤ (s[k].toNat : Int))) with b3 | b3
      any_goals (exfalso; have q := b3; simp at q; omega)
      all_goals rcases Bool.eq_false_or_eq_true (decide ((s[k].toNat : Int) ≤ 57)) with b4 | b4
      any_goals (exfalso; have q := b4; simp at q; omega)
      all_goals rcases Bool.eq_false_or_eq_true (((s[k].toNat : Int) != 95)) with b5 | b5
      any_goals (exfalso; have q := b5; simp at q; omega)
      all_goals go_wp2
      all_goals first
        | (go_ret
           exact ⟨ret_bool (HF.out (by rw [HB.out]; exact ok_no (by omega))).symm, rfl⟩)
        | (go_round
           case rel => exact ⟨k + 1, by omega, by go_num, by rw [HS.out, HG2.out, HB.out]; exact ok_yes (by omega)⟩
           case measure => simp [intOf]; omega)
    · go_wp2
      go_ret
      have : k = s.size := by omega
      subst this
      exact ⟨ret_bool (by rw [HG.out, HG2.out]), rfl⟩

/-! ### The program's -/
theorem small_any (c : Nat) (hc : c < 256) (w : World) :
    Calls Try.prog 43 #[.int .u8 c] w fun e w' => e = .returned (.bool (smallN c)) ∧ w' = w := by
  by_cases h1 : (97 : Int) ≤ c <;> by_cases h2 : (c : Int) ≤ 122
  all_goals
    go_enter Try.func43, Try.ntmps43
    go_wp2
    go_ret
    exact ⟨ret_bool (by simp [smallN]; omega), rfl⟩
theorem digit_any (c : Nat) (hc : c < 256) (w : World) :
    Calls Try.prog 44 #[.int .u8 c] w fun e w' => e = .returned (.bool (digitN c)) ∧ w' = w := by
  by_cases h1 : (48 : Int) ≤ c <;> by_cases h2 : (c : Int) ≤ 57
  all_goals
    go_enter Try.func44, Try.ntmps44
    go_wp2
    go_ret
    exact ⟨ret_bool (by simp [digitN]; omega), rfl⟩
end Go.Proofs.Ytpdklkofflfjgaa
