/-
  Events: plain facts; the model's and the program's EventRight by one contract ('evB').
-/
import Derived.Test.YtnbegpplbjppoaaDoorMarkT
import Derived.Test.YtnbegpplbjppoaaDoorWordLaw
namespace Go.Proofs.YtnbegpplbjppoaaDoor
open Go.RowKit
set_option linter.unusedVariables false
set_option linter.unusedSimpArgs false
def lessB (a b : ByteArray) : Bool := Op.bytesLess a.toList b.toList
/-- The first names may stand in an event. -/
def namesTo (S : List ByteArray) (k : Nat) : Bool := (List.range k).all fun i => wordB (txAt S i) && (i == 0 || Op.bytesLess (txAt S (i - 1)).toList (txAt S i).toList)
def namesB (S : List ByteArray) : Bool := decide (S.length ≤ 8) && namesTo S S.length
def evB (t : Int) (S : List ByteArray) : Bool := decide (0 ≤ t ∧ t ≤ 1000000) && namesB S
def TxOk (S : List ByteArray) : Prop := ∀ i, i < S.length → (txAt S i).size ≤ maxLen
theorem namesTo_succ (S : List ByteArray) (k : Nat) : namesTo S (k + 1) = (namesTo S k && (wordB (txAt S k) && (k == 0 || Op.bytesLess (txAt S (k - 1)).toList (txAt S k).toList))) := by
  simp [namesTo, List.range_succ]
theorem namesTo_false (S : List ByteArray) (k m : Nat) (hm : k < m) (h : namesTo S (k + 1) = false) : namesTo S m = false := by
  simp only [namesTo, List.all_eq_false, List.mem_range] at h ⊢
  obtain ⟨i, hi, h⟩ := h
  exact ⟨i, by omega, h⟩
theorem namesB_long (S : List ByteArray) (h : 8 < S.length) : namesB S = false := by simp [namesB]; omega
theorem namesB_no (S : List ByteArray) (k : Nat) (hm : k < S.length) (h : namesTo S (k + 1) = false) : namesB S = false := by simp [namesB, namesTo_false S k _ hm h]
theorem namesB_yes (S : List ByteArray) (h8 : S.length ≤ 8) (h : namesTo S S.length = true) : namesB S = true := by simp [namesB, h8, h]
theorem evB_time (t : Int) (S : List ByteArray) (h : ¬ (0 ≤ t ∧ t ≤ 1000000)) : evB t S = false := by simp [evB, h]
theorem evB_names (t : Int) (S : List ByteArray) (h0 : 0 ≤ t) (h1 : t ≤ 1000000) : evB t S = namesB S := by simp [evB, h0, h1]
theorem evB_no (t : Int) (S : List ByteArray) (h : namesB S = false) : evB t S = false := by simp [evB, h]
theorem namesTo_word (S : List ByteArray) (k m : Nat) (hk : k < m) (h : namesTo S m = true) : wordB (txAt S k) = true ∧ (0 < k → Op.bytesLess (txAt S (k - 1)).toList (txAt S k).toList = true) := by
  simp only [namesTo, List.all_eq_true, List.mem_range, Bool.and_eq_true, Bool.or_eq_true, beq_iff_eq] at h
  have := h k hk
  exact ⟨this.1, fun h0 => this.2.resolve_left (by omega)⟩
theorem wordB_len (s : ByteArray) (h : wordB s = true) : 1 ≤ s.size ∧ s.size ≤ 8 := by
  simp only [wordB, Bool.and_eq_true, decide_eq_true_eq] at h
  exact h.1
end Go.Proofs.YtnbegpplbjppoaaDoor
