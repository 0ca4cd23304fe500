/-
  The words of the table: WordRight, the model's and the program's, by one contract; it answers 'wordB' of the text, and turns nothing.
-/
import Derived.Test.YtagklhfejbdkdaaDoorSvB
namespace Go.Proofs.YtagklhfejbdkdaaDoor
open Go.RowKit

/-! ### Plain facts -/
def smallN (c : Nat) : Bool := decide (97 ≤ c ∧ c ≤ 122)
def byteAt (s : ByteArray) (k : Nat) : Nat := (s.data.toList.getD k 0).toNat
def smallTo (s : ByteArray) (k : Nat) : Bool := (List.range k).all fun i => smallN (byteAt s i)
def kw (k : Nat) : List UInt8 :=
  if k = 1 then [116, 114, 117, 101] else if k = 3 then [110, 111, 116] else if k = 4 then [97, 110, 100] else if k = 5 then [111, 114] else if k = 6 then [112, 114, 101, 118]
  else if k = 7 then [111, 110, 99, 101] else if k = 8 then [104, 105, 115, 116] else if k = 9 then [115, 105, 110, 99, 101] else []
/-- The kind of a word that stands behind a bracket. -/
def kindS (l : List UInt8) : Int :=
  if l == [110, 111, 116] then 3 else if l == [97, 110, 100] then 4 else if l == [111, 114] then 5 else if l == [112, 114, 101, 118] then 6
  else if l == [111, 110, 99, 101] then 7 else if l == [104, 105, 115, 116] then 8 else if l == [115, 105, 110, 99, 101] then 9 else 0
/-- The kind of a word of the table. -/
def kindW (l : List UInt8) : Int := if l == [116, 114, 117, 101] then 1 else kindS l
def wordB (s : ByteArray) : Bool := decide (1 ≤ s.size ∧ s.size ≤ 8) && (smallTo s s.size && kindW s.toList == 0)

theorem byteAt_eq (s : ByteArray) (k : Nat) (h : k < s.size) : byteAt s k = s[k].toNat := by
  unfold byteAt
  have h' : k < s.data.toList.length := by simpa using h
  simp [List.getD, h]
  rfl
theorem smallTo_succ (s : ByteArray) (k : Nat) : smallTo s (k + 1) = (smallTo s k && smallN (byteAt s k)) := by
  simp [smallTo, List.range_succ]
theorem smallTo_false (s : ByteArray) (k m : Nat) (hm : k < m) (h : smallN (byteAt s k) = false) : smallTo s m = false := by
  simp only [smallTo, List.all_eq_false, List.mem_range]
  exact ⟨k, hm, by simp [h]⟩
theorem wordB_size (s : ByteArray) (h : ¬ (1 ≤ s.size ∧ s.size ≤ 8)) : wordB s = false := by
  simp [wordB, h]
theorem wordB_small (s : ByteArray) (k : Nat) (hm : k < s.size) (h : smallN (byteAt s k) = false) : wordB s = false := by
  simp [wordB, smallTo_false s k s.size hm h]
theorem wordB_eq (s : ByteArray) (h1 : 1 ≤ s.size) (h2 : s.size ≤ 8) (h : smallTo s s.size = true) : wordB s = (kindW s.toList == 0) := by
  simp [wordB, h1, h2, h]
theorem kindS_range (l : List UInt8) : 0 ≤ kindS l ∧ kindS l ≤ 9 := by
  unfold kindS
  repeat' split
  all_goals omega
theorem kindW_range (l : List UInt8) : 0 ≤ kindW l ∧ kindW l ≤ 9 := by
  unfold kindW
  have := kindS_range l
  split <;> omega
theorem wordB_true (s : ByteArray) (h : (s.toList == [116, 114, 117, 101]) = true) : (kindW s.toList == 0) = false := by
  simp [kindW, h]
theorem wordB_else (s : ByteArray) (h : (s.toList == [116, 114, 117, 101]) = false) : kindW s.toList = kindS s.toList := by
  simp [kindW, h]

/-! ### The model's -/
set_option maxHeartbeats 400000 in
theorem kindS_any (s : ByteArray) (w : World) :
    Calls Tryd.prog 63 #[.string s] w fun e w' => e = .returned (.int .i64 (kindS s.toList)) ∧ w' = w := by
  go_enter Tryd.func63, Tryd.ntmps63
  go_wp2
  all_goals
    go_ret
    exact ⟨ret_int (by simp [kindS, *]), rfl⟩
set_option maxHeartbeats 1000000 in
theorem specWord_any (s : ByteArray) (w : World) (hs : s.size ≤ maxLen) :
    Calls Tryd.prog 45 #[.string s] w fun e w' => e = .returned (.bool (wordB s)) ∧ w' = w := by
  unfold maxLen at hs
  by_cases h1 : s.size < 1
  · have HN : Hid (wordB s = false) := wordB_size s (by omega)
    go_enter Tryd.func45, Tryd.ntmps45
    go_wp2
    go_ret
    exact ⟨ret_bool HN.out.symm, rfl⟩
  by_cases h2 : 8 < s.size
  · have HN : Hid (wordB s = false) := wordB_size s (by omega)
    go_enter Tryd.func45, Tryd.ntmps45
    go_wp2
    go_ret
    exact ⟨ret_bool HN.out.symm, rfl⟩
  have HG : Hid (smallTo s s.size = true → wordB s = (kindW s.toList == 0)) := wordB_eq s (by omega) (by omega)
  go_enter Tryd.func45, Tryd.ntmps45
  go_wp2
  go_loop [3] (fun i => ∃ k : Nat, k ≤ s.size ∧ i = .int .i64 k ∧ smallTo s k = true) (fun i => s.size - (intOf i).toNat)
  case atStart => exact ⟨0, Nat.zero_le _, rfl, rfl⟩
  case round =>
    obtain ⟨k, hk, rfl, hg⟩ := hrel
    have HG2 : Hid (smallTo s k = true) := hg
    clear hg
    by_cases hlt : k < s.size
    · have HB : Hid (byteAt s k = s[k].toNat) := byteAt_eq s k hlt
      have HS : Hid (smallTo s (k + 1) = (smallTo s k && smallN (byteAt s k))) := smallTo_succ s k
      have HF : Hid (smallN (byteAt s k) = false → wordB s = false) := wordB_small s k hlt
      by_cases ha : (s[k].toNat : Int) < 97 <;> by_cases hb : 122 < (s[k].toNat : Int)
      any_goals omega
      all_goals go_wp2
      all_goals first
        | (go_ret
           exact ⟨ret_bool (HF.out (by rw [HB.out]; simp [smallN]; omega)).symm, rfl⟩)
        | (go_round
           case rel => exact ⟨k + 1, by omega, by go_num, by rw [HS.out, HG2.out, HB.out]; simp [smallN]; omega⟩
           case measure => simp [intOf]; omega)
    · have hk' : k = s.size := by omega
      have HW : Hid (wordB s = (kindW s.toList == 0)) := HG.out (hk' ▸ HG2.out)
      clear HG HG2
      by_cases ht : (s.toList == [116, 114, 117, 101]) = true
      · have HT : Hid ((kindW s.toList == 0) = false) := wordB_true s ht
        go_wp2
        go_ret
        exact ⟨ret_bool (by rw [HW.out, HT.out]), rfl⟩
      · have ht : (s.toList == [116, 114, 117, 101]) = false := by simpa using ht
        have HT : Hid (kindW s.toList = kindS s.toList) := wordB_else s ht
        go_wp2_with (go_at_call 63; refine (kindS_any _ _).mono ?_; rintro e w' ⟨rfl, rfl⟩)
        go_ret
        exact ⟨ret_bool (by rw [HW.out, HT.out]), rfl⟩

/-! ### The program's -/
theorem small_any (c : Nat) (hc : c < 256) (w : World) :
    Calls Tryd.prog 73 #[.int .u8 c] w fun e w' => e = .returned (.bool (smallN c)) ∧ w' = w := by
  by_cases h1 : (97 : Int) ≤ c <;> by_cases h2 : (c : Int) ≤ 122
  all_goals
    go_enter Tryd.func73, Tryd.ntmps73
    go_wp2
    go_ret
    exact ⟨ret_bool (by simp [smallN]; omega), rfl⟩
/-- The table of words lies as the program's text lays it. -/
structure Kw (w : World) : Prop where
  c0 : w.cell? ⟨1, 0, none⟩ = some (.string ⟨#[]⟩)
  c1 : w.cell? ⟨1, 1, none⟩ = some (.string ⟨#[116, 114, 117, 101]⟩)
  c2 : w.cell? ⟨1, 2, none⟩ = some (.string ⟨#[]⟩)
  c3 : w.cell? ⟨1, 3, none⟩ = some (.string ⟨#[110, 111, 116]⟩)
  c4 : w.cell? ⟨1, 4, none⟩ = some (.string ⟨#[97, 110, 100]⟩)
  c5 : w.cell? ⟨1, 5, none⟩ = some (.string ⟨#[111, 114]⟩)
  c6 : w.cell? ⟨1, 6, none⟩ = some (.string ⟨#[112, 114, 101, 118]⟩)
  c7 : w.cell? ⟨1, 7, none⟩ = some (.string ⟨#[111, 110, 99, 101]⟩)
  c8 : w.cell? ⟨1, 8, none⟩ = some (.string ⟨#[104, 105, 115, 116]⟩)
  c9 : w.cell? ⟨1, 9, none⟩ = some (.string ⟨#[115, 105, 110, 99, 101]⟩)
theorem kindW_at (l : List UInt8) (k : Nat) (h : k = 1 ∨ (3 ≤ k ∧ k ≤ 9)) (e : (kw k == l) = true) : kindW l = k := by
  have e' : kw k = l := by simpa using e
  subst e'
  rcases h with rfl | ⟨h1, h2⟩
  · rfl
  · have : k = 3 ∨ k = 4 ∨ k = 5 ∨ k = 6 ∨ k = 7 ∨ k = 8 ∨ k = 9 := by omega
    rcases this with rfl | rfl | rfl | rfl | rfl | rfl | rfl <;> rfl
theorem kindW_none (l : List UInt8) (h : ∀ j, j < 10 → (j = 1 ∨ 3 ≤ j) → (kw j == l) = false) : kindW l = 0 := by
  have g : ∀ j, j < 10 → (j = 1 ∨ 3 ≤ j) → (l == kw j) = false := fun j a b => by rw [BEq.comm]; exact h j a b
  have g1 := g 1 (by omega) (by omega)
  have g3 := g 3 (by omega) (by omega)
  have g4 := g 4 (by omega) (by omega)
  have g5 := g 5 (by omega) (by omega)
  have g6 := g 6 (by omega) (by omega)
  have g7 := g 7 (by omega) (by omega)
  have g8 := g 8 (by omega) (by omega)
  have g9 := g 9 (by omega) (by omega)
  simp only [kw] at g1 g3 g4 g5 g6 g7 g8 g9
  simp at g1 g3 g4 g5 g6 g7 g8 g9
  simp [kindW, kindS, g1, g3, g4, g5, g6, g7, g8, g9]
set_option maxRecDepth 100000 in
set_option maxHeartbeats 2000000 in
theorem kindW_any (s : ByteArray) (w : World) (hk : Kw w) :
    Calls Tryd.prog 74 #[.string s] w fun e w' => e = .returned (.int .i64 (kindW s.toList)) ∧ w' = w := by
  obtain ⟨h0, h1, h2, h3, h4, h5, h6, h7, h8, h9⟩ := hk
  go_enter Tryd.func74, Tryd.ntmps74
  go_wp2
  go_loop [6] (fun i => ∃ k : Nat, k ≤ 10 ∧ i = .int .i64 k ∧ ∀ j, j < k → (j = 1 ∨ 3 ≤ j) → (kw j == s.toList) = false) (fun i => 10 - (intOf i).toNat)
  case atStart => exact ⟨0, by omega, rfl, fun j h => by omega⟩
  case round =>
    clear h0 h1 h2 h3 h4 h5 h6 h7 h8 h9
    obtain ⟨k, hk, rfl, hg⟩ := hrel
    have HG : Hid (∀ j, j < k → (j = 1 ∨ 3 ≤ j) → (kw j == s.toList) = false) := hg
    clear hg
    have hc : k = 0 ∨ k = 1 ∨ k = 2 ∨ k = 3 ∨ k = 4 ∨ k = 5 ∨ k = 6 ∨ k = 7 ∨ k = 8 ∨ k = 9 ∨ k = 10 := by omega
    rcases hc with rfl | rfl | rfl | rfl | rfl | rfl | rfl | rfl | rfl | rfl | rfl
    · have hix : Sem.run Tryd.prog (Instr.index 130 (Value.agg #[.string ⟨#[]⟩, .string ⟨#[116, 114, 117, 101]⟩, .string ⟨#[]⟩, .string ⟨#[110, 111, 116]⟩, .string ⟨#[97, 110, 100]⟩, .string ⟨#[111, 114]⟩, .string ⟨#[112, 114, 101, 118]⟩, .string ⟨#[111, 110, 99, 101]⟩, .string ⟨#[104, 105, 115, 116]⟩, .string ⟨#[115, 105, 110, 99, 101]⟩]) (Value.int .i64 0)) w = .ok (.string ⟨#[]⟩) w := by kernel_rfl
      go_wp2
      go_round
      case rel => exact ⟨1, by omega, rfl, fun j h h' => HG.out j (by omega) h'⟩
      case measure => simp [intOf]
    · have hix : Sem.run Tryd.prog (Instr.index 130 (Value.agg #[.string ⟨#[]⟩, .string ⟨#[116, 114, 117, 101]⟩, .string ⟨#[]⟩, .string ⟨#[110, 111, 116]⟩, .string ⟨#[97, 110, 100]⟩, .string ⟨#[111, 114]⟩, .string ⟨#[112, 114, 101, 118]⟩, .string ⟨#[111, 110, 99, 101]⟩, .string ⟨#[104, 105, 115, 116]⟩, .string ⟨#[115, 105, 110, 99, 101]⟩]) (Value.int .i64 1)) w = .ok (.string ⟨#[116, 114, 117, 101]⟩) w := by kernel_rfl
      go_wp2
      · go_ret
        exact ⟨ret_int (kindW_at _ 1 (by omega) ‹_›).symm, rfl⟩
      · go_round
        case rel => exact ⟨2, by omega, rfl, fun j h h' => by
          by_cases e : j = 1
          · subst e; assumption
          · exact HG.out j (by omega) h'⟩
        case measure => simp [intOf]
    · have hix : Sem.run Tryd.prog (Instr.index 130 (Value.agg #[.string ⟨#[]⟩, .string ⟨#[116, 114, 117, 101]⟩, .string ⟨#[]⟩, .string ⟨#[110, 111, 116]⟩, .string ⟨#[97, 110, 100]⟩, .string ⟨#[111, 114]⟩, .string ⟨#[112, 114, 101, 118]⟩, .string ⟨#[111, 110, 99, 101]⟩, .string ⟨#[104, 105, 115, 116]⟩, .string ⟨#[115, 105, 110, 99, 101]⟩]) (Value.int .i64 2)) w = .ok (.string ⟨#[]⟩) w := by kernel_rfl
      go_wp2
      go_round
      case rel => exact ⟨3, by omega, rfl, fun j h h' => HG.out j (by omega) h'⟩
      case measure => simp [intOf]
    · have hix : Sem.run Tryd.prog (Instr.index 130 (Value.agg #[.string ⟨#[]⟩, .string ⟨#[116, 114, 117, 101]⟩, .string ⟨#[]⟩, .string ⟨#[110, 111, 116]⟩, .string ⟨#[97, 110, 100]⟩, .string ⟨#[111, 114]⟩, .string ⟨#[112, 114, 101, 118]⟩, .string ⟨#[111, 110, 99, 101]⟩, .string ⟨#[104, 105, 115, 116]⟩, .string ⟨#[115, 105, 110, 99, 101]⟩]) (Value.int .i64 3)) w = .ok (.string ⟨#[110, 111, 116]⟩) w := by kernel_rfl
      go_wp2
      · go_ret
        exact ⟨ret_int (kindW_at _ 3 (by omega) ‹_›).symm, rfl⟩
      · go_round
        case rel => exact ⟨4, by omega, rfl, fun j h h' => by
          by_cases e : j = 3
          · subst e; assumption
          · exact HG.out j (by omega) h'⟩
        case measure => simp [intOf]
    · have hix : Sem.run Tryd.prog (Instr.index 130 (Value.agg #[.string ⟨#[]⟩, .string ⟨#[116, 114, 117, 101]⟩, .string ⟨#[]⟩, .string ⟨#[110, 111, 116]⟩, .string ⟨#[97, 110, 100]⟩, .string ⟨#[111, 114]⟩, .string ⟨#[112, 114, 101, 118]⟩, .string ⟨#[111, 110, 99, 101]⟩, .string ⟨#[104, 105, 115, 116]⟩, .string ⟨#[115, 105, 110, 99, 101]⟩]) (Value.int .i64 4)) w = .ok (.string ⟨#[97, 110, 100]⟩) w := by kernel_rfl
      go_wp2
      · go_ret
        exact ⟨ret_int (kindW_at _ 4 (by omega) ‹_›).symm, rfl⟩
      · go_round
        case rel => exact ⟨5, by omega, rfl, fun j h h' => by
          by_cases e : j = 4
          · subst e; assumption
          · exact HG.out j (by omega) h'⟩
        case measure => simp [intOf]
    · have hix : Sem.run Tryd.prog (Instr.index 130 (Value.agg #[.string ⟨#[]⟩, .string ⟨#[116, 114, 117, 101]⟩, .string ⟨#[]⟩, .string ⟨#[110, 111, 116]⟩, .string ⟨#[97, 110, 100]⟩, .string ⟨#[111, 114]⟩, .string ⟨#[112, 114, 101, 118]⟩, .string ⟨#[111, 110, 99, 101]⟩, .string ⟨#[104, 105, 115, 116]⟩, .string ⟨#[115, 105, 110, 99, 101]⟩]) (Value.int .i64 5)) w = .ok (.string ⟨#[111, 114]⟩) w := by kernel_rfl
      go_wp2
      · go_ret
        exact ⟨ret_int (kindW_at _ 5 (by omega) ‹_›).symm, rfl⟩
      · go_round
        case rel => exact ⟨6, by omega, rfl, fun j h h' => by
          by_cases e : j = 5
          · subst e; assumption
          · exact HG.out j (by omega) h'⟩
        case measure => simp [intOf]
    · have hix : Sem.run Tryd.prog (Instr.index 130 (Value.agg #[.string ⟨#[]⟩, .string ⟨#[116, 114, 117, 101]⟩, .string ⟨#[]⟩, .string ⟨#[110, 111, 116]⟩, .string ⟨#[97, 110, 100]⟩, .string ⟨#[111, 114]⟩, .string ⟨#[112, 114, 101, 118]⟩, .string ⟨#[111, 110, 99, 101]⟩, .string ⟨#[104, 105, 115, 116]⟩, .string ⟨#[115, 105, 110, 99, 101]⟩]) (Value.int .i64 6)) w = .ok (.string ⟨#[112, 114, 101, 118]⟩) w := by kernel_rfl
      go_wp2
      · go_ret
        exact ⟨ret_int (kindW_at _ 6 (by omega) ‹_›).symm, rfl⟩
      · go_round
        case rel => exact ⟨7, by omega, rfl, fun j h h' => by
          by_cases e : j = 6
          · subst e; assumption
          · exact HG.out j (by omega) h'⟩
        case measure => simp [intOf]
    · have hix : Sem.run Tryd.prog (Instr.index 130 (Value.agg #[.string ⟨#[]⟩, .string ⟨#[116, 114, 117, 101]⟩, .string ⟨#[]⟩, .string ⟨#[110, 111, 116]⟩, .string ⟨#[97, 110, 100]⟩, .string ⟨#[111, 114]⟩, .string ⟨#[112, 114, 101, 118]⟩, .string ⟨#[111, 110, 99, 101]⟩, .string ⟨#[104, 105, 115, 116]⟩, .string ⟨#[115, 105, 110, 99, 101]⟩]) (Value.int .i64 7)) w = .ok (.string ⟨#[111, 110, 99, 101]⟩) w := by kernel_rfl
      go_wp2
      · go_ret
        exact ⟨ret_int (kindW_at _ 7 (by omega) ‹_›).symm, rfl⟩
      · go_round
        case rel => exact ⟨8, by omega, rfl, fun j h h' => by
          by_cases e : j = 7
          · subst e; assumption
          · exact HG.out j (by omega) h'⟩
        case measure => simp [intOf]
    · have hix : Sem.run Tryd.prog (Instr.index 130 (Value.agg #[.string ⟨#[]⟩, .string ⟨#[116, 114, 117, 101]⟩, .string ⟨#[]⟩, .string ⟨#[110, 111, 116]⟩, .string ⟨#[97, 110, 100]⟩, .string ⟨#[111, 114]⟩, .string ⟨#[112, 114, 101, 118]⟩, .string ⟨#[111, 110, 99, 101]⟩, .string ⟨#[104, 105, 115, 116]⟩, .string ⟨#[115, 105, 110, 99, 101]⟩]) (Value.int .i64 8)) w = .ok (.string ⟨#[104, 105, 115, 116]⟩) w := by kernel_rfl
      go_wp2
      · go_ret
        exact ⟨ret_int (kindW_at _ 8 (by omega) ‹_›).symm, rfl⟩
      · go_round
        case rel => exact ⟨9, by omega, rfl, fun j h h' => by
          by_cases e : j = 8
          · subst e; assumption
          · exact HG.out j (by omega) h'⟩
        case measure => simp [intOf]
    · have hix : Sem.run Tryd.prog (Instr.index 130 (Value.agg #[.string ⟨#[]⟩, .string ⟨#[116, 114, 117, 101]⟩, .string ⟨#[]⟩, .string ⟨#[110, 111, 116]⟩, .string ⟨#[97, 110, 100]⟩, .string ⟨#[111, 114]⟩, .string ⟨#[112, 114, 101, 118]⟩, .string ⟨#[111, 110, 99, 101]⟩, .string ⟨#[104, 105, 115, 116]⟩, .string ⟨#[115, 105, 110, 99, 101]⟩]) (Value.int .i64 9)) w = .ok (.string ⟨#[115, 105, 110, 99, 101]⟩) w := by kernel_rfl
      go_wp2
      · go_ret
        exact ⟨ret_int (kindW_at _ 9 (by omega) ‹_›).symm, rfl⟩
      · go_round
        case rel => exact ⟨10, by omega, rfl, fun j h h' => by
          by_cases e : j = 9
          · subst e; assumption
          · exact HG.out j (by omega) h'⟩
        case measure => simp [intOf]
    · go_wp2
      go_ret
      exact ⟨ret_int (kindW_none _ HG.out).symm, rfl⟩
end Go.Proofs.YtagklhfejbdkdaaDoor
