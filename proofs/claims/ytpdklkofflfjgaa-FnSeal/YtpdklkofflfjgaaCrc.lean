/-
  The contracts of the functions of the CRC, the model's and the program's: each answers 'crcN' of the text's bytes, and turns nothing.
-/
import Derived.Test.YtpdklkofflfjgaaName
import Derived.Laws.BitsAllLaws
namespace Go.Proofs.Ytpdklkofflfjgaa
open Go.RowKit

/-! ### Plain facts -/
def bitStep (r : Nat) : Nat := if r % 2 = 1 then (r / 2) ^^^ 3988292384 else r / 2
def bitsTo (r : Nat) : Nat → Nat
  | 0 => r
  | k + 1 => bitStep (bitsTo r k)
def byteStep (r b : Nat) : Nat := bitsTo (r ^^^ b) 8
def regTo (r : Nat) (s : ByteArray) : Nat → Nat
  | 0 => r
  | k + 1 => byteStep (regTo r s k) (byteAt s k)
def crcN (c : Nat) (s : ByteArray) : Nat := regTo (c ^^^ 4294967295) s s.size ^^^ 4294967295

theorem xor_lt32 {a b : Nat} (ha : a < 4294967296) (hb : b < 4294967296) : a ^^^ b < 4294967296 :=
  Nat.xor_lt_two_pow (n := 32) ha hb
theorem bitStep_lt {r : Nat} (h : r < 4294967296) : bitStep r < 4294967296 := by
  unfold bitStep
  split
  · exact xor_lt32 (by omega) (by omega)
  · omega
theorem bitsTo_lt {r : Nat} (h : r < 4294967296) (k : Nat) : bitsTo r k < 4294967296 := by
  induction k with
  | zero => exact h
  | succ k ih => exact bitStep_lt ih
theorem byteStep_lt {r b : Nat} (h : r < 4294967296) (hb : b < 256) : byteStep r b < 4294967296 :=
  bitsTo_lt (xor_lt32 h (by omega)) 8
theorem byteAt_lt (s : ByteArray) (k : Nat) : byteAt s k < 256 := UInt8.toNat_lt _
theorem regTo_lt {r : Nat} (h : r < 4294967296) (s : ByteArray) (k : Nat) : regTo r s k < 4294967296 := by
  induction k with
  | zero => exact h
  | succ k ih => exact byteStep_lt ih (byteAt_lt s k)
theorem crcN_lt {c : Nat} (h : c < 4294967296) (s : ByteArray) : crcN c s < 4294967296 :=
  xor_lt32 (regTo_lt (xor_lt32 h (by omega)) s _) (by omega)

theorem and_one {R : Nat} (h : R < 4294967296) : bits .and .u32 (R : Int) 1 = ((R % 2 : Nat) : Int) := by
  have := u32_and_nat R 1 h (by omega)
  rw [Nat.and_one_is_mod] at this
  exact this
theorem odd_step {R : Nat} (h : R < 4294967296) (o : R % 2 = 1) : bits .xor .u32 ((R : Int) / 2) 3988292384 = ((bitStep R : Nat) : Int) := by
  have := u32_xor_nat (R / 2) 3988292384 (by omega) (by omega)
  simp only [bitStep, o, if_true]
  rw [← this]
  rfl
theorem even_step {R : Nat} (o : R % 2 ≠ 1) : ((R : Int) / 2) = ((bitStep R : Nat) : Int) := by
  simp only [bitStep, o, if_false]
  rfl
theorem xor_ones {c : Nat} (h : c < 4294967296) : bits .xor .u32 (c : Int) 4294967295 = ((c ^^^ 4294967295 : Nat) : Int) :=
  u32_xor_nat c 4294967295 h (by omega)
theorem not_ones {c : Nat} (h : c < 4294967296) : bits .xor .u32 IntKind.u32.max (c : Int) = ((c ^^^ 4294967295 : Nat) : Int) := by
  rw [show IntKind.u32.max = ((4294967295 : Nat) : Int) from by decide, u32_xor_nat 4294967295 c (by omega) h, Nat.xor_comm]
theorem ret_int {k : IntKind} {a b : Int} (h : a = b) : Ending.returned (.int k a) = .returned (.int k b) := by rw [h]
theorem val_int {k : IntKind} {a b : Int} (h : a = b) : Value.int k a = .int k b := by rw [h]

/-! ### The program's -/
set_option maxHeartbeats 1000000 in
theorem crcStep_any (r b : Nat) (hr : r < 4294967296) (hb : b < 256) (w : World) :
    Calls Try.prog 40 #[.int .u32 r, .int .u8 b] w fun e w' => e = .returned (.int .u32 (byteStep r b : Nat)) ∧ w' = w := by
  have HX : Hid (bits .xor .u32 (r : Int) (b : Int) = ((r ^^^ b : Nat) : Int)) := u32_xor_nat r b hr (by omega)
  have hx := xor_lt32 hr (show b < 4294967296 by omega)
  go_enter Try.func40, Try.ntmps40
  go_wp2
  go_loop [0, 10] (fun x i => ∃ k : Nat, k ≤ 8 ∧ i = .int .i64 k ∧ x = .int .u32 (bitsTo (r ^^^ b) k : Nat)) (fun _ i => 8 - (intOf i).toNat)
  case atStart => exact ⟨0, by omega, rfl, val_int HX.out⟩
  case round =>
    obtain ⟨k, hk, rfl, rfl⟩ := hrel
    by_cases hlt : k < 8
    · have hR := bitsTo_lt hx k
      have HS : Hid (bitsTo (r ^^^ b) (k + 1) = bitStep (bitsTo (r ^^^ b) k)) := rfl
      generalize bitsTo (r ^^^ b) k = R at hR HS
      have h1 := and_one hR
      by_cases ho : R % 2 = 1
      · have HO : Hid (bits .xor .u32 ((R : Int) / 2) 3988292384 = ((bitStep R : Nat) : Int)) := odd_step hR ho
        have ht : (bits .and .u32 (R : Int) 1 == 1) = true := by rw [h1, ho]; rfl
        clear h1 ho
        go_wp2
        go_round
        case rel => exact ⟨k + 1, by omega, by go_num, val_int (by rw [HS.out]; exact HO.out)⟩
        case measure => simp [intOf]; omega
      · have HO : Hid (((R : Int) / 2) = ((bitStep R : Nat) : Int)) := even_step ho
        have ht : (bits .and .u32 (R : Int) 1 == 1) = false := by rw [h1]; simp; omega
        clear h1 ho
        go_wp2
        go_round
        case rel => exact ⟨k + 1, by omega, by go_num, val_int (by rw [HS.out]; exact HO.out)⟩
        case measure => simp [intOf]; omega
    · obtain rfl : k = 8 := by omega
      go_wp2
      go_ret
      exact ⟨rfl, rfl⟩

theorem tooLong_any (s : ByteArray) (hs : s.size ≤ maxLen) (w : World) :
    Calls Try.prog 37 #[.string s] w fun e w' => e = .returned (.bool (decide (8000 < s.size))) ∧ w' = w := by
  unfold maxLen at hs
  go_enter Try.func37, Try.ntmps37
  go_wp2
  go_ret
  exact ⟨ret_bool (by simp; omega), rfl⟩

set_option maxHeartbeats 1000000 in
theorem implMore_in (c : Nat) (s : ByteArray) (hc : c < 4294967296) (hs : s.size ≤ 8000) (w : World) :
    Calls Try.prog 17 #[.int .i64 c, .string s] w fun e w' => e = .returned (.int .i64 (crcN c s : Nat)) ∧ w' = w := by
  have hl : s.size ≤ maxLen := by unfold maxLen; omega
  have d1 : decide (8000 < s.size) = false := by simp; omega
  have HX : Hid (bits .xor .u32 IntKind.u32.max (c : Int) = ((c ^^^ 4294967295 : Nat) : Int)) := not_ones hc
  have hx := xor_lt32 hc (show 4294967295 < 4294967296 by omega)
  have HC : Hid (crcN c s = regTo (c ^^^ 4294967295) s s.size ^^^ 4294967295) := rfl
  generalize c ^^^ 4294967295 = x at HX hx HC
  go_enter Try.func17, Try.ntmps17
  go_wp2_with (go_at_call 37; refine (tooLong_any s hl _).mono ?_; rintro e w' ⟨rfl, rfl⟩)
  go_loop [5, 22] (fun v i => ∃ k : Nat, k ≤ s.size ∧ i = .int .i64 k ∧ v = .int .u32 (regTo x s k : Nat)) (fun _ i => s.size - (intOf i).toNat)
  case atStart => exact ⟨0, by omega, rfl, val_int HX.out⟩
  case round =>
    obtain ⟨k, hk, rfl, rfl⟩ := hrel
    have hR := regTo_lt hx s k
    by_cases hlt : k < s.size
    · have HS : Hid (regTo x s (k + 1) = byteStep (regTo x s k) (byteAt s k)) := rfl
      have HB : Hid (byteAt s k = s[k].toNat) := byteAt_eq s k hlt
      generalize regTo x s k = R at hR HS
      go_wp2_with (go_at_call 40; refine (crcStep_any _ _ hR (UInt8.toNat_lt _) _).mono ?_; rintro e w' ⟨rfl, rfl⟩)
      go_round
      case rel => exact ⟨k + 1, by omega, by go_num, val_int (by rw [HS.out, HB.out])⟩
      case measure => simp [intOf]; omega
    · obtain rfl : k = s.size := by omega
      have HN : Hid (bits .xor .u32 IntKind.u32.max ((regTo x s s.size : Nat) : Int) = ((regTo x s s.size ^^^ 4294967295 : Nat) : Int)) := not_ones hR
      generalize regTo x s s.size = R at hR HN HC
      go_wp2
      go_ret
      refine ⟨ret_int ?_, rfl⟩
      rw [HC.out, HN.out]
      have hz := xor_lt32 hR (show 4294967295 < 4294967296 by omega)
      exact IntWalk.wrap64_in _ ⟨by omega, by omega⟩

/-! ### The model's -/
set_option maxHeartbeats 1000000 in
set_option maxRecDepth 100000 in
theorem specCrc_in (c : Nat) (s : ByteArray) (hc : c < 4294967296) (hs : s.size ≤ 8000) (w : World) :
    Calls Try.prog 36 #[.int .i64 c, .string s] w fun e w' => e = .returned (.int .i64 (crcN c s : Nat)) ∧ w' = w := by
  have HX : Hid (bits .xor .u32 (c : Int) 4294967295 = ((c ^^^ 4294967295 : Nat) : Int)) := xor_ones hc
  have hx := xor_lt32 hc (show 4294967295 < 4294967296 by omega)
  have HC : Hid (crcN c s = regTo (c ^^^ 4294967295) s s.size ^^^ 4294967295) := rfl
  generalize c ^^^ 4294967295 = x at HX hx HC
  go_enter Try.func36, Try.ntmps36
  go_wp2
  go_loop [5, 6] (fun v i => ∃ k : Nat, k ≤ s.size ∧ i = .int .i64 k ∧ v = .int .u32 (regTo x s k : Nat)) (fun _ i => s.size - (intOf i).toNat)
  case atStart => exact ⟨0, by omega, rfl, val_int HX.out⟩
  case round =>
    obtain ⟨k, hk, rfl, rfl⟩ := hrel
    have hR := regTo_lt hx s k
    by_cases hlt : k < s.size
    · have HS : Hid (regTo x s (k + 1) = bitsTo (regTo x s k ^^^ byteAt s k) 8) := rfl
      have HB : Hid (byteAt s k = s[k].toNat) := byteAt_eq s k hlt
      generalize regTo x s k = R at hR HS
      have HY : Hid (bits .xor .u32 (R : Int) (s[k].toNat : Int) = ((R ^^^ byteAt s k : Nat) : Int)) := by
        rw [HB.out]
        exact u32_xor_nat R _ hR (by have := UInt8.toNat_lt s[k]; omega)
      have hy := xor_lt32 hR (show byteAt s k < 4294967296 by have := byteAt_lt s k; omega)
      generalize R ^^^ byteAt s k = y at HS HY hy
      have hb8 : (s[k].toNat : Int) < 256 := by have := UInt8.toNat_lt s[k]; omega
      go_wp2
      go_loop [5, 7] (fun v j => ∃ m : Nat, m ≤ 8 ∧ j = .int .i64 m ∧ v = .int .u32 (bitsTo y m : Nat)) (fun _ j => 8 - (intOf j).toNat)
      case atStart => exact ⟨0, by omega, rfl, val_int HY.out⟩
      case round =>
        obtain ⟨m, hm, rfl, rfl⟩ := hrel
        by_cases hlm : m < 8
        · have hQ := bitsTo_lt hy m
          have HT : Hid (bitsTo y (m + 1) = bitStep (bitsTo y m)) := rfl
          generalize bitsTo y m = Q at hQ HT
          have h1 := and_one hQ
          by_cases ho : Q % 2 = 1
          · have HO : Hid (bits .xor .u32 ((Q : Int) / 2) 3988292384 = ((bitStep Q : Nat) : Int)) := odd_step hQ ho
            have ht : (bits .and .u32 (Q : Int) 1 == 1) = true := by rw [h1, ho]; rfl
            clear h1 ho
            go_wp2
            go_round
            case rel => exact ⟨m + 1, by omega, by go_num, val_int (by rw [HT.out]; exact HO.out)⟩
            case measure => simp [intOf]; omega
          · have HO : Hid (((Q : Int) / 2) = ((bitStep Q : Nat) : Int)) := even_step ho
            have ht : (bits .and .u32 (Q : Int) 1 == 1) = false := by rw [h1]; simp; omega
            clear h1 ho
            go_wp2
            go_round
            case rel => exact ⟨m + 1, by omega, by go_num, val_int (by rw [HT.out]; exact HO.out)⟩
            case measure => simp [intOf]; omega
        · obtain rfl : m = 8 := by omega
          go_wp2
          go_round
          case rel => exact ⟨k + 1, by omega, by go_num, val_int (by rw [HS.out])⟩
          case measure => simp [intOf]; omega
    · obtain rfl : k = s.size := by omega
      have HN : Hid (bits .xor .u32 ((regTo x s s.size : Nat) : Int) 4294967295 = ((regTo x s s.size ^^^ 4294967295 : Nat) : Int)) := xor_ones hR
      generalize regTo x s s.size = R at hR HN HC
      go_wp2
      go_ret
      refine ⟨ret_int ?_, rfl⟩
      rw [HC.out, HN.out]
      have hz := xor_lt32 hR (show 4294967295 < 4294967296 by omega)
      exact IntWalk.wrap64_in _ ⟨by omega, by omega⟩
end Go.Proofs.Ytpdklkofflfjgaa
