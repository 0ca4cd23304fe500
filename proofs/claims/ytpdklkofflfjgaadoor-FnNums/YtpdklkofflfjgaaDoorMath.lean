/-
  Plain facts on how a number is read from its bytes, and the contracts of the small functions.
-/
import Derived.Test.YtpdklkofflfjgaaDoorScope
import Derived.Laws.BitsAllLaws
namespace Go.Proofs.YtpdklkofflfjgaaDoor
open Go.RowKit

def byteAt (s : ByteArray) (k : Nat) : Nat := (s.data.toList.getD k 0).toNat
theorem byteAt_eq (s : ByteArray) (k : Nat) (h : k < s.size) : byteAt s k = s[k].toNat := by
  unfold byteAt
  have h' : k < s.data.toList.length := by simpa using h
  simp [List.getD, h]
  rfl
theorem byteAt_lt (s : ByteArray) (k : Nat) : byteAt s k < 256 := UInt8.toNat_lt _
theorem ret_bool {a b : Bool} (h : a = b) : Ending.returned (.bool a) = .returned (.bool b) := by rw [h]
theorem ret_int {k : IntKind} {a b : Int} (h : a = b) : Ending.returned (.int k a) = .returned (.int k b) := by rw [h]
theorem val_int {k : IntKind} {a b : Int} (h : a = b) : Value.int k a = .int k b := by rw [h]

/-- Number k of a number's bytes stands at place p; U is what the bytes ahead of it come to. What is told: the number, the place behind it, a code. -/
def rdF : Nat → ByteArray → Nat → Nat → Nat → Nat × Nat × Int
  | 0, _, _, _, _ => (0, 0, 3)
  | f + 1, s, k, p, U =>
    if s.size ≤ p then (0, 0, 4)
    else if k = 9 ∧ 1 < byteAt s p then (0, 0, 3)
    else if byteAt s p < 128 then (if byteAt s p = 0 ∧ 0 < k then (0, 0, 3) else (U + byteAt s p * 2 ^ (7 * k), p + 1, 0))
    else rdF f s (k + 1) (p + 1) (U + byteAt s p % 128 * 2 ^ (7 * k))
def rdN (s : ByteArray) (p : Nat) : Nat × Nat × Int := rdF 10 s 0 p 0
def unfoldN (u : Nat) : Int := if u % 2 = 1 then -((u / 2 : Nat) : Int) - 1 else ((u / 2 : Nat) : Int)
/-- What holds ahead of byte number k. -/
def Mid (s : ByteArray) (p0 k U : Nat) : Prop := k ≤ 9 ∧ U < 2 ^ (7 * k) ∧ rdN s p0 = rdF (10 - k) s k (p0 + k) U

theorem mid_start (s : ByteArray) (p0 : Nat) : Mid s p0 0 0 := ⟨by omega, by decide, rfl⟩
theorem mid_open {s : ByteArray} {p0 k U : Nat} (h : Mid s p0 k U) : ∃ f, 10 - k = f + 1 := ⟨9 - k, by have := h.1; omega⟩
theorem mid_short {s : ByteArray} {p0 k U : Nat} (h : Mid s p0 k U) (hp : s.size ≤ p0 + k) : rdN s p0 = (0, 0, 4) := by
  obtain ⟨f, hf⟩ := mid_open h
  rw [h.2.2, hf, rdF, if_pos hp]
theorem mid_tenth {s : ByteArray} {p0 k U : Nat} (h : Mid s p0 k U) (hp : p0 + k < s.size) (hk : k = 9) (hb : 1 < byteAt s (p0 + k)) : rdN s p0 = (0, 0, 3) := by
  obtain ⟨f, hf⟩ := mid_open h
  rw [h.2.2, hf, rdF, if_neg (by omega), if_pos ⟨hk, hb⟩]
theorem mid_nought {s : ByteArray} {p0 k U : Nat} (h : Mid s p0 k U) (hp : p0 + k < s.size) (hb : byteAt s (p0 + k) = 0) (hk : 0 < k) : rdN s p0 = (0, 0, 3) := by
  obtain ⟨f, hf⟩ := mid_open h
  rw [h.2.2, hf, rdF, if_neg (by omega), if_neg (by omega), if_pos (by omega), if_pos ⟨hb, hk⟩]
theorem mid_last {s : ByteArray} {p0 k U : Nat} (h : Mid s p0 k U) (hp : p0 + k < s.size) (ht : ¬ (k = 9 ∧ 1 < byteAt s (p0 + k))) (hb : byteAt s (p0 + k) < 128) (h0 : ¬ (byteAt s (p0 + k) = 0 ∧ 0 < k)) :
    rdN s p0 = (U + byteAt s (p0 + k) * 2 ^ (7 * k), p0 + k + 1, 0) := by
  obtain ⟨f, hf⟩ := mid_open h
  rw [h.2.2, hf, rdF, if_neg (by omega), if_neg ht, if_pos hb, if_neg h0]
theorem mid_more {s : ByteArray} {p0 k U : Nat} (h : Mid s p0 k U) (hp : p0 + k < s.size) (ht : ¬ (k = 9 ∧ 1 < byteAt s (p0 + k))) (hb : ¬ byteAt s (p0 + k) < 128) :
    Mid s p0 (k + 1) (U + byteAt s (p0 + k) % 128 * 2 ^ (7 * k)) := by
  obtain ⟨h1, h2, h3⟩ := h
  refine ⟨by omega, ?_, ?_⟩
  · have h7 : byteAt s (p0 + k) % 128 ≤ 127 := by omega
    have := Nat.mul_le_mul_right (2 ^ (7 * k)) h7
    rw [show 7 * (k + 1) = 7 * k + 7 by omega, Nat.pow_add]
    generalize 2 ^ (7 * k) = X at *
    omega
  · obtain ⟨f, hf⟩ : ∃ f, 10 - k = f + 1 := ⟨9 - k, by omega⟩
    rw [h3, hf, rdF, if_neg (by omega), if_neg ht, if_neg hb, show 10 - (k + 1) = f by omega]
    rfl
/-- The bits that a byte adds lie above those that are there, and within 64 bits. -/
theorem pow7 (k : Nat) (hk : k ≤ 9) : 2 ^ (7 * k) ≤ 9223372036854775808 := by
  have : 2 ^ (7 * k) ≤ 2 ^ 63 := Nat.pow_le_pow_right (by omega) (by omega)
  simpa using this
theorem add_fits (x k U : Nat) (hk : k ≤ 9) (hx : x < 128) (h9 : k = 9 → x ≤ 1) (hU : U < 2 ^ (7 * k)) : x * 2 ^ (7 * k) < 18446744073709551616 ∧ U + x * 2 ^ (7 * k) < 18446744073709551616 := by
  by_cases h : k = 9
  · subst h
    have := h9 rfl
    simp at hU ⊢
    omega
  · have h8 : 2 ^ (7 * k) ≤ 2 ^ 56 := Nat.pow_le_pow_right (by omega) (by omega)
    have h1 : x * 2 ^ (7 * k) ≤ 127 * 2 ^ (7 * k) := Nat.mul_le_mul_right _ (by omega)
    simp at h8
    omega
theorem or_add (x k U : Nat) (hU : U < 2 ^ (7 * k)) : U ||| x * 2 ^ (7 * k) = U + x * 2 ^ (7 * k) := by
  have := Nat.two_pow_add_eq_or_of_lt hU x
  rw [Nat.or_comm, Nat.mul_comm, ← this]
  omega
theorem wrap_shift (x k U : Nat) (hk : k ≤ 9) (hx : x < 128) (h9 : k = 9 → x ≤ 1) (hU : U < 2 ^ (7 * k)) : IntKind.u64.wrap ((x : Int) * 2 ^ (7 * k)) = ((x * 2 ^ (7 * k) : Nat) : Int) := by
  have h := (add_fits x k U hk hx h9 hU).1
  have e : ((x : Int) * 2 ^ (7 * k)) = ((x * 2 ^ (7 * k) : Nat) : Int) := by push_cast; rfl
  rw [e, IntKind.wrap_u64]
  omega
theorem or_shift (x k U : Nat) (hk : k ≤ 9) (hx : x < 128) (h9 : k = 9 → x ≤ 1) (hU : U < 2 ^ (7 * k)) : bits .or .u64 (U : Int) ((x * 2 ^ (7 * k) : Nat) : Int) = ((U + x * 2 ^ (7 * k) : Nat) : Int) := by
  have h := add_fits x k U hk hx h9 hU
  rw [u64_or_nat U _ (by omega) h.1, or_add x k U hU]

/-! ### The small functions -/
theorem tooLong_w (s : ByteArray) (hs : s.size ≤ maxLen) (w : World) :
    Calls Tryd.prog 27 #[.string s] w fun e w' => e = .returned (.bool (decide (8000 < s.size))) ∧ w = w' := by
  unfold maxLen at hs
  go_enter Tryd.func27, Tryd.ntmps27
  go_wp2
  go_ret
  exact ⟨ret_bool (by simp; omega), rfl⟩
def placeC (s : ByteArray) (a : Int) : Int := if 8000 < s.size then 2 else if a < 0 then 1 else 0
theorem place_w (s : ByteArray) (hs : s.size ≤ maxLen) (a : Int) (w : World) :
    Calls Tryd.prog 31 #[.string s, .int .i64 a] w fun e w' => e = .returned (.int .i64 (placeC s a)) ∧ w = w' := by
  by_cases h1 : 8000 < s.size
  · rw [show placeC s a = 2 by simp [placeC, h1]]
    have d1 : decide (8000 < s.size) = true := by simpa using h1
    go_enter Tryd.func31, Tryd.ntmps31
    go_wp2_with (go_at_call 27; refine (tooLong_w s hs _).mono ?_; rintro e w' ⟨rfl, rfl⟩)
    go_ret
    exact ⟨rfl, rfl⟩
  have d1 : decide (8000 < s.size) = false := by simpa using h1
  by_cases h2 : a < 0
  · rw [show placeC s a = 1 by simp [placeC, h1, h2]]
    go_enter Tryd.func31, Tryd.ntmps31
    go_wp2_with (go_at_call 27; refine (tooLong_w s hs _).mono ?_; rintro e w' ⟨rfl, rfl⟩)
    go_ret
    exact ⟨rfl, rfl⟩
  · rw [show placeC s a = 0 by simp [placeC, h1, h2]]
    go_enter Tryd.func31, Tryd.ntmps31
    go_wp2_with (go_at_call 27; refine (tooLong_w s hs _).mono ?_; rintro e w' ⟨rfl, rfl⟩)
    go_ret
    exact ⟨rfl, rfl⟩
theorem unfold_w (u : Nat) (hu : u < 18446744073709551616) (w : World) :
    Calls Tryd.prog 32 #[.int .u64 u] w fun e w' => e = .returned (.int .i64 (unfoldN u)) ∧ w = w' := by
  by_cases h : u % 2 = 1
  · have HF : Hid (unfoldN u = -((u : Int) / 2) - 1) := by unfold unfoldN; rw [if_pos h]; show _ = _; omega
    have d : ((u : Int) % 2 == 1) = true := by simp; omega
    clear h
    go_enter Tryd.func32, Tryd.ntmps32
    go_wp2
    go_ret
    exact ⟨ret_int HF.out.symm, rfl⟩
  · have HF : Hid (unfoldN u = (u : Int) / 2) := by unfold unfoldN; rw [if_neg h]; show _ = _; omega
    have d : ((u : Int) % 2 == 1) = false := by simp; omega
    clear h
    go_enter Tryd.func32, Tryd.ntmps32
    go_wp2
    go_ret
    exact ⟨ret_int HF.out.symm, rfl⟩
end Go.Proofs.YtpdklkofflfjgaaDoor
