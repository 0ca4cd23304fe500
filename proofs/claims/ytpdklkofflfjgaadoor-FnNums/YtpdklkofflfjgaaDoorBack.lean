/-
  Plain facts: a number, and a text, are got back from their bytes; of bytes that end too early nothing is got.
-/
import Derived.Test.YtpdklkofflfjgaaDoorPutText
namespace Go.Proofs.YtpdklkofflfjgaaDoor

theorem unfold_fold (n : Int) : unfoldN (foldN n) = n := by
  unfold unfoldN foldN
  by_cases h : n < 0
  · rw [if_pos h]
    have : (2 * (-(n + 1)) + 1).toNat % 2 = 1 := by omega
    rw [if_pos this]
    omega
  · rw [if_neg h]
    have : ¬ (2 * n).toNat % 2 = 1 := by omega
    rw [if_neg this]
    omega
theorem str_data (l : List UInt8) : (str l).data.toList = l := rfl
theorem byteAt_str (l : List UInt8) (k : Nat) : byteAt (str l) k = (l.getD k 0).toNat := rfl
theorem enc_more (f U : Nat) (h : 128 ≤ U) : enc (f + 1) U = UInt8.ofNat (U % 128 + 128) :: enc f (U / 128) := by
  simp [enc]
  omega
theorem head_at (pre post : List UInt8) (b : UInt8) : byteAt (str (pre ++ b :: post)) pre.length = b.toNat := by
  rw [byteAt_str, List.getD_eq_getElem?_getD, List.getElem?_append_right (Nat.le_refl _)]
  simp
theorem ninth {U : Nat} (h : U * 128 ^ 9 < 18446744073709551616) : U ≤ 1 := by
  have e : (128 : Nat) ^ 9 = 9223372036854775808 := by decide
  rw [e] at h
  omega
theorem pow_step (U k : Nat) (h : U * 128 ^ k < 18446744073709551616) : U / 128 * 128 ^ (k + 1) < 18446744073709551616 := by
  have h1 : U / 128 * 128 ≤ U := Nat.div_mul_le_self U 128
  have h2 : U / 128 * 128 * 128 ^ k ≤ U * 128 ^ k := Nat.mul_le_mul_right _ h1
  rw [Nat.pow_succ, Nat.mul_comm (128 ^ k) 128, ← Nat.mul_assoc]
  omega
theorem sum_step (A U k : Nat) : A + (U % 128 + 128) % 128 * 2 ^ (7 * k) + U / 128 * 2 ^ (7 * (k + 1)) = A + U * 2 ^ (7 * k) := by
  have e1 : (U % 128 + 128) % 128 = U % 128 := by omega
  have e2 : 2 ^ (7 * (k + 1)) = 128 * 2 ^ (7 * k) := by rw [show 7 * (k + 1) = 7 * k + 7 by omega, Nat.pow_add]; omega
  have e3 : U = U % 128 + U / 128 * 128 := by omega
  rw [e1, e2]
  generalize 2 ^ (7 * k) = P
  have : U * P = U % 128 * P + U / 128 * (128 * P) := by
    rw [← Nat.mul_assoc, ← Nat.add_mul, ← e3]
  omega
theorem b_more (U : Nat) : (UInt8.ofNat (U % 128 + 128)).toNat = U % 128 + 128 := by
  rw [UInt8.toNat_ofNat']
  omega
theorem b_last (U : Nat) (h : U < 128) : (UInt8.ofNat U).toNat = U := by
  rw [UInt8.toNat_ofNat']
  omega
/-- The last byte. -/
theorem rdF_last (pre post : List UInt8) (f k U A : Nat) (hU : U * 128 ^ k < 18446744073709551616) (h0 : 0 < k → 0 < U) (hs : U < 128) :
    rdF (f + 1) (str (pre ++ UInt8.ofNat U :: post)) k pre.length A = (A + U * 2 ^ (7 * k), pre.length + 1, 0) := by
  have hb : byteAt (str (pre ++ UInt8.ofNat U :: post)) pre.length = U := by rw [head_at, b_last U hs]
  have hz : (str (pre ++ UInt8.ofNat U :: post)).size = pre.length + (post.length + 1) := by rw [str_size]; simp
  have h9 : ¬ (k = 9 ∧ 1 < U) := by
    rintro ⟨rfl, h⟩
    have := ninth hU
    omega
  rw [rdF, hb, hz, if_neg (by omega), if_neg h9, if_pos hs, if_neg (by omega)]
/-- The bytes of the rest of a number, behind others: what is read of them. -/
theorem rdF_enc (pre post : List UInt8) (f k U A : Nat) (hk : k + f = 9) (hU : U * 128 ^ k < 18446744073709551616) (h0 : 0 < k → 0 < U) :
    rdF (f + 1) (str (pre ++ (enc f U ++ post))) k pre.length A = (A + U * 2 ^ (7 * k), pre.length + (enc f U).length, 0) := by
  induction f generalizing k U A pre with
  | zero =>
    have hs : U < 128 := by
      obtain rfl : k = 9 := by omega
      have := ninth hU
      omega
    rw [enc_small 0 U hs]
    exact rdF_last pre post 0 k U A hU h0 hs
  | succ f ih =>
    by_cases hs : U < 128
    · rw [enc_small _ U hs]
      exact rdF_last pre post _ k U A hU h0 hs
    · rw [enc_more f U (by omega)]
      have hb : byteAt (str (pre ++ (UInt8.ofNat (U % 128 + 128) :: enc f (U / 128) ++ post))) pre.length = U % 128 + 128 := by
        rw [List.cons_append, head_at, b_more]
      have hz : (str (pre ++ (UInt8.ofNat (U % 128 + 128) :: enc f (U / 128) ++ post))).size = pre.length + ((enc f (U / 128)).length + post.length + 1) := by
        rw [str_size]
        simp
      rw [rdF, hb, hz, if_neg (by omega), if_neg (by omega), if_neg (by omega)]
      have e := ih (pre ++ [UInt8.ofNat (U % 128 + 128)]) (k + 1) (U / 128) (A + (U % 128 + 128) % 128 * 2 ^ (7 * k)) (by omega) (pow_step U k hU) (fun _ => by omega)
      simp only [List.append_assoc, List.singleton_append, List.length_append, List.length_singleton] at e
      rw [List.cons_append, e, sum_step, List.length_cons]
      congr 2
      omega
/-- With the last byte, or more, left out. -/
theorem rdF_cut (pre : List UInt8) (f k U A : Nat) (hk : k + f = 9) (j : Nat) (hj : j < (enc f U).length) :
    rdF (f + 1) (str (pre ++ (enc f U).take j)) k pre.length A = (0, 0, 4) := by
  induction f generalizing k U A pre j with
  | zero =>
    obtain rfl : j = 0 := by simp [enc] at hj; omega
    rw [List.take_zero, List.append_nil, rdF, str_size, if_pos (Nat.le_refl _)]
  | succ f ih =>
    cases j with
    | zero => rw [List.take_zero, List.append_nil, rdF, str_size, if_pos (Nat.le_refl _)]
    | succ j =>
      by_cases hs : U < 128
      · rw [enc_small _ U hs] at hj
        simp at hj
      · rw [enc_more f U (by omega)] at hj ⊢
        rw [List.take_succ_cons]
        have hb : byteAt (str (pre ++ (UInt8.ofNat (U % 128 + 128) :: (enc f (U / 128)).take j))) pre.length = U % 128 + 128 := by
          rw [head_at, b_more]
        have hz : pre.length < (str (pre ++ (UInt8.ofNat (U % 128 + 128) :: (enc f (U / 128)).take j))).size := by
          rw [str_size]
          simp
        rw [rdF, hb, if_neg (by omega), if_neg (by omega), if_neg (by omega)]
        have e := ih (pre ++ [UInt8.ofNat (U % 128 + 128)]) (k + 1) (U / 128) (A + (U % 128 + 128) % 128 * 2 ^ (7 * k)) (by omega) j (by simpa using hj)
        simp only [List.append_assoc, List.singleton_append, List.length_append, List.length_singleton] at e
        exact e

/-! ### A number got back -/
theorem rdN_enc (pre post : List UInt8) (u : Nat) (hu : u < 18446744073709551616) : rdN (str (pre ++ (encode u ++ post))) pre.length = (u, pre.length + (encode u).length, 0) := by
  have e := rdF_enc pre post 9 0 u 0 rfl (by simpa using hu) (by omega)
  unfold rdN encode
  rw [e]
  simp
theorem rdN_cut (u j : Nat) (hj : j < (encode u).length) : rdN (str ((encode u).take j)) 0 = (0, 0, 4) :=
  rdF_cut [] 9 0 u 0 rfl j hj
theorem getR_enc (pre post : List UInt8) (n : Int) (h1 : -9223372036854775808 ≤ n) (h2 : n ≤ 9223372036854775807) (hs : (str (pre ++ (encode (foldN n) ++ post))).size ≤ 8000) :
    getR (str (pre ++ (encode (foldN n) ++ post))) (pre.length : Nat) = (n, ((pre.length + (encode (foldN n)).length : Nat) : Int), 0) := by
  unfold getR
  rw [if_pos (placeC_in hs), Int.toNat_natCast, rdN_enc pre post _ (foldN_lt h1 h2), if_pos rfl, unfold_fold]
theorem getR_cut (u j : Nat) (hj : j < (encode u).length) : getR (str ((encode u).take j)) 0 = (0, 0, 4) := by
  have hl := (encode_len u).2
  have hp : placeC (str ((encode u).take j)) 0 = 0 := placeC_in (a := 0) (by rw [str_size, List.length_take]; omega)
  unfold getR
  rw [if_pos hp]
  simp only [Int.toNat_zero]
  rw [rdN_cut u j hj]
  rfl

/-! ### A text got back -/
theorem extract_str (l : List UInt8) (a b : Nat) : (str l).extract a b = str ((l.drop a).take (b - a)) := by
  apply ByteArray.ext
  simp [str, ByteArray.data_extract]
theorem join_str (l m : List UInt8) : str l ++ str m = str (l ++ m) := by
  apply ByteArray.ext
  simp [str, ByteArray.data_append]
theorem getT_enc (pre t : List UInt8) (hs : pre.length + ((encode (foldN t.length)).length + t.length) ≤ 8000) :
    getT (str (pre ++ (encode (foldN t.length) ++ t))) (getR (str (pre ++ (encode (foldN t.length) ++ t))) (pre.length : Nat)) = (str t, ((pre.length + (encode (foldN t.length)).length + t.length : Nat) : Int), 0) := by
  have hz : (str (pre ++ (encode (foldN t.length) ++ t))).size = pre.length + ((encode (foldN t.length)).length + t.length) := by
    rw [str_size]
    simp
  rw [getR_enc pre t t.length (by omega) (by omega) (by rw [hz]; exact hs)]
  unfold getT
  simp only [if_true]
  rw [if_neg (by omega), hz, if_neg (by omega), extract_str]
  have e1 : (((pre.length + (encode (foldN t.length)).length : Nat) : Int)).toNat = (pre ++ encode (foldN t.length)).length := by simp; omega
  have e2 : (((pre.length + (encode (foldN t.length)).length : Nat) : Int) + (t.length : Int)).toNat - (((pre.length + (encode (foldN t.length)).length : Nat) : Int)).toNat = t.length := by omega
  rw [e2, e1, ← List.append_assoc, List.drop_left, List.take_length]
  congr 2
theorem getT_cut (t : List UInt8) (hs : (encode (foldN t.length)).length + t.length ≤ 8000) :
    (getT (str ((encode (foldN t.length) ++ t).take ((encode (foldN t.length)).length + t.length - 1))) (getR (str ((encode (foldN t.length) ++ t).take ((encode (foldN t.length)).length + t.length - 1))) 0)).2.2 = 4 := by
  have hl := (encode_len (foldN t.length)).1
  by_cases h0 : t.length = 0
  · obtain rfl : t = [] := List.eq_nil_of_length_eq_zero h0
    rw [List.append_nil, getR_cut _ _ (by rw [List.length_nil] at hl ⊢; omega)]
    rfl
  · have e : (encode (foldN t.length) ++ t).take ((encode (foldN t.length)).length + t.length - 1) = [] ++ (encode (foldN t.length) ++ t.take (t.length - 1)) := by
      rw [List.nil_append, List.take_append, List.take_of_length_le (by omega)]
      congr 2
      omega
    have hz : (str ([] ++ (encode (foldN t.length) ++ t.take (t.length - 1)))).size = (encode (foldN t.length)).length + (t.length - 1) := by
      rw [str_size]
      simp
    have hg := getR_enc [] (t.take (t.length - 1)) t.length (by omega) (by omega) (by rw [hz]; omega)
    rw [e]
    simp only [List.length_nil] at hg
    rw [show (0 : Int) = ((0 : Nat) : Int) from rfl, hg]
    unfold getT
    simp only [if_true]
    rw [if_neg (by omega), hz, if_pos (by omega)]
end Go.Proofs.YtpdklkofflfjgaaDoor
