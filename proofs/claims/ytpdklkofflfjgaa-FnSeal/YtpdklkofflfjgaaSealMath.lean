/-
  Plain facts on the CRC: it goes on from text to text; with one byte turned it is another; a sealed text with one byte turned is refused.
-/
import Derived.Test.YtpdklkofflfjgaaUnsealLaw
namespace Go.Proofs.Ytpdklkofflfjgaa

/-! ### The CRC over a list -/
def regL (r : Nat) (l : List UInt8) : Nat := l.foldl (fun r b => byteStep r b.toNat) r
theorem regTo_list (r : Nat) (s : ByteArray) (k : Nat) (hk : k ≤ s.size) : regTo r s k = regL r (s.data.toList.take k) := by
  induction k with
  | zero => rfl
  | succ k ih =>
    have hl : k < s.data.toList.length := by show k < s.size; omega
    rw [regTo, ih (by omega), List.take_succ_eq_append_getElem hl]
    unfold regL
    rw [List.foldl_append]
    simp only [List.foldl_cons, List.foldl_nil]
    congr 1
    unfold byteAt
    rw [List.getD_eq_getElem?_getD, List.getElem?_eq_getElem hl, Option.getD_some]
theorem crcN_list (c : Nat) (s : ByteArray) : crcN c s = regL (c ^^^ 4294967295) s.data.toList ^^^ 4294967295 := by
  unfold crcN
  rw [regTo_list _ s s.size (Nat.le_refl _), List.take_of_length_le (by simp)]
theorem xor_twice (x y : Nat) : x ^^^ y ^^^ y = x := by rw [Nat.xor_assoc, Nat.xor_self, Nat.xor_zero]
theorem crc_more (t u : ByteArray) : crcN (crcN 0 t) u = crcN 0 (t ++ u) := by
  rw [crcN_list, crcN_list 0 t, crcN_list 0 (t ++ u), xor_twice]
  unfold regL
  rw [ByteArray.data_append, Array.toList_append, List.foldl_append]

/-! ### One byte turned -/
theorem xor_left {x y z : Nat} (h : x ^^^ z = y ^^^ z) : x = y := by
  have := congrArg (· ^^^ z) h
  simpa [xor_twice] using this
theorem bit31 {r : Nat} (h : r < 4294967296) : (bitStep r).testBit 31 = decide (r % 2 = 1) := by
  have h2 : (r / 2).testBit 31 = false := Nat.testBit_lt_two_pow (by omega)
  unfold bitStep
  by_cases ho : r % 2 = 1
  · rw [if_pos ho, Nat.testBit_xor, h2]
    simp [ho]
    decide
  · rw [if_neg ho, h2]
    simp [ho]
theorem bitStep_inj {x y : Nat} (hx : x < 4294967296) (hy : y < 4294967296) (h : bitStep x = bitStep y) : x = y := by
  have h1 := bit31 hx
  have h2 := bit31 hy
  rw [h, h2] at h1
  have hp : (y % 2 = 1) ↔ (x % 2 = 1) := by simpa using h1
  unfold bitStep at h
  by_cases ho : x % 2 = 1
  · rw [if_pos ho, if_pos (hp.2 ho)] at h
    have := xor_left h
    have := hp.2 ho
    omega
  · rw [if_neg ho, if_neg (fun e => ho (hp.1 e))] at h
    have : ¬ y % 2 = 1 := fun e => ho (hp.1 e)
    omega
theorem bitsTo_inj {x y : Nat} (hx : x < 4294967296) (hy : y < 4294967296) (k : Nat) (h : bitsTo x k = bitsTo y k) : x = y := by
  induction k with
  | zero => exact h
  | succ k ih => exact ih (bitStep_inj (bitsTo_lt hx k) (bitsTo_lt hy k) h)
theorem byteStep_left {x y b : Nat} (hx : x < 4294967296) (hy : y < 4294967296) (hb : b < 256) (h : byteStep x b = byteStep y b) : x = y :=
  xor_left (bitsTo_inj (xor_lt32 hx (by omega)) (xor_lt32 hy (by omega)) 8 h)
theorem byteStep_right {r b c : Nat} (hr : r < 4294967296) (hb : b < 256) (hc : c < 256) (h : byteStep r b = byteStep r c) : b = c := by
  have := bitsTo_inj (xor_lt32 hr (by omega)) (xor_lt32 hr (by omega)) 8 h
  rw [Nat.xor_comm r b, Nat.xor_comm r c] at this
  exact xor_left this
theorem regL_lt {r : Nat} (h : r < 4294967296) (l : List UInt8) : regL r l < 4294967296 := by
  induction l generalizing r with
  | nil => exact h
  | cons b l ih => exact ih (byteStep_lt h (UInt8.toNat_lt b))
theorem regL_inj {x y : Nat} (hx : x < 4294967296) (hy : y < 4294967296) (l : List UInt8) (h : regL x l = regL y l) : x = y := by
  induction l generalizing x y with
  | nil => exact h
  | cons b l ih => exact byteStep_left hx hy (UInt8.toNat_lt b) (ih (byteStep_lt hx (UInt8.toNat_lt b)) (byteStep_lt hy (UInt8.toNat_lt b)) h)
theorem regL_set {r : Nat} (hr : r < 4294967296) (l : List UInt8) (i : Nat) (y : UInt8) (hi : i < l.length) (hy : y ≠ l[i]) : regL r (l.set i y) ≠ regL r l := by
  induction l generalizing r i with
  | nil => simp at hi
  | cons b l ih =>
    cases i with
    | zero =>
      intro h
      have h' : regL (byteStep r y.toNat) l = regL (byteStep r b.toNat) l := h
      have := byteStep_right hr (UInt8.toNat_lt y) (UInt8.toNat_lt b) (regL_inj (byteStep_lt hr (UInt8.toNat_lt y)) (byteStep_lt hr (UInt8.toNat_lt b)) l h')
      exact hy (UInt8.toNat_inj.1 this)
    | succ i => exact ih (byteStep_lt hr (UInt8.toNat_lt b)) i (by simpa using hi) (by simpa using hy)
theorem crc_set (l : List UInt8) (i : Nat) (y : UInt8) (hi : i < l.length) (hy : y ≠ l[i]) : crcN 0 (str (l.set i y)) ≠ crcN 0 (str l) := by
  rw [crcN_list, crcN_list]
  intro h
  exact regL_set (by decide) l i y hi hy (xor_left h)
theorem four_inj {c d : Nat} (hc : c < 4294967296) (hd : d < 4294967296) (h : fourTo c 4 = fourTo d 4) : c = d := by
  rw [fourTo_four, fourTo_four] at h
  simp only [List.cons.injEq, and_true] at h
  obtain ⟨h1, h2, h3, h4⟩ := h
  have e1 := congrArg UInt8.toNat h1
  have e2 := congrArg UInt8.toNat h2
  have e3 := congrArg UInt8.toNat h3
  have e4 := congrArg UInt8.toNat h4
  simp only [UInt8.toNat_ofNat'] at e1 e2 e3 e4
  omega

/-! ### A sealed text -/
theorem str_data (l : List UInt8) : (str l).data.toList = l := rfl
theorem beq_str (l m : List UInt8) : ((str l).toList == (str m).toList) = (l == m) := by
  rw [ByteArray.toList_eq, ByteArray.toList_eq, str_data, str_data]
theorem headOf_str (l : List UInt8) : headOf (str l) = str (l.take (l.length - 4)) := by
  apply ByteArray.ext
  unfold headOf
  rw [str_size]
  simp [str, ByteArray.data_extract]
theorem tailOf_str (l : List UInt8) : tailOf (str l) = str (l.drop (l.length - 4)) := by
  apply ByteArray.ext
  unfold tailOf
  rw [str_size]
  simp [str, ByteArray.data_extract]
  exact List.take_of_length_le (by simp)
theorem sumOk_str (l : List UInt8) : sumOk (str l) = (fourTo (crcN 0 (str (l.take (l.length - 4)))) 4 == l.drop (l.length - 4)) := by
  unfold sumOk four
  rw [headOf_str, tailOf_str, beq_str]
/-- What a sealed text's bytes are. -/
def sealL (l : List UInt8) : List UInt8 := l ++ fourTo (crcN 0 (str l)) 4
theorem sealL_length (l : List UInt8) : (sealL l).length = l.length + 4 := by simp [sealL, fourTo_length]
theorem sumOk_seal (l : List UInt8) : sumOk (str (sealL l)) = true := by
  rw [sumOk_str, sealL_length, Nat.add_sub_cancel]
  simp [sealL]
theorem sumOk_turned (l : List UInt8) (i : Nat) (y : UInt8) (hi : i < (sealL l).length) (hy : y ≠ (sealL l)[i]) : sumOk (str ((sealL l).set i y)) = false := by
  rw [sumOk_str, List.length_set, sealL_length, Nat.add_sub_cancel]
  have hc := crcN_lt (show 0 < 4294967296 by omega) (str l)
  by_cases h : i < l.length
  · have e : (sealL l).set i y = l.set i y ++ fourTo (crcN 0 (str l)) 4 := by
      unfold sealL
      rw [List.set_append_left _ _ h]
    have hy' : y ≠ l[i] := by
      intro e2
      apply hy
      rw [e2]
      simp [sealL, List.getElem_append_left h]
    rw [e]
    have t1 : (l.set i y ++ fourTo (crcN 0 (str l)) 4).take l.length = l.set i y := by
      rw [List.take_append_of_le_length (by simp), List.take_of_length_le (by simp)]
    have t2 : (l.set i y ++ fourTo (crcN 0 (str l)) 4).drop l.length = fourTo (crcN 0 (str l)) 4 := by
      have hl : l.length = (l.set i y).length := by simp
      rw [hl, List.drop_left]
    rw [t1, t2]
    rw [beq_eq_false_iff_ne]
    intro hf
    exact crc_set l i y h hy' (four_inj (crcN_lt (by omega) _) hc hf)
  · have hi' : i - l.length < (fourTo (crcN 0 (str l)) 4).length := by
      rw [fourTo_length]
      rw [sealL_length] at hi
      omega
    have e : (sealL l).set i y = l ++ (fourTo (crcN 0 (str l)) 4).set (i - l.length) y := by
      unfold sealL
      rw [List.set_append_right _ _ (by omega)]
    have hy' : y ≠ (fourTo (crcN 0 (str l)) 4)[i - l.length] := by
      intro e2
      apply hy
      rw [e2]
      simp only [sealL]
      rw [List.getElem_append_right (by omega)]
    rw [e, List.take_left, List.drop_left, beq_eq_false_iff_ne]
    intro hf
    have := congrArg (fun m => m[i - l.length]?) hf
    rw [List.getElem?_eq_getElem hi', List.getElem?_set_self hi'] at this
    exact hy' (Option.some.inj this).symm
theorem sealB_str (t : ByteArray) (h : t.size ≤ 7996) : sealB t = str (sealL t.data.toList) := by
  rw [sealB_in t h]
  unfold four sealL
  rw [str_self t]
  apply ByteArray.ext
  simp [str, ByteArray.data_append]
theorem unseal_seal (t : ByteArray) (h : t.size ≤ 7996) : unS (sealB t) = t ∧ unC (sealB t) = 0 := by
  rw [sealB_str t h]
  have hl : t.data.toList.length = t.size := rfl
  have hs : (str (sealL t.data.toList)).size = t.size + 4 := by rw [str_size, sealL_length, hl]
  have hok := sumOk_seal t.data.toList
  have hh : headOf (str (sealL t.data.toList)) = t := by
    rw [headOf_str, sealL_length, Nat.add_sub_cancel]
    unfold sealL
    rw [List.take_left, str_self]
  unfold unS unC
  rw [if_neg (by omega), if_neg (by omega), if_pos hok, if_neg (by omega), if_neg (by omega), if_pos hok]
  exact ⟨hh, rfl⟩
theorem unseal_turned (t : ByteArray) (h : t.size ≤ 7996) (i : Nat) (y : UInt8) (hi : i < (sealL t.data.toList).length) (hy : y ≠ (sealL t.data.toList)[i]) : unC (str ((sealL t.data.toList).set i y)) = 5 := by
  have hl : t.data.toList.length = t.size := rfl
  have hs : (str ((sealL t.data.toList).set i y)).size = t.size + 4 := by rw [str_size, List.length_set, sealL_length, hl]
  have hok := sumOk_turned t.data.toList i y hi hy
  unfold unC
  rw [if_neg (by omega), if_neg (by omega), if_neg (by rw [hok]; simp)]
/-- A byte put together with another than 0 is another. -/
theorem xor_turns (b : UInt8) (d : Nat) (h0 : 0 < d) (h1 : d < 256) : UInt8.ofNat (b.toNat ^^^ d) ≠ b := by
  intro e
  have := congrArg UInt8.toNat e
  rw [UInt8.toNat_ofNat'] at this
  have hb := UInt8.toNat_lt b
  have hx : b.toNat ^^^ d < 256 := Nat.xor_lt_two_pow (n := 8) hb h1
  rw [Nat.mod_eq_of_lt hx] at this
  have h2 : d ^^^ b.toNat = 0 ^^^ b.toNat := by rw [Nat.xor_comm d, this, Nat.zero_xor]
  have := xor_left h2
  omega
end Go.Proofs.Ytpdklkofflfjgaa
