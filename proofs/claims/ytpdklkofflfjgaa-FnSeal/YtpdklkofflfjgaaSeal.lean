/-
  Seal, the model's and the program's, by their contracts; the walk of the law over both.
-/
import Derived.Test.YtpdklkofflfjgaaText
import Derived.Test.YtpdklkofflfjgaaCrcLaw
namespace Go.Proofs.Ytpdklkofflfjgaa
open Go.RowKit

def fourTo (c : Nat) (k : Nat) : List UInt8 := (List.range k).map fun i => UInt8.ofNat (c / 256 ^ i % 256)
theorem fourTo_succ (c k : Nat) : fourTo c (k + 1) = fourTo c k ++ [UInt8.ofNat (c / 256 ^ k % 256)] := by simp [fourTo, List.range_succ]
theorem fourTo_length (c k : Nat) : (fourTo c k).length = k := by simp [fourTo]
def four (c : Nat) : ByteArray := str (fourTo c 4)
theorem four_size (c : Nat) : (four c).size = 4 := by rw [four, str_size, fourTo_length]
theorem fourTo_four (c : Nat) : fourTo c 4 = [UInt8.ofNat (c % 256), UInt8.ofNat (c / 256 % 256), UInt8.ofNat (c / 65536 % 256), UInt8.ofNat (c / 16777216 % 256)] := by
  simp [fourTo, List.range_succ]
theorem bV_ofNat (x : Nat) (h : x < 256) : bV (UInt8.ofNat x) = .int .u8 (x : Int) := by
  unfold bV
  rw [UInt8.toNat_ofNat']
  congr 1
  omega
def sealB (t : ByteArray) : ByteArray := if t.size ≤ 7996 then t ++ four (crcN 0 t) else ByteArray.empty
theorem sealB_in (t : ByteArray) (h : t.size ≤ 7996) : sealB t = t ++ four (crcN 0 t) := by unfold sealB; rw [if_pos h]
theorem sealB_out (t : ByteArray) (h : ¬ t.size ≤ 7996) : sealB t = ByteArray.empty := by unfold sealB; rw [if_neg h]

/-! ### The model's -/
theorem four_conv (c : Nat) (hc : c < 4294967296) (B : Nat) (w : World) (hb : w.heap[B]? = some (.cells #[.int .u8 ((c : Int) % 256), .int .u8 ((c : Int) / 256 % 256), .int .u8 ((c : Int) / 65536 % 256), .int .u8 ((c : Int) / 16777216)] 5 (0, 0))) :
    (convert 22 9 (.slice (some ⟨B, 0, none⟩) 4 4)).run Try.prog w = .ok (.string (four c)) w := by
  refine Row.string (n := 4) (T := 5) ⟨_, hb, rfl, ?_⟩ 4 (fourTo_length c 4)
  rw [fourTo_length, fourTo_four]
  simp only [List.map_cons, List.map_nil]
  rw [bV_ofNat _ (Nat.mod_lt _ (by omega)), bV_ofNat _ (Nat.mod_lt _ (by omega)), bV_ofNat _ (Nat.mod_lt _ (by omega)), bV_ofNat _ (Nat.mod_lt _ (by omega))]
  rw [show c / 16777216 % 256 = c / 16777216 by omega]
  rfl
set_option maxHeartbeats 1000000 in
theorem specFour_any (c : Nat) (hc : c < 4294967296) (w : World) :
    Calls Try.prog 35 #[.int .i64 c] w fun e w' => e = .returned (.string (four c)) ∧ Below w.heap.size w w' := by
  have hconv := four_conv c hc w.heap.size _ (heap_alloc_new w _)
  go_enter Try.func35, Try.ntmps35
  go_wp2
  go_ret
  exact ⟨rfl, (Below.refl _ _).alloc (Nat.le_refl _) _⟩
theorem specCrc_w (s : ByteArray) (hs : s.size ≤ 8000) (w : World) :
    Calls Try.prog 36 #[.int .i64 0, .string s] w fun e w' => e = .returned (.int .i64 (crcN 0 s : Nat)) ∧ w = w' :=
  (specCrc_in 0 s (by omega) hs w).mono fun _ _ h => ⟨h.1, h.2.symm⟩
set_option maxHeartbeats 1000000 in
theorem specSeal_any (t : ByteArray) (ht : t.size ≤ maxLen) (w : World) :
    Calls Try.prog 13 #[.string t] w fun e w' => e = .returned (.string (sealB t)) ∧ Below w.heap.size w w' := by
  unfold maxLen at ht
  by_cases h : t.size ≤ 7996
  · rw [sealB_in t h]
    have hc := crcN_lt (show 0 < 4294967296 by omega) t
    have HX : Hid (∀ w1, Calls Try.prog 36 #[.int .i64 0, .string t] w1 fun e w' => e = .returned (.int .i64 (crcN 0 t : Nat)) ∧ w1 = w') := specCrc_w t (by omega)
    generalize crcN 0 t = c at hc HX
    have hz := four_size c
    have HY : Hid (∀ w1, Calls Try.prog 35 #[.int .i64 c] w1 fun e w' => e = .returned (.string (four c)) ∧ Below w1.heap.size w1 w') := specFour_any c hc
    generalize four c = s at hz HY
    have hsum : t.size + s.size ≤ 9223372036854775807 := by omega
    clear hz
    go_enter Try.func13, Try.ntmps13
    go_wp2_with (go_at_call 36; refine (HX.out _).mono ?_; rintro e w' ⟨rfl, rfl⟩)
    refine (HY.out _).mono ?_
    rintro e w1 ⟨rfl, hb1⟩
    have HB : Hid (Below w.heap.size w w1) := hb1
    clear hb1
    go_wp2
    go_ret
    exact ⟨rfl, HB.out⟩
  · rw [sealB_out t h]
    go_enter Try.func13, Try.ntmps13
    go_wp2
    go_ret
    exact ⟨rfl, Below.refl _ _⟩

/-! ### The program's -/
theorem Try.len53 : Try.prog.arrayLen 53 = 4 := by kernel_rfl
theorem Try.elem53 : Try.prog.elem 53 = 5 := by kernel_rfl
theorem slice53 (B : Nat) (w : World) : (Instr.sliceAt 53 (.pointer (some ⟨B, 0, none⟩)) none none none).run Try.prog w = .ok (.slice (some ⟨B, 0, none⟩) 4 4) w := by
  rw [run_sliceAt_array_all w 53 ⟨B, 0, none⟩ (by rw [Try.len53, Try.elem53]; exact Try.underlying53), Try.elem53, Try.size5, Try.len53]
  simp [slicedAt, Result.andThen, Addr.add]
theorem implCrc_w (s : ByteArray) (hs : s.size ≤ 8000) (w : World) :
    Calls Try.prog 19 #[.string s] w fun e w' => e = .returned (.int .i64 (crcN 0 s : Nat)) ∧ w = w' :=
  (implCrc_any s (by unfold maxLen; omega) w).mono fun _ _ h => ⟨by rw [h.1]; exact ret_int (moreN_in 0 s hs (by omega)), h.2.symm⟩
theorem div_step (c k : Nat) : c / 256 ^ k / 256 = c / 256 ^ (k + 1) := by rw [Nat.div_div_eq_div_mul, Nat.pow_succ]
set_option maxHeartbeats 1000000 in
set_option maxRecDepth 100000 in
theorem implCrcText_any (t : ByteArray) (ht : t.size ≤ 8000) (w : World) :
    Calls Try.prog 34 #[.string t] w fun e w' => e = .returned (.string (four (crcN 0 t))) ∧ Below w.heap.size w w' := by
  have hc := crcN_lt (show 0 < 4294967296 by omega) t
  have HX : Hid (∀ w1, Calls Try.prog 19 #[.string t] w1 fun e w' => e = .returned (.int .i64 (crcN 0 t : Nat)) ∧ w1 = w') := implCrc_w t ht
  generalize crcN 0 t = c at hc HX
  go_enter Try.func34, Try.ntmps34
  go_wp2_with (go_at_call 19; refine (HX.out _).mono ?_; rintro e w' ⟨rfl, rfl⟩)
  go_loopw [4, 8] (fun v i wr => ∃ k : Nat, k ≤ 4 ∧ i = .int .i64 k ∧ v = .int .i64 (c / 256 ^ k : Nat) ∧ Row wr w.heap.size 4 53 (fourTo c k) ∧ Below w.heap.size w wr) (fun _ i _ => 4 - (intOf i).toNat)
  case atStart => exact ⟨0, by omega, rfl, by simp, ⟨_, heap_alloc_new w _, rfl, rfl⟩, (Below.refl _ _).alloc (Nat.le_refl _) _⟩
  case round =>
    obtain ⟨k, hk, rfl, rfl, hrow, hbel⟩ := hrel
    have hC : c / 256 ^ k < 4294967296 := Nat.lt_of_le_of_lt (Nat.div_le_self _ _) hc
    by_cases hlt : k < 4
    · have HD : Hid (c / 256 ^ k / 256 = c / 256 ^ (k + 1)) := div_step c k
      have HF : Hid (fourTo c (k + 1) = fourTo c k ++ [UInt8.ofNat (c / 256 ^ k % 256)]) := fourTo_succ c k
      have HR := hrow.step (bV_ofNat (c / 256 ^ k % 256) (Nat.mod_lt _ (by omega))) (by rw [fourTo_length]; exact hlt)
      rw [fourTo_length, ← HF.out] at HR
      obtain ⟨c0, hc0⟩ := hrow.cell k hlt
      have hf0 := hrow.free k
      generalize c / 256 ^ k = C at hC HD HR
      clear hrow
      go_wp2
      go_roundw
      case rel => exact ⟨k + 1, by omega, by go_num, val_int (by rw [← HD.out]; rfl), HR, hbel.setCell (Nat.le_refl _) _⟩
      case measure => simp [intOf]; omega
    · obtain rfl : k = 4 := by omega
      have hconv := hrow.string (cap := 4) 4 (fourTo_length c 4)
      have hsl := fun W => slice53 w.heap.size W
      have HB : Hid (Below w.heap.size w wr) := hbel
      clear hrow hbel
      go_wp2
      go_ret
      exact ⟨rfl, HB.out⟩
set_option maxHeartbeats 1000000 in
theorem implSeal_any (t : ByteArray) (ht : t.size ≤ maxLen) (w : World) :
    Calls Try.prog 12 #[.string t] w fun e w' => e = .returned (.string (sealB t)) ∧ Below w.heap.size w w' := by
  unfold maxLen at ht
  by_cases h : t.size ≤ 7996
  · rw [sealB_in t h]
    have hz := four_size (crcN 0 t)
    have HX : Hid (∀ w1, Calls Try.prog 34 #[.string t] w1 fun e w' => e = .returned (.string (four (crcN 0 t))) ∧ Below w1.heap.size w1 w') := implCrcText_any t (by omega)
    generalize four (crcN 0 t) = s at hz HX
    go_enter Try.func12, Try.ntmps12
    go_wp2_with fail
    refine (HX.out _).mono ?_
    rintro e w1 ⟨rfl, hb1⟩
    have HB : Hid (Below w.heap.size w w1) := hb1
    clear hb1
    go_wp2_with fail
    refine (join_any t s (by omega) (by omega) _).mono ?_
    rintro e w2 ⟨rfl, hb2⟩
    have HB2 : Hid (Below w.heap.size w w2) := HB.out.trans (hb2.mono HB.out.size)
    clear hb2 hz
    go_wp2
    go_ret
    exact ⟨rfl, HB2.out⟩
  · rw [sealB_out t h]
    go_enter Try.func12, Try.ntmps12
    go_wp2
    go_ret
    exact ⟨rfl, Below.refl _ _⟩

set_option maxHeartbeats 1000000 in
theorem walkSeal (a0 : ByteArray) (w0 : a0.size ≤ maxLen) (w : World) :
    Calls Try.prog 9 #[.string a0] w fun e w' => e = .returned (.bool true) ∧ Below w.heap.size w w' := by
  have hs := w0
  unfold maxLen at hs
  by_cases h1 : 1048576 < a0.size
  · go_enter Try.func9, Try.ntmps9
    go_wp2
    go_ret
    exact ⟨rfl, Below.refl _ _⟩
  · go_enter Try.func9, Try.ntmps9
    go_wp2_with fail
    refine (specSeal_any a0 w0 _).mono ?_
    rintro e w1 ⟨rfl, hb1⟩
    have HB1 : Hid (Below w.heap.size w w1) := hb1
    clear hb1
    go_wp2_with fail
    refine (implSeal_any a0 w0 _).mono ?_
    rintro e w2 ⟨rfl, hb2⟩
    have HB2 : Hid (Below w.heap.size w w2) := HB1.out.trans (hb2.mono HB1.out.size)
    clear hb2
    generalize sealB a0 = s
    go_wp2
    go_ret
    exact ⟨rfl, HB2.out⟩
end Go.Proofs.Ytpdklkofflfjgaa
