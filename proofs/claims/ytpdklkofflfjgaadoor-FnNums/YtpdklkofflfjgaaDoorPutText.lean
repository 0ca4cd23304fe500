/-
  PutText by its contract, the model's and the program's.
-/
import Derived.Test.YtpdklkofflfjgaaDoorJoin
namespace Go.Proofs.YtpdklkofflfjgaaDoor
open Go.RowKit

def putTextB (t : ByteArray) : ByteArray := if t.size ≤ 8000 then str (encode (foldN t.size)) ++ t else ByteArray.empty
theorem putTextB_in (t : ByteArray) (h : t.size ≤ 8000) : putTextB t = str (encode (foldN t.size)) ++ t := by unfold putTextB; rw [if_pos h]
theorem putTextB_out (t : ByteArray) (h : ¬ t.size ≤ 8000) : putTextB t = ByteArray.empty := by unfold putTextB; rw [if_neg h]
theorem encode_size (u : Nat) : (str (encode u)).size ≤ 10 := by rw [str_size]; exact (encode_len u).2

set_option maxHeartbeats 1000000 in
theorem specPutText_any (t : ByteArray) (ht : t.size ≤ maxLen) (w : World) :
    Calls Tryd.prog 12 #[.string t] w fun e w' => e = .returned (.string (putTextB t)) ∧ Below w.heap.size w w' := by
  unfold maxLen at ht
  by_cases h : t.size ≤ 8000
  · rw [putTextB_in t h]
    have hz := encode_size (foldN t.size)
    have HX : Hid (∀ w1, Calls Tryd.prog 8 #[.int .i64 t.size] w1 fun e w' => e = .returned (.string (str (encode (foldN t.size)))) ∧ Below w1.heap.size w1 w') := specPutNum_any t.size (by omega) (by omega)
    generalize str (encode (foldN t.size)) = s at hz HX
    go_enter Tryd.func12, Tryd.ntmps12
    go_wp2_with fail
    refine (HX.out _).mono ?_
    rintro e w1 ⟨rfl, hb1⟩
    have HB : Hid (Below w.heap.size w w1) := hb1
    clear hb1
    have hsum : s.size + t.size ≤ 9223372036854775807 := by omega
    go_wp2
    go_ret
    exact ⟨rfl, HB.out⟩
  · rw [putTextB_out t h]
    go_enter Tryd.func12, Tryd.ntmps12
    go_wp2
    go_ret
    exact ⟨rfl, Below.refl _ _⟩

set_option maxHeartbeats 1000000 in
theorem implPutText_any (t : ByteArray) (ht : t.size ≤ maxLen) (w : World) :
    Calls Tryd.prog 11 #[.string t] w fun e w' => e = .returned (.string (putTextB t)) ∧ Below w.heap.size w w' := by
  by_cases h : t.size ≤ 8000
  · rw [putTextB_in t h]
    have d1 : decide (8000 < t.size) = false := by simp; omega
    have hz := encode_size (foldN t.size)
    have HX : Hid (∀ w1, Calls Tryd.prog 7 #[.int .i64 t.size] w1 fun e w' => e = .returned (.string (str (encode (foldN t.size)))) ∧ Below w1.heap.size w1 w') := implPutNum_any t.size (by omega) (by omega)
    generalize str (encode (foldN t.size)) = s at hz HX
    go_enter Tryd.func11, Tryd.ntmps11
    go_wp2_with (go_at_call 27; refine (tooLong_w t ht _).mono ?_; rintro e w' ⟨rfl, rfl⟩)
    refine (HX.out _).mono ?_
    rintro e w1 ⟨rfl, hb1⟩
    have HB : Hid (Below w.heap.size w w1) := hb1
    clear hb1
    go_wp2_with fail
    refine (join_any s t (by omega) (by omega) _).mono ?_
    rintro e w2 ⟨rfl, hb2⟩
    have HB2 : Hid (Below w.heap.size w w2) := HB.out.trans (hb2.mono HB.out.size)
    clear hb2
    go_wp2
    go_ret
    exact ⟨rfl, HB2.out⟩
  · rw [putTextB_out t h]
    have d1 : decide (8000 < t.size) = true := by simp; omega
    go_enter Tryd.func11, Tryd.ntmps11
    go_wp2_with (go_at_call 27; refine (tooLong_w t ht _).mono ?_; rintro e w' ⟨rfl, rfl⟩)
    go_ret
    exact ⟨rfl, Below.refl _ _⟩

end Go.Proofs.YtpdklkofflfjgaaDoor