/-
  Unseal at every text, the model's and the program's; the walk of the law over both.
-/
import Derived.Test.YtpdklkofflfjgaaUnseal
namespace Go.Proofs.Ytpdklkofflfjgaa
open Go.RowKit

def headOf (t : ByteArray) : ByteArray := t.extract 0 (t.size - 4)
def tailOf (t : ByteArray) : ByteArray := t.extract (t.size - 4) t.size
def sumOk (t : ByteArray) : Bool := (four (crcN 0 (headOf t))).toList == (tailOf t).toList
def unS (t : ByteArray) : ByteArray := if 8000 < t.size then ByteArray.empty else if t.size < 4 then ByteArray.empty else if sumOk t then headOf t else ByteArray.empty
def unC (t : ByteArray) : Int := if 8000 < t.size then 2 else if t.size < 4 then 4 else if sumOk t then 0 else 5
theorem headOf_size (t : ByteArray) (h : t.size ≤ 8000) : (headOf t).size ≤ 8000 := by
  simp [headOf]
  omega

set_option maxHeartbeats 1000000 in
theorem specUnseal_any (t : ByteArray) (ht : t.size ≤ maxLen) (w : World) :
    Calls Try.prog 27 #[.string t] w fun e w' => e = .returned (outV (unS t) (unC t)) ∧ Below w.heap.size w w' := by
  unfold maxLen at ht
  by_cases h1 : 8000 < t.size
  · rw [show unS t = ByteArray.empty by simp [unS, h1], show unC t = 2 by simp [unC, h1]]
    go_enter Try.func27, Try.ntmps27
    go_wp2
    exact bodyPost_ret (v := outV ByteArray.empty 2) (by simp [results, Try.results27, go_sem, outV]; rfl) rfl ⟨rfl, (Below.refl _ _).alloc (Nat.le_refl _) _⟩
  by_cases h2 : t.size < 4
  · rw [show unS t = ByteArray.empty by simp [unS, h2], show unC t = 4 by simp [unC, h1, h2]]
    go_enter Try.func27, Try.ntmps27
    go_wp2
    exact bodyPost_ret (v := outV ByteArray.empty 4) (by simp [results, Try.results27, go_sem, outV]; rfl) rfl ⟨rfl, (Below.refl _ _).alloc (Nat.le_refl _) _⟩
  have hc := crcN_lt (show 0 < 4294967296 by omega) (headOf t)
  have h := specUnseal_core t (headOf t) (tailOf t) (four (crcN 0 (headOf t))) (crcN 0 (headOf t)) (sumOk t) (by omega) (by omega) rfl rfl rfl (specCrc_w (headOf t) (headOf_size t (by omega))) (specFour_any _ hc) w
  rw [show unS t = (if sumOk t then headOf t else ByteArray.empty) by simp [unS, h1, h2], show unC t = (if sumOk t then 0 else 5) by simp [unC, h1, h2]]
  exact h

set_option maxHeartbeats 1000000 in
theorem implUnseal_any (t : ByteArray) (ht : t.size ≤ maxLen) (w : World) :
    Calls Try.prog 15 #[.string t] w fun e w' => e = .returned (outV (unS t) (unC t)) ∧ Below w.heap.size w w' := by
  have HT : Hid (∀ w1, Calls Try.prog 37 #[.string t] w1 fun e w' => e = .returned (.bool (decide (8000 < t.size))) ∧ w1 = w') := tooLong_w t ht
  unfold maxLen at ht
  by_cases h1 : 8000 < t.size
  · rw [show unS t = ByteArray.empty by simp [unS, h1], show unC t = 2 by simp [unC, h1]]
    have d1 : decide (8000 < t.size) = true := by simpa using h1
    go_enter Try.func15, Try.ntmps15
    go_wp2_with (go_at_call 37; refine (HT.out _).mono ?_; rintro e w' ⟨rfl, rfl⟩)
    exact bodyPost_ret (v := outV ByteArray.empty 2) (by simp [results, Try.results15, go_sem, outV]; rfl) rfl ⟨rfl, (Below.refl _ _).alloc (Nat.le_refl _) _⟩
  have d1 : decide (8000 < t.size) = false := by simpa using h1
  by_cases h2 : t.size < 4
  · rw [show unS t = ByteArray.empty by simp [unS, h2], show unC t = 4 by simp [unC, h1, h2]]
    go_enter Try.func15, Try.ntmps15
    go_wp2_with (go_at_call 37; refine (HT.out _).mono ?_; rintro e w' ⟨rfl, rfl⟩)
    exact bodyPost_ret (v := outV ByteArray.empty 4) (by simp [results, Try.results15, go_sem, outV]; rfl) rfl ⟨rfl, (Below.refl _ _).alloc (Nat.le_refl _) _⟩
  have hsz := headOf_size t (by omega)
  have h := implUnseal_core t (headOf t) (tailOf t) (four (crcN 0 (headOf t))) (sumOk t) (by omega) (by omega) rfl rfl (by rw [Bool.beq_comm]; rfl) (implCrcText_any (headOf t) hsz) (clone_any (headOf t) (by omega)) w
  rw [show unS t = (if sumOk t then headOf t else ByteArray.empty) by simp [unS, h1, h2], show unC t = (if sumOk t then 0 else 5) by simp [unC, h1, h2]]
  exact h

set_option maxHeartbeats 1000000 in
theorem eqText_same (s : ByteArray) (c : Int) (w : World) :
    Calls Try.prog 28 #[outV s c, outV s c] w fun e w' => e = .returned (.bool true) ∧ Below w.heap.size w w' := by
  unfold outV
  go_enter Try.func28, Try.ntmps28
  go_wp2
  go_ret
  exact ⟨rfl, ((Below.refl _ _).alloc (Nat.le_refl _) _).alloc (by simp) _⟩

set_option maxHeartbeats 1000000 in
theorem walkUnseal (a0 : ByteArray) (w0 : a0.size ≤ maxLen) (w : World) :
    Calls Try.prog 10 #[.string a0] w fun e w' => e = .returned (.bool true) ∧ Below w.heap.size w w' := by
  have hs := w0
  unfold maxLen at hs
  by_cases h1 : 1048576 < a0.size
  · go_enter Try.func10, Try.ntmps10
    go_wp2
    go_ret
    exact ⟨rfl, Below.refl _ _⟩
  · have HX : Hid (∀ w1, Calls Try.prog 27 #[.string a0] w1 fun e w' => e = .returned (outV (unS a0) (unC a0)) ∧ Below w1.heap.size w1 w') := specUnseal_any a0 w0
    have HY : Hid (∀ w1, Calls Try.prog 15 #[.string a0] w1 fun e w' => e = .returned (outV (unS a0) (unC a0)) ∧ Below w1.heap.size w1 w') := implUnseal_any a0 w0
    have HE : Hid (∀ w1, Calls Try.prog 28 #[outV (unS a0) (unC a0), outV (unS a0) (unC a0)] w1 fun e w' => e = .returned (.bool true) ∧ Below w1.heap.size w1 w') := eqText_same _ _
    generalize unS a0 = s at HX HY HE
    generalize unC a0 = c at HX HY HE
    unfold outV at HX HY HE
    go_enter Try.func10, Try.ntmps10
    go_wp2_with fail
    refine (HX.out _).mono ?_
    rintro e w1 ⟨rfl, hb1⟩
    go_wp2_with fail
    refine (HY.out _).mono ?_
    rintro e w2 ⟨rfl, hb2⟩
    obtain ⟨hc2, hf2⟩ := bcell hb2
    have hz : w1.heap.size < w2.heap.size := by have := hb2.size; simp at this; omega
    go_wp2_with fail
    refine (HE.out _).mono ?_
    rintro e w3 ⟨rfl, hb3⟩
    have hw1 := hb1.size
    have HB : Hid (Below w.heap.size w w3) := ((hb1.alloc hw1 _).trans (hb2.mono (by simp; omega))).alloc (by omega) _ |>.trans (hb3.mono (by simp; omega))
    clear hb1 hb2 hb3 hc2 hf2
    go_wp2
    go_ret
    exact ⟨rfl, HB.out⟩
end Go.Proofs.Ytpdklkofflfjgaa
