/-
  Unseal, the model's and the program's, by their contracts; the walk of the law over both.
-/
import Derived.Test.YtpdklkofflfjgaaClone
import Derived.Deep.RegionWith
namespace Go.Proofs.Ytpdklkofflfjgaa
open Go.RowKit

theorem bcell {W w1 : World} (hb : Below W.heap.size W w1) : (∀ b o, b < W.heap.size → w1.cell? ⟨b, o, none⟩ = W.cell? ⟨b, o, none⟩) ∧ (∀ b o, b < W.heap.size → w1.frozen? ⟨b, o, none⟩ = W.frozen? ⟨b, o, none⟩) :=
  ⟨fun b o h => hb.cell (p := ⟨b, o, none⟩) h, fun b o h => hb.frozen (p := ⟨b, o, none⟩) h⟩

theorem slice_tail (t : ByteArray) (h1 : 4 ≤ t.size) (w : World) : (Instr.slice 9 (.string t) (some (.int .i64 ((t.size : Int) - 4))) none none).run Try.prog w = .ok (.string (t.extract (t.size - 4) t.size)) w := by
  rw [run_slice_string_l w 9 t Try.underlying9 .i64 _ (by omega) (by omega), show ((t.size : Int) - 4).toNat = t.size - 4 by omega]
theorem slice_head (t : ByteArray) (h1 : 4 ≤ t.size) (w : World) : (Instr.slice 9 (.string t) none (some (.int .i64 ((t.size : Int) - 4))) none).run Try.prog w = .ok (.string (t.extract 0 (t.size - 4))) w := by
  rw [run_slice_string_h w 9 t Try.underlying9 .i64 _ (by omega) (by omega), show ((t.size : Int) - 4).toNat = t.size - 4 by omega]
/-- What is told: a text and a code, At 0. -/
def outV (s : ByteArray) (c : Int) : Value := .agg #[.string s, .int .i64 0, .int .i64 c]
def zeroOut : Obj := .cells #[.string { data := #[] }, .int .i64 0, .int .i64 0] 27
theorem wrap_size (n : Nat) (h1 : 4 ≤ n) (h2 : n ≤ 8000) : wrap64 ((n : Int) - 4) = (n : Int) - 4 ∧ IntKind.i64.wrap ((n : Int) - 4) = (n : Int) - 4 :=
  ⟨IntWalk.wrap64_in _ ⟨by omega, by omega⟩, by rw [IntKind.wrap_i64]; omega⟩

set_option maxHeartbeats 2000000 in
theorem specUnseal_core (t hd tl s : ByteArray) (c : Nat) (ok : Bool) (h1 : 4 ≤ t.size) (h2 : t.size ≤ 8000) (h3 : t.extract 0 (t.size - 4) = hd) (h4 : t.extract (t.size - 4) t.size = tl) (h5 : (s.toList == tl.toList) = ok)
    (hX : Hid (∀ w1, Calls Try.prog 36 #[.int .i64 0, .string hd] w1 fun e w' => e = .returned (.int .i64 c) ∧ w1 = w'))
    (hY : Hid (∀ w1, Calls Try.prog 35 #[.int .i64 c] w1 fun e w' => e = .returned (.string s) ∧ Below w1.heap.size w1 w')) (w : World) :
    Calls Try.prog 27 #[.string t] w fun e w' => e = .returned (outV (if ok then hd else ByteArray.empty) (if ok then 0 else 5)) ∧ Below w.heap.size w w' := by
  have hs1 := slice_tail t h1
  rw [h4] at hs1
  have i1 : (4 : Int) ≤ (t.size : Int) := by omega
  obtain ⟨e1, e2⟩ := wrap_size t.size h1 h2
  cases ok
  all_goals
    go_enter Try.func27, Try.ntmps27
    go_wp2
    go_region_with (first | (go_at_call 36; refine (hX.out _).mono ?_; rintro e w' ⟨rfl, rfl⟩) | (go_at_call 35; refine (hY.out _).mono ?_; rintro e w1 ⟨rfl, hb1⟩))
    obtain ⟨hc1, hf1⟩ := bcell hb1
    have hz : w.heap.size < w1.heap.size := by have := hb1.size; simp at this; omega
    have HB : Hid (Below w.heap.size w w1) := ((Below.refl _ _).alloc (Nat.le_refl _) _).drew.trans (hb1.mono (by simp))
    clear hb1
    go_wp2
    first
      | exact bodyPost_ret (v := outV ByteArray.empty 5) (by simp [results, Try.results27, go_sem, hc1, outV]; rfl) rfl ⟨rfl, ((HB.out.setCell (Nat.le_refl _) _).setCell (Nat.le_refl _) _).setCell (Nat.le_refl _) _⟩
      | exact bodyPost_ret (v := outV hd 0) (by simp [results, Try.results27, go_sem, hc1, outV]) rfl ⟨rfl, ((HB.out.setCell (Nat.le_refl _) _).setCell (Nat.le_refl _) _).setCell (Nat.le_refl _) _⟩

set_option maxHeartbeats 2000000 in
theorem implUnseal_core (t hd tl s : ByteArray) (ok : Bool) (h1 : 4 ≤ t.size) (h2 : t.size ≤ 8000) (h3 : t.extract 0 (t.size - 4) = hd) (h4 : t.extract (t.size - 4) t.size = tl) (h5 : (tl.toList == s.toList) = ok)
    (hX : Hid (∀ w1, Calls Try.prog 34 #[.string hd] w1 fun e w' => e = .returned (.string s) ∧ Below w1.heap.size w1 w'))
    (hY : Hid (∀ w1, Calls Try.prog 38 #[.string hd] w1 fun e w' => e = .returned (.string hd) ∧ Below w1.heap.size w1 w')) (w : World) :
    Calls Try.prog 15 #[.string t] w fun e w' => e = .returned (outV (if ok then hd else ByteArray.empty) (if ok then 0 else 5)) ∧ Below w.heap.size w w' := by
  have hs1 := slice_tail t h1
  have hs2 := slice_head t h1
  rw [h4] at hs1
  rw [h3] at hs2
  have i1 : (4 : Int) ≤ (t.size : Int) := by omega
  have d1 : decide (8000 < t.size) = false := by simp; omega
  have HT : Hid (∀ w1, Calls Try.prog 37 #[.string t] w1 fun e w' => e = .returned (.bool (decide (8000 < t.size))) ∧ w1 = w') := tooLong_w t (by unfold maxLen; omega)
  cases ok
  · go_enter Try.func15, Try.ntmps15
    go_wp2_with (go_at_call 37; refine (HT.out _).mono ?_; rintro e w' ⟨rfl, rfl⟩)
    go_region_with (go_at_call 34; refine (hX.out _).mono ?_; rintro e w1 ⟨rfl, hb1⟩)
    obtain ⟨hc1, hf1⟩ := bcell hb1
    have HB : Hid (Below w.heap.size w w1) := ((Below.refl _ _).alloc (Nat.le_refl _) _).drew.trans (hb1.mono (by simp))
    clear hb1
    go_wp2
    exact bodyPost_ret (v := outV ByteArray.empty 5) (by simp [results, Try.results15, go_sem, hc1, outV]; rfl) rfl ⟨rfl, ((HB.out.setCell (Nat.le_refl _) _).setCell (Nat.le_refl _) _).setCell (Nat.le_refl _) _⟩
  · go_enter Try.func15, Try.ntmps15
    go_wp2_with (go_at_call 37; refine (HT.out _).mono ?_; rintro e w' ⟨rfl, rfl⟩)
    go_region_with (go_at_call 34; refine (hX.out _).mono ?_; rintro e w1 ⟨rfl, hb1⟩)
    go_wp2_with fail
    refine (hY.out _).mono ?_
    rintro e w2 ⟨rfl, hb2⟩
    have hb3 := hb1.trans (hb2.mono hb1.size)
    obtain ⟨hc1, hf1⟩ := bcell hb3
    have HB : Hid (Below w.heap.size w w2) := ((Below.refl _ _).alloc (Nat.le_refl _) _).drew.trans (hb3.mono (by simp))
    clear hb1 hb2 hb3
    go_wp2
    exact bodyPost_ret (v := outV hd 0) (by simp [results, Try.results15, go_sem, hc1, outV]) rfl ⟨rfl, ((HB.out.setCell (Nat.le_refl _) _).setCell (Nat.le_refl _) _).setCell (Nat.le_refl _) _⟩
end Go.Proofs.Ytpdklkofflfjgaa
