/-
  The model's GetText, by its contract; the walk of the law over both.
-/
import Derived.Test.YtpdklkofflfjgaaDoorText
import Derived.BigRegion
namespace Go.Proofs.YtpdklkofflfjgaaDoor
open Go.RowKit

theorem slice_mid (s : ByteArray) (b n : Int) (h0 : 0 ≤ b) (h1 : 0 ≤ n) (h2 : b + n ≤ s.size) (w : World) : (Instr.slice 9 (.string s) (some (.int .i64 b)) (some (.int .i64 (b + n))) none).run Tryd.prog w = .ok (.string (s.extract b.toNat (b + n).toNat)) w :=
  run_slice_string w 9 s .i64 .i64 b (b + n) Tryd.underlying9 h0 (by omega) h2
theorem wrap_sum (b n : Int) (h0 : 0 ≤ b + n) (h2 : b + n ≤ 8000) : wrap64 (b + n) = b + n ∧ IntKind.i64.wrap (b + n) = b + n :=
  ⟨IntWalk.wrap64_in _ ⟨by omega, by omega⟩, by rw [IntKind.wrap_i64]; omega⟩

set_option maxHeartbeats 4000000 in
set_option maxRecDepth 100000 in
theorem specGetText_any (s : ByteArray) (hs : s.size ≤ maxLen) (a : Int) (ha : a < 9223372036854775808) (w : World) :
    Calls Tryd.prog 16 #[.string s, .int .i64 a] w fun e w' => e = .returned (outT (getT s (getR s a)).1 (getT s (getR s a)).2.1 (getT s (getR s a)).2.2) ∧ Below w.heap.size w w' := by
  have HX := shutF (fun w1 => specGetNum_any s hs a ha w1)
  have hpl := @getR_place s a
  unfold maxLen at hs
  generalize getR s a = r at HX hpl
  obtain ⟨n, b, c⟩ := r
  simp only [outN] at HX
  by_cases hc : c = 0
  · subst hc
    obtain ⟨h8, hb0, hb1⟩ := hpl rfl
    clear hpl
    by_cases h1 : n < 0
    · rw [show getT s (n, b, 0) = (ByteArray.empty, 0, 3) by simp [getT, h1]]
      have d1 : decide (n < 0) = true := by simpa using h1
      go_enter Tryd.func16, Tryd.ntmps16
      go_wp2_with fail
      refine (HX.out _).mono ?_
      rintro e w1 ⟨rfl, hb1⟩
      have hc1 := fun o => hb1.cell (p := ⟨w.heap.size, o, none⟩) (by simp)
      have hf1 := fun o => hb1.frozen (p := ⟨w.heap.size, o, none⟩) (by simp)
      have hz1 : w.heap.size < w1.heap.size := by have := hb1.size; simp at this; omega
      have HB : Hid (Below w.heap.size w w1) := ((Below.refl _ _).alloc (Nat.le_refl _) _).trans (hb1.mono (by simp))
      clear hb1
      simp at hc1 hf1
      go_wp2
      exact bodyPost_ret (v := outT ByteArray.empty 0 3) (by simp [results, Tryd.results16, go_sem, hc1, hz1, outT]; rfl) rfl ⟨rfl, (((HB.out.setCell (Nat.le_refl _) _).setCell (Nat.le_refl _) _).setCell (Nat.le_refl _) _).alloc (by simp; omega) _⟩
    by_cases h2 : 8000 < n
    · rw [show getT s (n, b, 0) = (ByteArray.empty, 0, 3) by simp [getT, h2]]
      go_enter Tryd.func16, Tryd.ntmps16
      go_wp2_with fail
      refine (HX.out _).mono ?_
      rintro e w1 ⟨rfl, hb1⟩
      have hc1 := fun o => hb1.cell (p := ⟨w.heap.size, o, none⟩) (by simp)
      have hf1 := fun o => hb1.frozen (p := ⟨w.heap.size, o, none⟩) (by simp)
      have hz1 : w.heap.size < w1.heap.size := by have := hb1.size; simp at this; omega
      have HB : Hid (Below w.heap.size w w1) := ((Below.refl _ _).alloc (Nat.le_refl _) _).trans (hb1.mono (by simp))
      clear hb1
      simp at hc1 hf1
      go_wp2
      exact bodyPost_ret (v := outT ByteArray.empty 0 3) (by simp [results, Tryd.results16, go_sem, hc1, hz1, outT]; rfl) rfl ⟨rfl, (((HB.out.setCell (Nat.le_refl _) _).setCell (Nat.le_refl _) _).setCell (Nat.le_refl _) _).alloc (by simp; omega) _⟩
    by_cases h3 : (s.size : Int) < b + n
    · rw [show getT s (n, b, 0) = (ByteArray.empty, 0, 4) by simp [getT, h1, h2, h3]]
      go_enter Tryd.func16, Tryd.ntmps16
      go_wp2_with fail
      refine (HX.out _).mono ?_
      rintro e w1 ⟨rfl, hb1⟩
      have hc1 := fun o => hb1.cell (p := ⟨w.heap.size, o, none⟩) (by simp)
      have hf1 := fun o => hb1.frozen (p := ⟨w.heap.size, o, none⟩) (by simp)
      have hz1 : w.heap.size < w1.heap.size := by have := hb1.size; simp at this; omega
      have HB : Hid (Below w.heap.size w w1) := ((Below.refl _ _).alloc (Nat.le_refl _) _).trans (hb1.mono (by simp))
      clear hb1
      simp at hc1 hf1
      go_wp2
      exact bodyPost_ret (v := outT ByteArray.empty 0 4) (by simp [results, Tryd.results16, go_sem, hc1, hz1, outT]; rfl) rfl ⟨rfl, (((HB.out.setCell (Nat.le_refl _) _).setCell (Nat.le_refl _) _).setCell (Nat.le_refl _) _).alloc (by simp; omega) _⟩
    · rw [show getT s (n, b, 0) = (s.extract b.toNat (b + n).toNat, b + n, 0) by simp [getT, h1, h2, h3]]
      have hsl := slice_mid s b n hb0 (by omega) (by omega)
      obtain ⟨e1, e2⟩ := wrap_sum b n (by omega) (by omega)
      generalize s.extract b.toNat (b + n).toNat = t at hsl
      go_enter Tryd.func16, Tryd.ntmps16
      go_wp2_with fail
      refine (HX.out _).mono ?_
      rintro e w1 ⟨rfl, hb1⟩
      have hc1 := fun o => hb1.cell (p := ⟨w.heap.size, o, none⟩) (by simp)
      have hf1 := fun o => hb1.frozen (p := ⟨w.heap.size, o, none⟩) (by simp)
      have hz1 : w.heap.size < w1.heap.size := by have := hb1.size; simp at this; omega
      have HB : Hid (Below w.heap.size w w1) := ((Below.refl _ _).alloc (Nat.le_refl _) _).trans (hb1.mono (by simp))
      clear hb1
      simp at hc1 hf1
      go_wp2
      go_region
      all_goals go_wp2
      all_goals exact bodyPost_ret (v := outT t (b + n) 0) (by simp [results, Tryd.results16, go_sem, hc1, hz1, outT]) rfl ⟨rfl, ((((HB.out.setCell (Nat.le_refl _) _).setCell (Nat.le_refl _) _).setCell (Nat.le_refl _) _).alloc (by simp; omega) _).drew⟩
  · rw [show getT s (n, b, c) = (ByteArray.empty, 0, c) by simp [getT, hc]]
    clear hpl
    have dc : (c != 0) = true := by simpa using hc
    go_enter Tryd.func16, Tryd.ntmps16
    go_wp2_with fail
    refine (HX.out _).mono ?_
    rintro e w1 ⟨rfl, hb1⟩
    have hc1 := fun o => hb1.cell (p := ⟨w.heap.size, o, none⟩) (by simp)
    have hf1 := fun o => hb1.frozen (p := ⟨w.heap.size, o, none⟩) (by simp)
    have hz1 : w.heap.size < w1.heap.size := by have := hb1.size; simp at this; omega
    have HB : Hid (Below w.heap.size w w1) := ((Below.refl _ _).alloc (Nat.le_refl _) _).trans (hb1.mono (by simp))
    clear hb1
    simp at hc1 hf1
    go_wp2
    exact bodyPost_ret (v := outT ByteArray.empty 0 c) (by simp [results, Tryd.results16, go_sem, hc1, hz1, outT]; rfl) rfl ⟨rfl, (((HB.out.setCell (Nat.le_refl _) _).setCell (Nat.le_refl _) _).setCell (Nat.le_refl _) _).alloc (by simp; omega) _⟩

set_option maxHeartbeats 1000000 in
theorem eqText_same (n : ByteArray) (b c : Int) (w : World) :
    Calls Tryd.prog 17 #[outT n b c, outT n b c] w fun e w' => e = .returned (.bool true) ∧ Below w.heap.size w w' := by
  unfold outT
  go_enter Tryd.func17, Tryd.ntmps17
  go_wp2
  go_ret
  exact ⟨rfl, ((Below.refl _ _).alloc (Nat.le_refl _) _).alloc (by simp) _⟩

set_option maxHeartbeats 2000000 in
theorem walkGetText (a0 : ByteArray) (a1 : Int) (w0 : a0.size ≤ maxLen) (w1 : (Lit.int .i64 a1).wf = true) (w : World) (hg : w.cell? ⟨0, 0, none⟩ = some (.iface 77 (.agg #[.pointer (some ⟨1, 44, none⟩)]))) :
    Calls Tryd.prog 5 #[.string a0, .int .i64 a1] w fun e w' => e = .returned (.bool true) ∧ Below w.heap.size w w' := by
  have hs := w0
  unfold maxLen at hs
  have hb : -9223372036854775808 ≤ a1 ∧ a1 ≤ 9223372036854775807 := by simpa [Lit.wf, IntKind.min, IntKind.max, IntKind.signed, IntKind.bits] using w1
  by_cases h1 : 1048576 < a0.size
  · go_enter Tryd.func5, Tryd.ntmps5
    go_wp2
    go_ret
    exact ⟨rfl, Below.refl _ _⟩
  · have HX := shutF (fun w1 => specGetText_any a0 w0 a1 (by omega) w1)
    have HY := shutF (fun w1 => implGetText_any a0 w0 a1 (by omega) w1)
    have hlt : 0 < w.heap.size := World.block_lt_of_cell? w ⟨0, 0, none⟩ hg
    have HG := shutF hg
    clear hg
    generalize getT a0 (getR a0 a1) = r at HX HY
    obtain ⟨n, b, c⟩ := r
    have HE := shutF (fun w1 => eqText_same n b c w1)
    simp only [outT] at HX HY HE
    go_enter Tryd.func5, Tryd.ntmps5
    go_wp2_with fail
    refine (HX.out _).mono ?_
    rintro e w1 ⟨rfl, hb1⟩
    have hz1 := hb1.size
    go_wp2_with fail
    refine (HY.out _ ?_).mono ?_
    · rw [World.cell?_alloc_lt _ _ ⟨0, 0, none⟩ (by simp; omega), hb1.cell (p := ⟨0, 0, none⟩) hlt]
      exact HG.out
    rintro e w2 ⟨rfl, hb2⟩
    have hc2 := fun o => hb2.cell (p := ⟨w1.heap.size, o, none⟩) (by simp)
    have hz2 : w1.heap.size < w2.heap.size := by have := hb2.size; simp at this; omega
    simp at hc2
    go_wp2_with fail
    refine (HE.out _).mono ?_
    rintro e w3 ⟨rfl, hb3⟩
    have HB : Hid (Below w.heap.size w w3) := ((hb1.alloc hz1 _).trans (hb2.mono (by simp; omega))).alloc (by omega) _ |>.trans (hb3.mono (by simp; omega))
    clear hb1 hb2 hb3 hc2
    go_wp2
    go_ret
    exact ⟨rfl, HB.out⟩
end Go.Proofs.YtpdklkofflfjgaaDoor
