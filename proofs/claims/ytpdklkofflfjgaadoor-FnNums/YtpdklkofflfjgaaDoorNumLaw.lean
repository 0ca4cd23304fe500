/-
  GetNum at every argument: the model's contract, and the walk of the law over both.
-/
import Derived.Test.YtpdklkofflfjgaaDoorSpec
namespace Go.Proofs.YtpdklkofflfjgaaDoor
open Go.RowKit

set_option maxHeartbeats 1000000 in
theorem specGetNum_any (s : ByteArray) (hs : s.size ≤ maxLen) (a : Int) (ha : a < 9223372036854775808) (w : World) :
    Calls Tryd.prog 14 #[.string s, .int .i64 a] w fun e w' => e = .returned (outN (getR s a).1 (getR s a).2.1 (getR s a).2.2) ∧ Below w.heap.size w w' := by
  have hl := hs
  unfold maxLen at hl
  by_cases h1 : 8000 < s.size
  · rw [show getR s a = (0, 0, 2) by simp [getR, placeC, h1]]
    go_enter Tryd.func14, Tryd.ntmps14
    go_wp2
    exact bodyPost_ret (v := outN 0 0 2) (by simp [results, Tryd.results14, go_sem, outN]) rfl ⟨rfl, (Below.refl _ _).alloc (Nat.le_refl _) _⟩
  by_cases h2 : a < 0
  · rw [show getR s a = (0, 0, 1) by simp [getR, placeC, h1, h2]]
    go_enter Tryd.func14, Tryd.ntmps14
    go_wp2
    exact bodyPost_ret (v := outN 0 0 1) (by simp [results, Tryd.results14, go_sem, outN]) rfl ⟨rfl, (Below.refl _ _).alloc (Nat.le_refl _) _⟩
  · obtain ⟨n, rfl⟩ := Int.eq_ofNat_of_zero_le (show 0 ≤ a by omega)
    exact specGetNum_in s (by omega) n (by omega) w _ _ _ rfl

set_option maxHeartbeats 1000000 in
theorem eqNum_same (n b c : Int) (w : World) :
    Calls Tryd.prog 15 #[outN n b c, outN n b c] w fun e w' => e = .returned (.bool true) ∧ Below w.heap.size w w' := by
  unfold outN
  go_enter Tryd.func15, Tryd.ntmps15
  go_wp2
  go_ret
  exact ⟨rfl, ((Below.refl _ _).alloc (Nat.le_refl _) _).alloc (by simp) _⟩

set_option maxHeartbeats 2000000 in
theorem walkGetNum (a0 : ByteArray) (a1 : Int) (w0 : a0.size ≤ maxLen) (w1 : (Lit.int .i64 a1).wf = true) (w : World) (hg : w.cell? ⟨0, 0, none⟩ = some (.iface 77 (.agg #[.pointer (some ⟨1, 44, none⟩)]))) :
    Calls Tryd.prog 4 #[.string a0, .int .i64 a1] w fun e w' => e = .returned (.bool true) ∧ Below w.heap.size w w' := by
  have hs := w0
  unfold maxLen at hs
  have hb : -9223372036854775808 ≤ a1 ∧ a1 ≤ 9223372036854775807 := by simpa [Lit.wf, IntKind.min, IntKind.max, IntKind.signed, IntKind.bits] using w1
  by_cases h1 : 1048576 < a0.size
  · go_enter Tryd.func4, Tryd.ntmps4
    go_wp2
    go_ret
    exact ⟨rfl, Below.refl _ _⟩
  · have HX := shutF (fun w1 => specGetNum_any a0 w0 a1 (by omega) w1)
    have HY := shutF (fun w1 => implGetNum_any a0 w0 a1 (by omega) w1)
    have hlt : 0 < w.heap.size := World.block_lt_of_cell? w ⟨0, 0, none⟩ hg
    have HG := shutF hg
    clear hg
    generalize getR a0 a1 = r at HX HY
    obtain ⟨n, b, c⟩ := r
    have HE := shutF (fun w1 => eqNum_same n b c w1)
    simp only [outN] at HX HY HE
    go_enter Tryd.func4, Tryd.ntmps4
    go_wp2_with fail
    refine (HX.out _).mono ?_
    rintro e w1 ⟨rfl, hb1⟩
    have hz1 := hb1.size
    go_wp2_with fail
    refine (HY.out _ ?_).mono ?_
    · rw [World.cell?_alloc_lt _ _ ⟨0, 0, none⟩ (by simp; omega), hb1.cell (p := ⟨0, 0, none⟩) hlt]
      exact HG.out
    rintro e w2 ⟨rfl, hb2⟩
    have hc2 := fun o => hb2.cell (p := ⟨w1.heap.size, o, none⟩) (by simp)
    have hz2 : w1.heap.size < w2.heap.size := by have := hb2.size; simp at this; omega
    simp at hc2
    go_wp2_with fail
    refine (HE.out _).mono ?_
    rintro e w3 ⟨rfl, hb3⟩
    have HB : Hid (Below w.heap.size w w3) := ((hb1.alloc hz1 _).trans (hb2.mono (by simp; omega))).alloc (by omega) _ |>.trans (hb3.mono (by simp; omega))
    clear hb1 hb2 hb3 hc2
    go_wp2
    go_ret
    exact ⟨rfl, HB.out⟩
end Go.Proofs.YtpdklkofflfjgaaDoor
