/-
  The laws' marks: heldNodeS by its contract.
-/
import Derived.Test.YtagklhfejbdkdaaDoorMarkN
namespace Go.Proofs.YtagklhfejbdkdaaDoor
open Go.RowKit
set_option linter.unusedVariables false
set_option linter.unusedSimpArgs false
theorem heldNodeS_nil (a : Option Addr) (k0 c : Nat) (w : World) :
    Calls Tryd.prog 41 #[.slice a 0 c, .int .i64 k0] w fun e w' => e = .returned (.int .i64 k0) ∧ w = w' := by
  go_enter Tryd.func41, Tryd.ntmps41
  go_wp2_with fail
  go_loopw [1, 5] (fun t s wr => t = .int .i64 k0 ∧ s = .int .i64 0 ∧ w = wr) (fun _ _ _ => 0)
  case atStart => exact ⟨rfl, rfl, rfl⟩
  case round =>
    obtain ⟨rfl, rfl, rfl⟩ := hrel
    go_wp2_with fail
    go_ret
    exact ⟨rfl, rfl⟩
set_option maxRecDepth 20000 in
set_option maxHeartbeats 2000000 in
theorem heldNodeS_row (n k0 b c : Nat) (hn : n ≤ 1048576) (hk0 : 0 < k0) (hk1 : k0 ≤ 1000) (w : World) (h : NodesAt w b (markN k0 n)) :
    Calls Tryd.prog 41 #[.slice (some ⟨b, 0, none⟩) n c, .int .i64 k0] w fun e w' => e = .returned (.int .i64 (k0 + n * 6 : Nat)) ∧ Below w.heap.size w w' := by
  have H := hid h
  clear h
  go_enter Tryd.func41, Tryd.ntmps41
  go_wp2_with fail
  go_loopw [1, 5] (fun t s wr => ∃ k : Nat, k ≤ n ∧ t = .int .i64 (k0 + k * 6 : Nat) ∧ s = .int .i64 k ∧ Below w.heap.size w wr) (fun _ s _ => n - (intOf s).toNat)
  case atStart => exact ⟨0, Nat.zero_le _, rfl, rfl, Below.refl _ _⟩
  case round =>
    obtain ⟨k, hk, rfl, rfl, hbel⟩ := hrel
    have HB := hid hbel
    have hsz := hbel.size
    clear hbel
    by_cases hlt : k < n
    · have hnd := H.out.2 k (by rw [markN_len]; exact hlt)
      rw [markN_at _ _ _ hlt] at hnd
      obtain ⟨d0, d1, d2, d3, d4, d5⟩ := hnd.below HB.out H.out.1
      clear hnd
      simp only [mkNd, Nd.k, Nd.a, Nd.b, Nd.lo, Nd.hi, Nd.nm] at d0 d1 d2 d3 d4 d5
      have hbl : b < wr.heap.size := Nat.lt_of_lt_of_le H.out.1 hsz
      go_wp2_with fail
      go_region_with (go_at_call 40; refine (markText_int _ (k0 + k * 6 + 5) (by push_cast; omega) (by omega) (by omega) _).mono ?_; rintro e w1 ⟨rfl, hb1⟩; have HB1 : Hid (Below w.heap.size w w1) := HB.out.trans (Below.mono ⟨hb1.os, hb1.tape, hb1.output, hb1.size, hb1.block⟩ hsz); have d6 := (hb1.cell (p := ⟨b, k * 6 + 5, none⟩) hbl).trans d5; clear hb1)
      all_goals
        go_wp2_with fail
        go_roundw
        case rel => exact ⟨k + 1, by omega, by simp; omega, by go_num, HB1.out⟩
        case measure => simp [intOf]; omega
    · have hk' : k = n := by omega
      subst hk'
      go_wp2_with fail
      go_ret
      exact ⟨rfl, HB.out⟩
end Go.Proofs.YtagklhfejbdkdaaDoor
