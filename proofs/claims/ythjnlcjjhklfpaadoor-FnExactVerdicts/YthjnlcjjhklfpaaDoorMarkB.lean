/-
  The laws' marks over rows of bools: eqBoolS, markBoolS, heldBoolS; the program's Verdicts; by their contracts.
-/
import Derived.Test.YthjnlcjjhklfpaaDoorMeanO
import Derived.Test.YthjnlcjjhklfpaaDoorMarkE
namespace Go.Proofs.YthjnlcjjhklfpaaDoor
open Go.RowKit
set_option linter.unusedVariables false
set_option linter.unusedSimpArgs false
set_option maxRecDepth 20000 in
set_option maxHeartbeats 1000000 in
theorem eqBoolS_any (V : List Bool) (n : Nat) (hn : V.length = n) (a1 a2 : Option Addr) (c1 c2 : Nat) (hl : n ≤ 1048576) (w : World) (h1 : BsAt w a1 V) (h2 : BsAt w a2 V) :
    Calls Tryd.prog 54 #[.slice a1 n c1, .slice a2 n c2] w fun e w' => e = .returned (.bool true) ∧ Below w.heap.size w w' := by
  subst hn
  have H1 := hid h1
  have H2 := hid h2
  clear h1 h2
  go_enter Tryd.func54, Tryd.ntmps54
  go_wp2_with fail
  go_loopw [5] (fun t wr => ∃ k : Nat, k ≤ V.length ∧ t = .int .i64 k ∧ Below w.heap.size w wr) (fun t _ => V.length - (intOf t).toNat)
  case atStart => exact ⟨0, Nat.zero_le _, rfl, Below.refl _ _⟩
  case round =>
    obtain ⟨k, hk, rfl, hbel⟩ := hrel
    have HB := hid hbel
    clear hbel
    by_cases hlt : k < V.length
    · rcases H1.out with h0 | ⟨b1, rfl, hb1, hc1⟩
      · omega
      rcases H2.out with h0 | ⟨b2, rfl, hb2, hc2⟩
      · omega
      have d1 := (HB.out.cell (p := ⟨b1, k, none⟩) hb1).trans (hc1 k hlt)
      have d2 := (HB.out.cell (p := ⟨b2, k, none⟩) hb2).trans (hc2 k hlt)
      clear hc1 hc2
      generalize V.getD k false = t at *
      have ht : (t != t) = false := by simp
      go_wp2_with fail
      go_quiet (fail)
      go_wp2_with fail
      go_roundw
      case rel => exact ⟨k + 1, by omega, by go_num, below_drewN HB.out _⟩
      case measure => simp [intOf]; omega
    · go_wp2_with fail
      go_ret
      exact ⟨rfl, HB.out⟩
def mkB (k : Nat) : Bool := decide ((k : Int) % 3 = 0)
def markB (k n : Nat) : List Bool := (List.range n).map fun i => mkB (k + i)
theorem markB_len (k n : Nat) : (markB k n).length = n := by simp [markB]
theorem markB_at (k n i : Nat) (h : i < n) : (markB k n).getD i false = mkB (k + i) := by simp [markB, h]
/-- A row of bools to be written to; it may be longer than what is asked for. -/
def RowBs (w : World) (a : Option Addr) (n : Nat) : Prop := n = 0 ∨ ∃ b z m, a = some ⟨b, 0, none⟩ ∧ n ≤ m ∧ w.rowIs b 4 m z
theorem RowBs.below {w w' : World} {a : Option Addr} {n : Nat} (h : RowBs w a n) (hb : Below w.heap.size w w') : RowBs w' a n :=
  h.imp id (fun ⟨b, z, m, e, hm, hr⟩ => ⟨b, z, m, e, hm, hr.of_block (hb.block b hr.lt)⟩)
theorem RowBs.save {w w' : World} {a : Option Addr} {n : Nat} {S : Nat → Prop} (h : RowBs w a n) (hs : Save w w' S) (hS : ∀ b, a = some ⟨b, 0, none⟩ → ¬ S b) : RowBs w' a n :=
  h.imp id (fun ⟨b, z, m, e, hm, hr⟩ => ⟨b, z, m, e, hm, hr.of_block (hs.block b hr.lt (hS b e))⟩)
def rowV (V : List Bool) (z : Nat → Value) (k j : Nat) : Value := if j < k then .bool (V.getD j false) else z j
theorem rowV_step (V : List Bool) (z : Nat → Value) (k j : Nat) : rowV V z (k + 1) j = if j = k then .bool (V.getD k false) else rowV V z k j := by
  unfold rowV
  by_cases e : j = k
  · subst e; simp
  · by_cases h : j < k
    · rw [if_pos (by omega), if_neg e, if_pos h]
    · rw [if_neg (by omega), if_neg e, if_neg h]
set_option maxRecDepth 20000 in
set_option maxHeartbeats 1000000 in
theorem markBoolS_any (n : Nat) (a : Option Addr) (c : Nat) (hn : n ≤ 1048576) (w : World) (h : RowBs w a n) :
    Calls Tryd.prog 55 #[.slice a n c, .int .i64 1] w fun e w' => e = .returned (.int .i64 (1 + n : Nat)) ∧ BsAt w' a (markB 1 n) ∧ Save w w' (OfT a) := by
  rcases h with rfl | ⟨b, z, m, rfl, hnm, h⟩
  · go_enter Tryd.func55, Tryd.ntmps55
    go_wp2_with fail
    go_loopw [1, 5] (fun t s wr => t = .int .i64 1 ∧ s = .int .i64 0 ∧ w = wr) (fun _ _ _ => 0)
    case atStart => exact ⟨rfl, rfl, rfl⟩
    case round =>
      obtain ⟨rfl, rfl, rfl⟩ := hrel
      go_wp2_with fail
      go_ret
      exact ⟨rfl, Or.inl rfl, Save.refl _ _⟩
  · have HR0 := hid (h.congr (fun j hj => (show z j = rowV (markB 1 n) z 0 j by simp [rowV])))
    have hbl := h.lt
    clear h
    go_enter Tryd.func55, Tryd.ntmps55
    go_wp2_with fail
    go_loopw [1, 5] (fun t s wr => ∃ k : Nat, k ≤ n ∧ t = .int .i64 (1 + k : Nat) ∧ s = .int .i64 k ∧ wr.rowIs b 4 m (rowV (markB 1 n) z k) ∧ Save w wr (OfT (some ⟨b, 0, none⟩))) (fun _ s _ => n - (intOf s).toNat)
    case atStart => exact ⟨0, Nat.zero_le _, rfl, rfl, HR0.out, Save.refl _ _⟩
    case round =>
      clear HR0
      obtain ⟨k, hk, rfl, rfl, hrow, hsv⟩ := hrel
      have HS := hid hsv
      have HRow := hid hrow
      have hsz := hrow.lt
      clear hrow hsv
      by_cases hlt : k < n
      · have d5 := HRow.out.cell (i := k) (by omega)
        have f5 := HRow.out.frozen k
        have HE : Hid ((markB 1 n).getD k false = decide ((((1 + k : Nat) : Int)) % 3 = 0)) := markB_at 1 n k hlt
        go_wp2_with fail
        go_roundw
        case rel =>
          refine ⟨k + 1, by omega, by simp; omega, by go_num, (HRow.out.set k _).congr (fun j hj => ?_), HS.out.setCell (p := ⟨b, k, none⟩) (fun _ => ⟨_, rfl, rfl⟩) _⟩
          rw [rowV_step, HE.out]
          split
          · congr 1
          · rfl
        case measure => simp [intOf]; omega
      · have hk' : k = n := by omega
        subst hk'
        go_wp2_with fail
        go_ret
        refine ⟨rfl, Or.inr ⟨b, rfl, HRow.out.lt, fun i hi => ?_⟩, HS.out⟩
        rw [markB_len] at hi
        rw [HRow.out.cell (by omega)]
        unfold rowV
        rw [if_pos hi]
set_option maxRecDepth 20000 in
set_option maxHeartbeats 1000000 in
theorem heldBoolS_any (n : Nat) (a : Option Addr) (c : Nat) (hn : n ≤ 1048576) (w : World) (h : BsAt w a (markB 1 n)) :
    Calls Tryd.prog 56 #[.slice a n c, .int .i64 1] w fun e w' => e = .returned (.int .i64 (1 + n : Nat)) ∧ Below w.heap.size w w' := by
  have H := hid h
  clear h
  go_enter Tryd.func56, Tryd.ntmps56
  go_wp2_with fail
  go_loopw [1, 5] (fun t s wr => ∃ k : Nat, k ≤ n ∧ t = .int .i64 (1 + k : Nat) ∧ s = .int .i64 k ∧ Below w.heap.size w wr) (fun _ s _ => n - (intOf s).toNat)
  case atStart => exact ⟨0, Nat.zero_le _, rfl, rfl, Below.refl _ _⟩
  case round =>
    obtain ⟨k, hk, rfl, rfl, hbel⟩ := hrel
    have HB := hid hbel
    clear hbel
    by_cases hlt : k < n
    · rcases H.out with h0 | ⟨b, rfl, hb, hc⟩
      · rw [markB_len] at h0; omega
      have d5 := (HB.out.cell (p := ⟨b, k, none⟩) hb).trans (hc k (by rw [markB_len]; exact hlt))
      rw [markB_at _ _ _ hlt] at d5
      clear hc
      by_cases h3 : (1 + (k : Int)) % 3 = 0
      · have e3 : mkB (1 + k) = true := by simp [mkB, h3]
        rw [e3] at d5
        clear e3
        go_wp2_with fail
        go_roundw
        case rel => exact ⟨k + 1, by omega, by simp; omega, by go_num, HB.out⟩
        case measure => simp [intOf]; omega
      · have e3 : mkB (1 + k) = false := by simp [mkB, h3]
        rw [e3] at d5
        clear e3
        go_wp2_with fail
        go_roundw
        case rel => exact ⟨k + 1, by omega, by simp; omega, by go_num, HB.out⟩
        case measure => simp [intOf]; omega
    · have hk' : k = n := by omega
      subst hk'
      go_wp2_with fail
      go_ret
      exact ⟨rfl, HB.out⟩
end Go.Proofs.YthjnlcjjhklfpaaDoor
