/-
  Rows of cups, told as one row of numbers (two a cup): the laws' own helpers over them (szCupS, toCupS, eqCupS, markCupS, heldCupS), by their contracts.
-/
import Derived.Test.YtfafeomegoikkaaKpA
namespace Go.Proofs.Ytfafeomegoikkaa
open Go.RowKit
set_option linter.unusedVariables false
set_option linter.unusedSimpArgs false
/-- Block b holds a row of cups, and nothing else. -/
def CupI (w : World) (b : Nat) (Z : List Int) : Prop := w.rowIs b 59 Z.length (fun j => .int .i64 (zAt Z j))
theorem CupI.lt {w : World} {b : Nat} {Z : List Int} (h : CupI w b Z) : b < w.heap.size := World.rowIs.lt h
theorem CupI.arg {w : World} {b : Nat} {Z : List Int} (h : CupI w b Z) : ArgI w (some ⟨b, 0, none⟩) Z := Or.inr ⟨b, 0, rfl, World.rowIs.lt h, fun i hi => by rw [Nat.zero_add]; exact World.rowIs.cell h hi⟩
theorem CupI.below {w w' : World} {b : Nat} {Z : List Int} {B : Nat} (h : CupI w b Z) (hb : Below B w w') (hB : b < B) : CupI w' b Z := World.rowIs.of_block h (hb.block b hB)
/-- A row of cups to be written to; it may be longer than what is asked for. -/
def RowC (w : World) (a : Option Addr) (n : Nat) : Prop := n = 0 ∨ ∃ b z m, a = some ⟨b, 0, none⟩ ∧ n * 2 ≤ m ∧ w.rowIs b 59 m z
theorem CupI.mu {w : World} {b : Nat} {Z : List Int} {n : Nat} (h : CupI w b Z) (hn : Z.length = n * 2) : RowC w (some ⟨b, 0, none⟩) n := Or.inr ⟨b, _, _, rfl, by omega, h⟩
theorem RowC.below {w w' : World} {a : Option Addr} {n : Nat} (h : RowC w a n) (hb : Below w.heap.size w w') : RowC w' a n :=
  h.imp id (fun ⟨b, z, m, e, hm, hr⟩ => ⟨b, z, m, e, hm, hr.of_block (hb.block b hr.lt)⟩)
theorem RowC.save {w w' : World} {a : Option Addr} {n : Nat} {S : Nat → Prop} (h : RowC w a n) (hs : Save w w' S) (hS : ∀ q, a = some q → ¬ S q.block) : RowC w' a n :=
  h.imp id (fun ⟨b, z, m, e, hm, hr⟩ => ⟨b, z, m, e, hm, hr.of_block (hs.block b hr.lt (hS _ e))⟩)
theorem Try.uCs : Try.prog.underlying 23 = some (.slice 59) := by kernel_rfl
theorem Try.infoCup : (Try.prog.info? 59).map (fun i => (i.zero, i.size, i.bytes)) = some (some (.agg #[.int .i64 0, .int .i64 0]), 2, 16) := by kernel_rfl
theorem run_makeC (n : Nat) (hn : n ≤ 1048576) : ∀ w : World, Sem.run Try.prog (Instr.makeSlice 23 (.int .i64 n) (.int .i64 n)) w = .ok (.slice (some ⟨w.heap.size, 0, none⟩) n n) (w.alloc (.cells (madeCells #[.int .i64 0, .int .i64 0] (n * 2)) 59)) := by
  obtain ⟨i0, hi, hz0, hz1, hz2⟩ := info_parts Try.infoCup
  intro w
  have h := run_make (P := Try.prog) w 23 59 i0 _ Try.uCs hi hz0 .i64 .i64 n n (by omega) (Int.le_refl _) (by rw [hz2]; omega) (by omega)
  rw [hz1] at h
  simpa [Value.cells] using h
theorem rowN_two (Z : List Int) (z : Nat → Value) (k j : Nat) : rowN Z z (k * 2 + 2) j = if j = k * 2 + 1 then .int .i64 (zAt Z (k * 2 + 1)) else if j = k * 2 then .int .i64 (zAt Z (k * 2)) else rowN Z z (k * 2) j := by
  rw [show k * 2 + 2 = (k * 2 + 1) + 1 by omega, rowN_step, rowN_step]
theorem store_two {w : World} {b m : Nat} {Z : List Int} {z : Nat → Value} {k : Nat} (h : w.rowIs b 59 m (rowN Z z (k * 2))) :
    ((w.setCell ⟨b, k * 2, none⟩ (.int .i64 (zAt Z (k * 2)))).setCell ⟨b, k * 2 + 1, none⟩ (.int .i64 (zAt Z (k * 2 + 1)))).rowIs b 59 m (rowN Z z ((k + 1) * 2)) := by
  rw [show (k + 1) * 2 = k * 2 + 2 by omega]
  exact ((h.set (k * 2) _).set (k * 2 + 1) _).congr (fun j hj => (rowN_two _ _ _ _).symm)
set_option maxRecDepth 20000 in
set_option maxHeartbeats 1000000 in
theorem szCupS_any (n : Nat) (a : Option Addr) (cap : Nat) (hl : n ≤ maxLen) (left : Int) (h1 : 0 ≤ left) (h2 : left ≤ 1048576) (w : World) :
    Calls Try.prog 64 #[.slice a n cap, .int .i64 left] w fun e w' => ∃ r : Int, e = .returned (.int .i64 r) ∧ -1 ≤ r ∧ r ≤ 1048576 ∧ (0 ≤ r → r + n ≤ left) ∧ w = w' := by
  unfold maxLen at hl
  by_cases h : left - (n : Int) < 0
  · go_enter Try.func64, Try.ntmps64
    go_wp2
    go_ret
    exact ⟨-1, rfl, by omega, by omega, by omega, rfl⟩
  · go_enter Try.func64, Try.ntmps64
    go_wp2
    go_ret
    exact ⟨left - n, rfl, by omega, by omega, fun _ => by omega, rfl⟩
set_option maxRecDepth 20000 in
set_option maxHeartbeats 1000000 in
theorem toCup_any (s t : Int) (w : World) :
    Calls Try.prog 80 #[.agg #[.int .i64 s, .int .i64 t]] w fun e w' => e = .returned (.agg #[.int .i64 s, .int .i64 t]) ∧ Below w.heap.size w w' := by
  go_enter Try.func80, Try.ntmps80
  go_wp2
  refine bodyPost_ret (v := .agg #[.int .i64 s, .int .i64 t]) (by simp [results, Try.results80, go_sem]) rfl ⟨rfl, ?_⟩
  repeat first
    | exact Below.refl _ _
    | refine Below.setCell ?_ (by show _ ≤ _; first | (simp; done) | (simp; omega)) _
    | refine Below.alloc ?_ (by first | exact Nat.le_refl _ | (simp; done) | (simp; omega)) _
set_option maxRecDepth 20000 in
set_option maxHeartbeats 1000000 in
theorem toCupS_any (Z : List Int) (n : Nat) (hn : Z.length = n * 2) (a : Option Addr) (cap : Nat) (hl : n ≤ 1048576) (w : World) (hA : ArgI w a Z) :
    Calls Try.prog 65 #[.slice a n cap] w fun e w' => e = .returned (.slice (some ⟨w.heap.size, 0, none⟩) n n) ∧ CupI w' w.heap.size Z ∧ Below w.heap.size w w' := by
  have hmk := run_makeC n hl
  have HA := hid hA
  have HN := hid hn
  clear hA hn
  have hr0 : Hid (∃ z, (w.alloc (.cells (madeCells #[.int .i64 0, .int .i64 0] (n * 2)) 59)).rowIs w.heap.size 59 (n * 2) (rowN Z z (0 * 2))) := by
    refine ⟨fun j => (madeCells #[.int .i64 0, .int .i64 0] (n * 2)).getD j undef, ?_⟩
    have := World.rowIs_alloc w (madeCells #[.int .i64 0, .int .i64 0] (n * 2)) 59 (rowN Z (fun j => (madeCells #[.int .i64 0, .int .i64 0] (n * 2)).getD j undef) (0 * 2)) (fun i hi => by simp [rowN, hi])
    rwa [size_madeCells] at this
  obtain ⟨z, hr0⟩ := hr0.out
  have HR0 := hid hr0
  clear hr0
  go_enter Try.func65, Try.ntmps65
  go_wp2_with fail
  go_loopw [4] (fun t wr => ∃ k : Nat, k ≤ n ∧ t = .int .i64 k ∧ wr.rowIs w.heap.size 59 (n * 2) (rowN Z z (k * 2)) ∧ Below w.heap.size w wr) (fun t _ => n - (intOf t).toNat)
  case atStart => exact ⟨0, Nat.zero_le _, rfl, HR0.out, (Below.refl _ _).alloc (Nat.le_refl _) _⟩
  case round =>
    clear HR0 hmk
    obtain ⟨k, hk, rfl, hrow, hbel⟩ := hrel
    have HB := hid hbel
    have HRow := hid hrow
    have hsz := hrow.lt
    clear hrow hbel
    by_cases hlt : k < n
    · rcases HA.out with h0 | ⟨b, off, rfl, hb, hc⟩
      · have := HN.out; omega
      · have c0 := (HB.out.cell (p := ⟨b, off + k * 2, none⟩) hb).trans (hc (k * 2) (by have := HN.out; omega))
        have c1 := (HB.out.cell (p := ⟨b, off + k * 2 + 1, none⟩) hb).trans (hc (k * 2 + 1) (by have := HN.out; omega))
        clear hc
        go_wp2_with (go_at_call 80; refine (toCup_any _ _ _).mono ?_; rintro e w1 ⟨rfl, hb1⟩; have HB1 := hid hb1; have HR1 := hid (HRow.out.of_block (hb1.block _ hsz)); have d0 := HR1.out.cell (i := k * 2) (by omega); have d1 := HR1.out.cell (i := k * 2 + 1) (by omega); have f0 := HR1.out.frozen (k * 2); have f1 := HR1.out.frozen (k * 2 + 1); clear hb1)
        go_roundw
        case rel => exact ⟨k + 1, by omega, by go_num, store_two HR1.out, ((HB.out.trans (HB1.out.mono HB.out.size)).setCell (Nat.le_refl _) _).setCell (Nat.le_refl _) _⟩
        case measure => simp [intOf]; omega
    · have hk' : k = n := by omega
      subst hk'
      go_wp2_with fail
      go_ret
      refine ⟨rfl, ?_, HB.out⟩
      unfold CupI
      rw [HN.out]
      exact HRow.out.congr (fun j hj => by simp [rowN, hj])
set_option maxRecDepth 20000 in
set_option maxHeartbeats 1000000 in
theorem eqCup_same (s t : Int) (w : World) :
    Calls Try.prog 81 #[.agg #[.int .i64 s, .int .i64 t], .agg #[.int .i64 s, .int .i64 t]] w fun e w' => e = .returned (.bool true) ∧ Below w.heap.size w w' := by
  have e1 : (s != s) = false := by simp
  have e2 : (t != t) = false := by simp
  go_enter Try.func81, Try.ntmps81
  go_wp2
  go_ret
  exact ⟨rfl, ((Below.refl _ _).alloc (Nat.le_refl _) _).alloc (by simp) _⟩
set_option maxRecDepth 20000 in
set_option maxHeartbeats 1000000 in
theorem eqCupS_any (Z : List Int) (n : Nat) (hn : Z.length = n * 2) (a1 a2 : Option Addr) (c1 c2 : Nat) (hl : n ≤ 2000000) (w : World) (h1 : ArgI w a1 Z) (h2 : ArgI w a2 Z) :
    Calls Try.prog 66 #[.slice a1 n c1, .slice a2 n c2] w fun e w' => e = .returned (.bool true) ∧ Below w.heap.size w w' := by
  have HN := hid hn
  have H1 := hid h1
  have H2 := hid h2
  clear h1 h2 hn
  go_enter Try.func66, Try.ntmps66
  go_wp2_with fail
  go_loopw [5] (fun t wr => ∃ k : Nat, k ≤ n ∧ t = .int .i64 k ∧ Below w.heap.size w wr) (fun t _ => n - (intOf t).toNat)
  case atStart => exact ⟨0, Nat.zero_le _, rfl, Below.refl _ _⟩
  case round =>
    obtain ⟨k, hk, rfl, hbel⟩ := hrel
    have HB := hid hbel
    have hsz := hbel.size
    clear hbel
    by_cases hlt : k < n
    · rcases H1.out with h0 | ⟨b1, o1, rfl, hb1, hc1⟩
      · have := HN.out; omega
      rcases H2.out with h0 | ⟨b2, o2, rfl, hb2, hc2⟩
      · have := HN.out; omega
      have d1 := (HB.out.cell (p := ⟨b1, o1 + k * 2, none⟩) hb1).trans (hc1 (k * 2) (by have := HN.out; omega))
      have d2 := (HB.out.cell (p := ⟨b2, o2 + k * 2, none⟩) hb2).trans (hc2 (k * 2) (by have := HN.out; omega))
      have d3 := (HB.out.cell (p := ⟨b1, o1 + k * 2 + 1, none⟩) hb1).trans (hc1 (k * 2 + 1) (by have := HN.out; omega))
      have d4 := (HB.out.cell (p := ⟨b2, o2 + k * 2 + 1, none⟩) hb2).trans (hc2 (k * 2 + 1) (by have := HN.out; omega))
      clear hc1 hc2
      generalize zAt Z (k * 2) = s at *
      generalize zAt Z (k * 2 + 1) = t at *
      go_wp2_with fail
      go_region_with (go_at_call 81; refine (eqCup_same s t _).mono ?_; rintro e w1 ⟨rfl, hb1'⟩; have HB1 : Hid (Below w.heap.size w w1) := HB.out.trans (Below.mono ⟨hb1'.os, hb1'.tape, hb1'.output, hb1'.size, hb1'.block⟩ hsz); clear hb1')
      all_goals
        go_wp2_with fail
        go_roundw
        case rel => exact ⟨k + 1, by omega, by go_num, HB1.out⟩
        case measure => simp [intOf]; omega
    · go_wp2_with fail
      go_ret
      exact ⟨rfl, HB.out⟩
set_option maxRecDepth 20000 in
set_option maxHeartbeats 1000000 in
theorem markCupS_any (k0 n : Nat) (a : Option Addr) (c : Nat) (hn : n ≤ 2000000) (hk0 : k0 ≤ 1000000000) (w : World) (h : RowC w a n) :
    Calls Try.prog 68 #[.slice a n c, .int .i64 k0] w fun e w' => e = .returned (.int .i64 (k0 + n * 2 : Nat)) ∧ ArgI w' a (markI k0 (n * 2)) ∧ Save w w' (OfT a) := by
  rcases h with rfl | ⟨b, z, m, rfl, hnm, h⟩
  · go_enter Try.func68, Try.ntmps68
    go_wp2_with fail
    go_loopw [1, 5] (fun t s wr => t = .int .i64 k0 ∧ s = .int .i64 0 ∧ w = wr) (fun _ _ _ => 0)
    case atStart => exact ⟨rfl, rfl, rfl⟩
    case round =>
      obtain ⟨rfl, rfl, rfl⟩ := hrel
      go_wp2_with fail
      go_ret
      exact ⟨rfl, Or.inl rfl, Save.refl _ _⟩
  · have HR0 := hid (h.congr (fun j hj => (show z j = rowN (markI k0 (n * 2)) z (0 * 2) j by simp [rowN])))
    have hbl := h.lt
    clear h
    go_enter Try.func68, Try.ntmps68
    go_wp2_with fail
    go_loopw [1, 5] (fun t s wr => ∃ k : Nat, k ≤ n ∧ t = .int .i64 (k0 + k * 2 : Nat) ∧ s = .int .i64 k ∧ wr.rowIs b 59 m (rowN (markI k0 (n * 2)) z (k * 2)) ∧ Save w wr (OfT (some ⟨b, 0, none⟩))) (fun _ s _ => n - (intOf s).toNat)
    case atStart => exact ⟨0, Nat.zero_le _, rfl, rfl, HR0.out, Save.refl _ _⟩
    case round =>
      clear HR0
      obtain ⟨k, hk, rfl, rfl, hrow, hsv⟩ := hrel
      have HS := hid hsv
      have HRow := hid hrow
      have hsz := hrow.lt
      clear hrow hsv
      by_cases hlt : k < n
      · have d5 := HRow.out.cell (i := k * 2) (by omega)
        have d6 := HRow.out.cell (i := k * 2 + 1) (by omega)
        have f5 := HRow.out.frozen (k * 2)
        have f6 := HRow.out.frozen (k * 2 + 1)
        have HE0 : Hid (zAt (markI k0 (n * 2)) (k * 2) = ((k0 + k * 2 : Nat) : Int)) := markI_at k0 (n * 2) (k * 2) (by omega)
        have HE1 : Hid (zAt (markI k0 (n * 2)) (k * 2 + 1) = ((k0 + (k * 2 + 1) : Nat) : Int)) := markI_at k0 (n * 2) (k * 2 + 1) (by omega)
        go_wp2_with fail
        go_roundw
        case rel =>
          refine ⟨k + 1, by omega, by simp; omega, by go_num, ?_, (HS.out.setCell (p := ⟨b, k * 2, none⟩) (fun _ => ⟨_, rfl, rfl⟩) _).setCell (p := ⟨b, k * 2 + 1, none⟩) (fun _ => ⟨_, rfl, rfl⟩) _⟩
          have := store_two HRow.out
          rw [HE0.out, HE1.out] at this
          push_cast at this ⊢
          simpa [Int.add_assoc] using this
        case measure => simp [intOf]; omega
      · have hk' : k = n := by omega
        subst hk'
        go_wp2_with fail
        go_ret
        refine ⟨rfl, Or.inr ⟨b, 0, rfl, HRow.out.lt, fun i hi => ?_⟩, HS.out⟩
        rw [markI_len] at hi
        rw [Nat.zero_add, HRow.out.cell (by omega)]
        unfold rowN
        rw [if_pos hi]
set_option maxRecDepth 20000 in
set_option maxHeartbeats 1000000 in
theorem heldCupS_any (k0 n : Nat) (a : Option Addr) (c : Nat) (hn : n ≤ 2000000) (hk0 : k0 ≤ 1000000000) (w : World) (h : ArgI w a (markI k0 (n * 2))) :
    Calls Try.prog 82 #[.slice a n c, .int .i64 k0] w fun e w' => e = .returned (.int .i64 (k0 + n * 2 : Nat)) ∧ Below w.heap.size w w' := by
  have H := hid h
  clear h
  go_enter Try.func82, Try.ntmps82
  go_wp2_with fail
  go_loopw [1, 5] (fun t s wr => ∃ k : Nat, k ≤ n ∧ t = .int .i64 (k0 + k * 2 : Nat) ∧ s = .int .i64 k ∧ Below w.heap.size w wr) (fun _ s _ => n - (intOf s).toNat)
  case atStart => exact ⟨0, Nat.zero_le _, rfl, rfl, Below.refl _ _⟩
  case round =>
    obtain ⟨k, hk, rfl, rfl, hbel⟩ := hrel
    have HB := hid hbel
    clear hbel
    by_cases hlt : k < n
    · rcases H.out with h0 | ⟨b, off, rfl, hb, hc⟩
      · rw [markI_len] at h0; omega
      have d5 := (HB.out.cell (p := ⟨b, off + k * 2, none⟩) hb).trans (hc (k * 2) (by rw [markI_len]; omega))
      have d6 := (HB.out.cell (p := ⟨b, off + k * 2 + 1, none⟩) hb).trans (hc (k * 2 + 1) (by rw [markI_len]; omega))
      rw [markI_at _ _ _ (by omega)] at d5 d6
      clear hc
      have hne : (((k0 + k * 2 : Nat) : Int) != ((k0 + k * 2 : Nat) : Int)) = false := by simp
      have hne2 : ((((k0 + (k * 2 + 1) : Nat)) : Int) != (((k0 + k * 2 : Nat) : Int) + 1)) = false := by simp; omega
      go_wp2_with fail
      go_roundw
      case rel => exact ⟨k + 1, by omega, by simp; omega, by go_num, HB.out⟩
      case measure => simp [intOf]; omega
    · have hk' : k = n := by omega
      subst hk'
      go_wp2_with fail
      go_ret
      exact ⟨rfl, HB.out⟩
end Go.Proofs.Ytfafeomegoikkaa
