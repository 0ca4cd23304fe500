/-
  The laws' own helpers over rows of numbers: szInt64S, toInt64S, eqInt64S, markInt64S, heldInt64S, by their contracts.
-/
import Derived.Test.YtljhokoojodjnaaGreatDoorSvB
import Derived.BigQuiet
namespace Go.Proofs.YtljhokoojodjnaaGreatDoor
open Go.RowKit
set_option linter.unusedVariables false
set_option linter.unusedSimpArgs false
def zAt (Z : List Int) (i : Nat) : Int := Z.getD i 0
/-- A row of numbers; it may begin within a block. -/
def ArgI (w : World) (a : Option Addr) (Z : List Int) : Prop := Z.length = 0 ∨ ∃ b off, a = some ⟨b, off, none⟩ ∧ b < w.heap.size ∧ ∀ i, i < Z.length → w.cell? ⟨b, off + i, none⟩ = some (.int .i64 (zAt Z i))
theorem ArgI.below {w w' : World} {a : Option Addr} {Z : List Int} {B : Nat} (h : ArgI w a Z) (hb : Below B w w') (hB : w.heap.size ≤ B) : ArgI w' a Z := by
  rcases h with h | ⟨b, off, e, hlt, hc⟩
  · exact Or.inl h
  · exact Or.inr ⟨b, off, e, Nat.lt_of_lt_of_le hlt hb.size, fun i hi => (hb.cell (p := ⟨b, off + i, none⟩) (by show b < B; omega)).trans (hc i hi)⟩
theorem ArgI.on {w w' : World} {a : Option Addr} {Z : List Int} (h : ArgI w a Z) (hb : Below w.heap.size w w') : ArgI w' a Z := h.below hb (Nat.le_refl _)
theorem ArgI.save {w w' : World} {a : Option Addr} {Z : List Int} {S : Nat → Prop} (h : ArgI w a Z) (hs : Save w w' S) (hS : ∀ q, a = some q → ¬ S q.block) : ArgI w' a Z := by
  rcases h with h | ⟨b, off, e, hlt, hc⟩
  · exact Or.inl h
  · exact Or.inr ⟨b, off, e, Nat.lt_of_lt_of_le hlt hs.size, fun i hi => (hs.cell (p := ⟨b, off + i, none⟩) hlt (hS ⟨b, off, none⟩ e)).trans (hc i hi)⟩
theorem Tryz.infoI : (Tryz.prog.info? 2).map (fun i => (i.zero, i.size, i.bytes)) = some (some (.int .i64 0), 1, 8) := by kernel_rfl
theorem Tryz.uIs : Tryz.prog.underlying 101 = some (.slice 2) := by kernel_rfl
/-- Block b holds a row of numbers, and nothing else. -/
def RowI (w : World) (b : Nat) (Z : List Int) : Prop := w.rowIs b 2 Z.length (fun j => .int .i64 (zAt Z j))
theorem RowI.arg {w : World} {b : Nat} {Z : List Int} (h : RowI w b Z) : ArgI w (some ⟨b, 0, none⟩) Z := Or.inr ⟨b, 0, rfl, World.rowIs.lt h, fun i hi => by rw [Nat.zero_add]; exact World.rowIs.cell h hi⟩
theorem RowI.below {w w' : World} {b : Nat} {Z : List Int} {B : Nat} (h : RowI w b Z) (hb : Below B w w') (hB : b < B) : RowI w' b Z := World.rowIs.of_block h (hb.block b hB)
/-- A row of numbers to be written to; it may be longer than what is asked for. -/
def RowIs (w : World) (a : Option Addr) (n : Nat) : Prop := n = 0 ∨ ∃ b z m, a = some ⟨b, 0, none⟩ ∧ n ≤ m ∧ w.rowIs b 2 m z
theorem RowI.mu {w : World} {b : Nat} {Z : List Int} (h : RowI w b Z) : RowIs w (some ⟨b, 0, none⟩) Z.length := Or.inr ⟨b, _, _, rfl, Nat.le_refl _, h⟩
theorem RowIs.below {w w' : World} {a : Option Addr} {n : Nat} (h : RowIs w a n) (hb : Below w.heap.size w w') : RowIs w' a n :=
  h.imp id (fun ⟨b, z, m, e, hm, hr⟩ => ⟨b, z, m, e, hm, hr.of_block (hb.block b hr.lt)⟩)
theorem RowIs.save {w w' : World} {a : Option Addr} {n : Nat} {S : Nat → Prop} (h : RowIs w a n) (hs : Save w w' S) (hS : ∀ q, a = some q → ¬ S q.block) : RowIs w' a n :=
  h.imp id (fun ⟨b, z, m, e, hm, hr⟩ => ⟨b, z, m, e, hm, hr.of_block (hs.block b hr.lt (hS _ e))⟩)
def rowN (Z : List Int) (z : Nat → Value) (k j : Nat) : Value := if j < k then .int .i64 (zAt Z j) else z j
theorem rowN_step (Z : List Int) (z : Nat → Value) (k j : Nat) : rowN Z z (k + 1) j = if j = k then .int .i64 (zAt Z k) else rowN Z z k j := by
  unfold rowN
  by_cases e : j = k
  · subst e; simp
  · by_cases h : j < k
    · rw [if_pos (by omega), if_neg e, if_pos h]
    · rw [if_neg (by omega), if_neg e, if_neg h]
set_option maxRecDepth 20000 in
set_option maxHeartbeats 1000000 in
theorem szInt64S_any (n : Nat) (a : Option Addr) (cap : Nat) (hl : n ≤ maxLen) (left : Int) (h1 : 0 ≤ left) (h2 : left ≤ 1048576) (w : World) :
    Calls Tryz.prog 226 #[.slice a n cap, .int .i64 left] w fun e w' => ∃ r : Int, e = .returned (.int .i64 r) ∧ -1 ≤ r ∧ r ≤ 1048576 ∧ (0 ≤ r → r + n ≤ left) ∧ w = w' := by
  unfold maxLen at hl
  by_cases h : left - (n : Int) < 0
  · go_enter Tryz.func226, Tryz.ntmps226
    go_wp2
    go_ret
    exact ⟨-1, rfl, by omega, by omega, by omega, rfl⟩
  · go_enter Tryz.func226, Tryz.ntmps226
    go_wp2
    go_ret
    exact ⟨left - n, rfl, by omega, by omega, fun _ => by omega, rfl⟩
set_option maxRecDepth 20000 in
set_option maxHeartbeats 1000000 in
theorem toInt64S_any (Z : List Int) (a : Option Addr) (cap : Nat) (hl : Z.length ≤ 1048576) (w : World) (hA : ArgI w a Z) :
    Calls Tryz.prog 227 #[.slice a Z.length cap] w fun e w' => e = .returned (.slice (some ⟨w.heap.size, 0, none⟩) Z.length Z.length) ∧ RowI w' w.heap.size Z ∧ Below w.heap.size w w' := by
  have hmk : ∀ w : World, Sem.run Tryz.prog (Instr.makeSlice 101 (.int .i64 Z.length) (.int .i64 Z.length)) w = .ok (.slice (some ⟨w.heap.size, 0, none⟩) Z.length Z.length) (w.alloc (.cells (madeCells #[.int .i64 0] Z.length) 2)) :=
    fun w => run_make_row' 101 2 _ 8 Tryz.uIs Tryz.infoI rfl .i64 .i64 Z.length (by omega) (by omega) w
  have HA := hid hA
  have HR0 : Hid ((w.alloc (.cells (madeCells #[.int .i64 0] Z.length) 2)).rowIs w.heap.size 2 Z.length (rowN Z (fun _ => .int .i64 0) 0)) := (World.rowIs_made w _ _ _).congr (fun j hj => by simp [rowN])
  clear hA
  go_enter Tryz.func227, Tryz.ntmps227
  go_wp2_with fail
  go_loopw [4] (fun t wr => ∃ k : Nat, k ≤ Z.length ∧ t = .int .i64 k ∧ wr.rowIs w.heap.size 2 Z.length (rowN Z (fun _ => .int .i64 0) k) ∧ Below w.heap.size w wr) (fun t _ => Z.length - (intOf t).toNat)
  case atStart => exact ⟨0, Nat.zero_le _, rfl, HR0.out, (Below.refl _ _).alloc (Nat.le_refl _) _⟩
  case round =>
    clear HR0 hmk
    obtain ⟨k, hk, rfl, hrow, hbel⟩ := hrel
    have HB := hid hbel
    have HRow := hid hrow
    have hsz := hrow.lt
    clear hrow hbel
    by_cases hlt : k < Z.length
    · rcases HA.out with h0 | ⟨b, off, rfl, hb, hc⟩
      · omega
      · have c0 := (HB.out.cell (p := ⟨b, off + k, none⟩) hb).trans (hc k hlt)
        have d0 := HRow.out.cell hlt
        have f0 := HRow.out.frozen k
        clear hc
        go_wp2_with fail
        go_roundw
        case rel => exact ⟨k + 1, by omega, by go_num, (HRow.out.set k _).congr (fun j hj => (rowN_step _ _ _ _).symm), HB.out.setCell (Nat.le_refl _) _⟩
        case measure => simp [intOf]; omega
    · have hk' : k = Z.length := by omega
      subst hk'
      go_wp2_with fail
      go_ret
      exact ⟨rfl, HRow.out.congr (fun j hj => by simp [rowN, hj]), HB.out⟩
set_option maxRecDepth 20000 in
set_option maxHeartbeats 1000000 in
theorem eqInt64S_any (Z : List Int) (n : Nat) (hn : Z.length = n) (a1 a2 : Option Addr) (c1 c2 : Nat) (hl : n ≤ 2000000) (w : World) (h1 : ArgI w a1 Z) (h2 : ArgI w a2 Z) :
    Calls Tryz.prog 228 #[.slice a1 n c1, .slice a2 n c2] w fun e w' => e = .returned (.bool true) ∧ Below w.heap.size w w' := by
  subst hn
  have H1 := hid h1
  have H2 := hid h2
  clear h1 h2
  go_enter Tryz.func228, Tryz.ntmps228
  go_wp2_with fail
  go_loopw [5] (fun t wr => ∃ k : Nat, k ≤ Z.length ∧ t = .int .i64 k ∧ Below w.heap.size w wr) (fun t _ => Z.length - (intOf t).toNat)
  case atStart => exact ⟨0, Nat.zero_le _, rfl, Below.refl _ _⟩
  case round =>
    obtain ⟨k, hk, rfl, hbel⟩ := hrel
    have HB := hid hbel
    clear hbel
    by_cases hlt : k < Z.length
    · rcases H1.out with h0 | ⟨b1, o1, rfl, hb1, hc1⟩
      · omega
      rcases H2.out with h0 | ⟨b2, o2, rfl, hb2, hc2⟩
      · omega
      have d1 := (HB.out.cell (p := ⟨b1, o1 + k, none⟩) hb1).trans (hc1 k hlt)
      have d2 := (HB.out.cell (p := ⟨b2, o2 + k, none⟩) hb2).trans (hc2 k hlt)
      clear hc1 hc2
      generalize zAt Z k = t at *
      have ht : (t != t) = false := by simp
      go_wp2_with fail
      go_quiet (fail)
      go_wp2_with fail
      go_roundw
      case rel => exact ⟨k + 1, by omega, by go_num, below_drewN HB.out _⟩
      case measure => simp [intOf]; omega
    · go_wp2_with fail
      go_ret
      exact ⟨rfl, HB.out⟩
def markI (k n : Nat) : List Int := (List.range n).map fun i => ((k + i : Nat) : Int)
theorem markI_len (k n : Nat) : (markI k n).length = n := by simp [markI]
theorem markI_at (k n i : Nat) (h : i < n) : zAt (markI k n) i = ((k + i : Nat) : Int) := by simp [zAt, markI, h]
set_option maxRecDepth 20000 in
set_option maxHeartbeats 1000000 in
theorem markInt64S_any (k0 n : Nat) (a : Option Addr) (c : Nat) (hn : n ≤ 2000000) (hk0 : k0 ≤ 1000000000) (w : World) (h : RowIs w a n) :
    Calls Tryz.prog 157 #[.slice a n c, .int .i64 k0] w fun e w' => e = .returned (.int .i64 (k0 + n : Nat)) ∧ ArgI w' a (markI k0 n) ∧ Save w w' (OfT a) := by
  rcases h with rfl | ⟨b, z, m, rfl, hnm, h⟩
  · go_enter Tryz.func157, Tryz.ntmps157
    go_wp2_with fail
    go_loopw [1, 5] (fun t s wr => t = .int .i64 k0 ∧ s = .int .i64 0 ∧ w = wr) (fun _ _ _ => 0)
    case atStart => exact ⟨rfl, rfl, rfl⟩
    case round =>
      obtain ⟨rfl, rfl, rfl⟩ := hrel
      go_wp2_with fail
      go_ret
      exact ⟨rfl, Or.inl rfl, Save.refl _ _⟩
  · have HR0 := hid (h.congr (fun j hj => (show z j = rowN (markI k0 n) z 0 j by simp [rowN])))
    have hbl := h.lt
    clear h
    go_enter Tryz.func157, Tryz.ntmps157
    go_wp2_with fail
    go_loopw [1, 5] (fun t s wr => ∃ k : Nat, k ≤ n ∧ t = .int .i64 (k0 + k : Nat) ∧ s = .int .i64 k ∧ wr.rowIs b 2 m (rowN (markI k0 n) z k) ∧ Save w wr (OfT (some ⟨b, 0, none⟩))) (fun _ s _ => n - (intOf s).toNat)
    case atStart => exact ⟨0, Nat.zero_le _, rfl, rfl, HR0.out, Save.refl _ _⟩
    case round =>
      clear HR0
      obtain ⟨k, hk, rfl, rfl, hrow, hsv⟩ := hrel
      have HS := hid hsv
      have HRow := hid hrow
      have hsz := hrow.lt
      clear hrow hsv
      by_cases hlt : k < n
      · have d5 := HRow.out.cell (i := k) (by omega)
        have f5 := HRow.out.frozen k
        have HE : Hid (zAt (markI k0 n) k = ((k0 + k : Nat) : Int)) := markI_at k0 n k hlt
        go_wp2_with fail
        go_roundw
        case rel =>
          refine ⟨k + 1, by omega, by simp; omega, by go_num, (HRow.out.set k _).congr (fun j hj => ?_), HS.out.setCell (p := ⟨b, k, none⟩) (fun _ => ⟨_, rfl, rfl⟩) _⟩
          rw [rowN_step, HE.out]
          push_cast
          rfl
        case measure => simp [intOf]; omega
      · have hk' : k = n := by omega
        subst hk'
        go_wp2_with fail
        go_ret
        refine ⟨rfl, Or.inr ⟨b, 0, rfl, HRow.out.lt, fun i hi => ?_⟩, HS.out⟩
        rw [markI_len] at hi
        rw [Nat.zero_add, HRow.out.cell (by omega)]
        unfold rowN
        rw [if_pos hi]
set_option maxRecDepth 20000 in
set_option maxHeartbeats 1000000 in
theorem heldInt64S_any (k0 n : Nat) (a : Option Addr) (c : Nat) (hn : n ≤ 2000000) (hk0 : k0 ≤ 1000000000) (w : World) (h : ArgI w a (markI k0 n)) :
    Calls Tryz.prog 182 #[.slice a n c, .int .i64 k0] w fun e w' => e = .returned (.int .i64 (k0 + n : Nat)) ∧ Below w.heap.size w w' := by
  have H := hid h
  clear h
  go_enter Tryz.func182, Tryz.ntmps182
  go_wp2_with fail
  go_loopw [1, 5] (fun t s wr => ∃ k : Nat, k ≤ n ∧ t = .int .i64 (k0 + k : Nat) ∧ s = .int .i64 k ∧ Below w.heap.size w wr) (fun _ s _ => n - (intOf s).toNat)
  case atStart => exact ⟨0, Nat.zero_le _, rfl, rfl, Below.refl _ _⟩
  case round =>
    obtain ⟨k, hk, rfl, rfl, hbel⟩ := hrel
    have HB := hid hbel
    clear hbel
    by_cases hlt : k < n
    · rcases H.out with h0 | ⟨b, off, rfl, hb, hc⟩
      · rw [markI_len] at h0; omega
      have d5 := (HB.out.cell (p := ⟨b, off + k, none⟩) hb).trans (hc k (by rw [markI_len]; exact hlt))
      rw [markI_at _ _ _ hlt] at d5
      clear hc
      have hne : (((k0 + k : Nat) : Int) != ((k0 + k : Nat) : Int)) = false := by simp
      go_wp2_with fail
      go_roundw
      case rel => exact ⟨k + 1, by omega, by simp; omega, by go_num, HB.out⟩
      case measure => simp [intOf]; omega
    · have hk' : k = n := by omega
      subst hk'
      go_wp2_with fail
      go_ret
      exact ⟨rfl, HB.out⟩
end Go.Proofs.YtljhokoojodjnaaGreatDoor
