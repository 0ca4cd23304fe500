/-
  The laws' own helpers over rows of numbers: szInt64S, toInt64S, eqInt64S, markInt64S, heldInt64S, by their contracts.
-/
import Derived.Test.YtfafeomegoikkaaSvB
import Derived.BigQuiet
namespace Go.Proofs.Ytfafeomegoikkaa
open Go.RowKit
set_option linter.unusedVariables false
set_option linter.unusedSimpArgs false
def zAt (Z : List Int) (i : Nat) : Int := Z.getD i 0
/-- A row of numbers; it may begin within a block. -/
def ArgI (w : World) (a : Option Addr) (Z : List Int) : Prop := Z.length = 0 ∨ ∃ b off, a = some ⟨b, off, none⟩ ∧ b < w.heap.size ∧ ∀ i, i < Z.length → w.cell? ⟨b, off + i, none⟩ = some (.int .i64 (zAt Z i))
theorem ArgI.below {w w' : World} {a : Option Addr} {Z : List Int} {B : Nat} (h : ArgI w a Z) (hb : Below B w w') (hB : w.heap.size ≤ B) : ArgI w' a Z := by
  rcases h with h | ⟨b, off, e, hlt, hc⟩
  · exact Or.inl h
  · exact Or.inr ⟨b, off, e, Nat.lt_of_lt_of_le hlt hb.size, fun i hi => (hb.cell (p := ⟨b, off + i, none⟩) (by show b < B; omega)).trans (hc i hi)⟩
theorem ArgI.on {w w' : World} {a : Option Addr} {Z : List Int} (h : ArgI w a Z) (hb : Below w.heap.size w w') : ArgI w' a Z := h.below hb (Nat.le_refl _)
theorem ArgI.save {w w' : World} {a : Option Addr} {Z : List Int} {S : Nat → Prop} (h : ArgI w a Z) (hs : Save w w' S) (hS : ∀ q, a = some q → ¬ S q.block) : ArgI w' a Z := by
  rcases h with h | ⟨b, off, e, hlt, hc⟩
  · exact Or.inl h
  · exact Or.inr ⟨b, off, e, Nat.lt_of_lt_of_le hlt hs.size, fun i hi => (hs.cell (p := ⟨b, off + i, none⟩) hlt (hS ⟨b, off, none⟩ e)).trans (hc i hi)⟩
theorem Try.infoI : (Try.prog.info? 2).map (fun i => (i.zero, i.size, i.bytes)) = some (some (.int .i64 0), 1, 8) := by kernel_rfl
theorem Try.uIs : Try.prog.underlying 37 = some (.slice 2) := by kernel_rfl
/-- Block b holds a row of numbers, and nothing else. -/
def RowI (w : World) (b : Nat) (Z : List Int) : Prop := w.rowIs b 2 Z.length (fun j => .int .i64 (zAt Z j))
theorem RowI.arg {w : World} {b : Nat} {Z : List Int} (h : RowI w b Z) : ArgI w (some ⟨b, 0, none⟩) Z := Or.inr ⟨b, 0, rfl, World.rowIs.lt h, fun i hi => by rw [Nat.zero_add]; exact World.rowIs.cell h hi⟩
theorem RowI.below {w w' : World} {b : Nat} {Z : List Int} {B : Nat} (h : RowI w b Z) (hb : Below B w w') (hB : b < B) : RowI w' b Z := World.rowIs.of_block h (hb.block b hB)
/-- A row of numbers to be written to; it may be longer than what is asked for. -/
def RowIs (w : World) (a : Option Addr) (n : Nat) : Prop := n = 0 ∨ ∃ b z m, a = some ⟨b, 0, none⟩ ∧ n ≤ m ∧ w.rowIs b 2 m z
theorem RowI.mu {w : World} {b : Nat} {Z : List Int} (h : RowI w b Z) : RowIs w (some ⟨b, 0, none⟩) Z.length := Or.inr ⟨b, _, _, rfl, Nat.le_refl _, h⟩
theorem RowIs.below {w w' : World} {a : Option Addr} {n : Nat} (h : RowIs w a n) (hb : Below w.heap.size w w') : RowIs w' a n :=
  h.imp id (fun ⟨b, z, m, e, hm, hr⟩ => ⟨b, z, m, e, hm, hr.of_block (hb.block b hr.lt)⟩)
theorem RowIs.save {w w' : World} {a : Option Addr} {n : Nat} {S : Nat → Prop} (h : RowIs w a n) (hs : Save w w' S) (hS : ∀ q, a = some q → ¬ S q.block) : RowIs w' a n :=
  h.imp id (fun ⟨b, z, m, e, hm, hr⟩ => ⟨b, z, m, e, hm, hr.of_block (hs.block b hr.lt (hS _ e))⟩)
def rowN (Z : List Int) (z : Nat → Value) (k j : Nat) : Value := if j < k then .int .i64 (zAt Z j) else z j
theorem rowN_step (Z : List Int) (z : Nat → Value) (k j : Nat) : rowN Z z (k + 1) j = if j = k then .int .i64 (zAt Z k) else rowN Z z k j := by
  unfold rowN
  by_cases e : j = k
  · subst e; simp
  · by_cases h : j < k
    · rw [if_pos (by omega), if_neg e, if_pos h]
    · rw [if_neg (by omega), if_neg e, if_neg h]
set_option maxRecDepth 20000 in
set_option maxHeartbeats 1000000 in
theorem eqInt64S_any (Z : List Int) (n : Nat) (hn : Z.length = n) (a1 a2 : Option Addr) (c1 c2 : Nat) (hl : n ≤ 2000000) (w : World) (h1 : ArgI w a1 Z) (h2 : ArgI w a2 Z) :
    Calls Try.prog 39 #[.slice a1 n c1, .slice a2 n c2] w fun e w' => e = .returned (.bool true) ∧ Below w.heap.size w w' := by
  subst hn
  have H1 := hid h1
  have H2 := hid h2
  clear h1 h2
  go_enter Try.func39, Try.ntmps39
  go_wp2_with fail
  go_loopw [5] (fun t wr => ∃ k : Nat, k ≤ Z.length ∧ t = .int .i64 k ∧ Below w.heap.size w wr) (fun t _ => Z.length - (intOf t).toNat)
  case atStart => exact ⟨0, Nat.zero_le _, rfl, Below.refl _ _⟩
  case round =>
    obtain ⟨k, hk, rfl, hbel⟩ := hrel
    have HB := hid hbel
    clear hbel
    by_cases hlt : k < Z.length
    · rcases H1.out with h0 | ⟨b1, o1, rfl, hb1, hc1⟩
      · omega
      rcases H2.out with h0 | ⟨b2, o2, rfl, hb2, hc2⟩
      · omega
      have d1 := (HB.out.cell (p := ⟨b1, o1 + k, none⟩) hb1).trans (hc1 k hlt)
      have d2 := (HB.out.cell (p := ⟨b2, o2 + k, none⟩) hb2).trans (hc2 k hlt)
      clear hc1 hc2
      generalize zAt Z k = t at *
      have ht : (t != t) = false := by simp
      go_wp2_with fail
      go_quiet (fail)
      go_wp2_with fail
      go_roundw
      case rel => exact ⟨k + 1, by omega, by go_num, below_drewN HB.out _⟩
      case measure => simp [intOf]; omega
    · go_wp2_with fail
      go_ret
      exact ⟨rfl, HB.out⟩
def markI (k n : Nat) : List Int := (List.range n).map fun i => ((k + i : Nat) : Int)
theorem markI_len (k n : Nat) : (markI k n).length = n := by simp [markI]
theorem markI_at (k n i : Nat) (h : i < n) : zAt (markI k n) i = ((k + i : Nat) : Int) := by simp [zAt, markI, h]
set_option maxRecDepth 20000 in
set_option maxHeartbeats 1000000 in
theorem markInt64S_any (k0 n : Nat) (a : Option Addr) (c : Nat) (hn : n ≤ 2000000) (hk0 : k0 ≤ 1000000000) (w : World) (h : RowIs w a n) :
    Calls Try.prog 40 #[.slice a n c, .int .i64 k0] w fun e w' => e = .returned (.int .i64 (k0 + n : Nat)) ∧ ArgI w' a (markI k0 n) ∧ Save w w' (OfT a) := by
  rcases h with rfl | ⟨b, z, m, rfl, hnm, h⟩
  · go_enter Try.func40, Try.ntmps40
    go_wp2_with fail
    go_loopw [1, 5] (fun t s wr => t = .int .i64 k0 ∧ s = .int .i64 0 ∧ w = wr) (fun _ _ _ => 0)
    case atStart => exact ⟨rfl, rfl, rfl⟩
    case round =>
      obtain ⟨rfl, rfl, rfl⟩ := hrel
      go_wp2_with fail
      go_ret
      exact ⟨rfl, Or.inl rfl, Save.refl _ _⟩
  · have HR0 := hid (h.congr (fun j hj => (show z j = rowN (markI k0 n) z 0 j by simp [rowN])))
    have hbl := h.lt
    clear h
    go_enter Try.func40, Try.ntmps40
    go_wp2_with fail
    go_loopw [1, 5] (fun t s wr => ∃ k : Nat, k ≤ n ∧ t = .int .i64 (k0 + k : Nat) ∧ s = .int .i64 k ∧ wr.rowIs b 2 m (rowN (markI k0 n) z k) ∧ Save w wr (OfT (some ⟨b, 0, none⟩))) (fun _ s _ => n - (intOf s).toNat)
    case atStart => exact ⟨0, Nat.zero_le _, rfl, rfl, HR0.out, Save.refl _ _⟩
    case round =>
      clear HR0
      obtain ⟨k, hk, rfl, rfl, hrow, hsv⟩ := hrel
      have HS := hid hsv
      have HRow := hid hrow
      have hsz := hrow.lt
      clear hrow hsv
      by_cases hlt : k < n
      · have d5 := HRow.out.cell (i := k) (by omega)
        have f5 := HRow.out.frozen k
        have HE : Hid (zAt (markI k0 n) k = ((k0 + k : Nat) : Int)) := markI_at k0 n k hlt
        go_wp2_with fail
        go_roundw
        case rel =>
          refine ⟨k + 1, by omega, by simp; omega, by go_num, (HRow.out.set k _).congr (fun j hj => ?_), HS.out.setCell (p := ⟨b, k, none⟩) (fun _ => ⟨_, rfl, rfl⟩) _⟩
          rw [rowN_step, HE.out]
          push_cast
          rfl
        case measure => simp [intOf]; omega
      · have hk' : k = n := by omega
        subst hk'
        go_wp2_with fail
        go_ret
        refine ⟨rfl, Or.inr ⟨b, 0, rfl, HRow.out.lt, fun i hi => ?_⟩, HS.out⟩
        rw [markI_len] at hi
        rw [Nat.zero_add, HRow.out.cell (by omega)]
        unfold rowN
        rw [if_pos hi]
set_option maxRecDepth 20000 in
set_option maxHeartbeats 1000000 in
theorem heldInt64S_any (k0 n : Nat) (a : Option Addr) (c : Nat) (hn : n ≤ 2000000) (hk0 : k0 ≤ 1000000000) (w : World) (h : ArgI w a (markI k0 n)) :
    Calls Try.prog 41 #[.slice a n c, .int .i64 k0] w fun e w' => e = .returned (.int .i64 (k0 + n : Nat)) ∧ Below w.heap.size w w' := by
  have H := hid h
  clear h
  go_enter Try.func41, Try.ntmps41
  go_wp2_with fail
  go_loopw [1, 5] (fun t s wr => ∃ k : Nat, k ≤ n ∧ t = .int .i64 (k0 + k : Nat) ∧ s = .int .i64 k ∧ Below w.heap.size w wr) (fun _ s _ => n - (intOf s).toNat)
  case atStart => exact ⟨0, Nat.zero_le _, rfl, rfl, Below.refl _ _⟩
  case round =>
    obtain ⟨k, hk, rfl, rfl, hbel⟩ := hrel
    have HB := hid hbel
    clear hbel
    by_cases hlt : k < n
    · rcases H.out with h0 | ⟨b, off, rfl, hb, hc⟩
      · rw [markI_len] at h0; omega
      have d5 := (HB.out.cell (p := ⟨b, off + k, none⟩) hb).trans (hc k (by rw [markI_len]; exact hlt))
      rw [markI_at _ _ _ hlt] at d5
      clear hc
      have hne : (((k0 + k : Nat) : Int) != ((k0 + k : Nat) : Int)) = false := by simp
      go_wp2_with fail
      go_roundw
      case rel => exact ⟨k + 1, by omega, by simp; omega, by go_num, HB.out⟩
      case measure => simp [intOf]; omega
    · have hk' : k = n := by omega
      subst hk'
      go_wp2_with fail
      go_ret
      exact ⟨rfl, HB.out⟩
end Go.Proofs.Ytfafeomegoikkaa
