/-
  The laws' marks over rows of texts: eqStringS, markStringS, heldStringS, by their contracts.
-/
import Derived.Test.YtnbegpplbjppoaaDoorMkT
namespace Go.Proofs.YtnbegpplbjppoaaDoor
open Go.RowKit
set_option linter.unusedVariables false
set_option linter.unusedSimpArgs false
def txAt (S : List ByteArray) (i : Nat) : ByteArray := S.getD i ByteArray.empty
/-- A row of texts lies in a block. -/
def StrsAt (w : World) (b : Nat) (S : List ByteArray) : Prop := b < w.heap.size ∧ ∀ i, i < S.length → w.cell? ⟨b, i, none⟩ = some (.string (txAt S i))
/-- A slice of texts, of which nothing is asked where it is empty. -/
def TsAt (w : World) (a : Option Addr) (S : List ByteArray) : Prop := S.length = 0 ∨ ∃ b, a = some ⟨b, 0, none⟩ ∧ StrsAt w b S
def RowT (w : World) (a : Option Addr) (n : Nat) : Prop := n = 0 ∨ ∃ b z, a = some ⟨b, 0, none⟩ ∧ w.rowIs b 9 n z
theorem TsAt.save {w w' : World} {a : Option Addr} {S : List ByteArray} {T : Nat → Prop} (h : TsAt w a S) (hs : Save w w' T) (hT : ∀ b, a = some ⟨b, 0, none⟩ → ¬ T b) : TsAt w' a S :=
  h.imp id (fun ⟨b, e, h1, h2⟩ => ⟨b, e, Nat.lt_of_lt_of_le h1 hs.size, fun i hi => (hs.cell (p := ⟨b, i, none⟩) h1 (hT b e)).trans (h2 i hi)⟩)
theorem TsAt.below {w w' : World} {a : Option Addr} {S : List ByteArray} (h : TsAt w a S) (hb : Below w.heap.size w w') : TsAt w' a S :=
  h.imp id (fun ⟨b, e, h1, h2⟩ => ⟨b, e, Nat.lt_of_lt_of_le h1 hb.size, fun i hi => (hb.cell (p := ⟨b, i, none⟩) h1).trans (h2 i hi)⟩)
theorem RowT.below {w w' : World} {a : Option Addr} {n : Nat} (h : RowT w a n) (hb : Below w.heap.size w w') : RowT w' a n :=
  h.imp id (fun ⟨b, z, e, hr⟩ => ⟨b, z, e, hr.of_block (hb.block b hr.lt)⟩)
theorem RowT.save {w w' : World} {a : Option Addr} {n : Nat} {T : Nat → Prop} (h : RowT w a n) (hs : Save w w' T) (hT : ∀ b, a = some ⟨b, 0, none⟩ → ¬ T b) : RowT w' a n :=
  h.imp id (fun ⟨b, z, e, hr⟩ => ⟨b, z, e, hr.of_block (hs.block b hr.lt (hT b e))⟩)
set_option maxRecDepth 20000 in
set_option maxHeartbeats 1000000 in
theorem eqStringS_any (S : List ByteArray) (n : Nat) (hn : S.length = n) (a1 a2 : Option Addr) (c1 c2 : Nat) (hl : n ≤ 1048576) (w : World) (h1 : TsAt w a1 S) (h2 : TsAt w a2 S) :
    Calls Tryd.prog 32 #[.slice a1 n c1, .slice a2 n c2] w fun e w' => e = .returned (.bool true) ∧ Below w.heap.size w w' := by
  subst hn
  have H1 := hid h1
  have H2 := hid h2
  clear h1 h2
  go_enter Tryd.func32, Tryd.ntmps32
  go_wp2_with fail
  go_loopw [5] (fun t wr => ∃ k : Nat, k ≤ S.length ∧ t = .int .i64 k ∧ Below w.heap.size w wr) (fun t _ => S.length - (intOf t).toNat)
  case atStart => exact ⟨0, Nat.zero_le _, rfl, Below.refl _ _⟩
  case round =>
    obtain ⟨k, hk, rfl, hbel⟩ := hrel
    have HB := hid hbel
    have hsz := hbel.size
    clear hbel
    by_cases hlt : k < S.length
    · rcases H1.out with h0 | ⟨b1, rfl, hb1, hc1⟩
      · omega
      rcases H2.out with h0 | ⟨b2, rfl, hb2, hc2⟩
      · omega
      have d1 := (HB.out.cell (p := ⟨b1, k, none⟩) hb1).trans (hc1 k hlt)
      have d2 := (HB.out.cell (p := ⟨b2, k, none⟩) hb2).trans (hc2 k hlt)
      clear hc1 hc2
      generalize txAt S k = t at *
      have ht : (t.toList == t.toList) = true := by simp
      go_wp2_with fail
      all_goals
        go_region
      all_goals
        go_wp2_with fail
        go_roundw
        case rel => exact ⟨k + 1, by omega, by go_num, below_drewN HB.out _⟩
        case measure => simp [intOf]; omega
    · go_wp2_with fail
      go_ret
      exact ⟨rfl, HB.out⟩
def markT (k n : Nat) : List ByteArray := (List.range n).map fun i => mtS (k + i)
theorem markT_len (k n : Nat) : (markT k n).length = n := by simp [markT]
theorem markT_at (k n i : Nat) (h : i < n) : txAt (markT k n) i = mtS (k + i) := by simp [txAt, markT, h]
def rowT (S : List ByteArray) (z : Nat → Value) (k j : Nat) : Value := if j < k then .string (txAt S j) else z j
theorem rowT_step (S : List ByteArray) (z : Nat → Value) (k j : Nat) : rowT S z (k + 1) j = if j = k then .string (txAt S k) else rowT S z k j := by
  unfold rowT
  by_cases e : j = k
  · subst e; simp
  · by_cases h : j < k
    · rw [if_pos (by omega), if_neg e, if_pos h]
    · rw [if_neg (by omega), if_neg e, if_neg h]
theorem rowT_strs {w : World} {b : Nat} {S : List ByteArray} {z : Nat → Value} (h : w.rowIs b 9 S.length (rowT S z S.length)) : StrsAt w b S :=
  ⟨h.lt, fun i hi => by rw [h.cell hi]; unfold rowT; rw [if_pos hi]⟩
end Go.Proofs.YtnbegpplbjppoaaDoor
